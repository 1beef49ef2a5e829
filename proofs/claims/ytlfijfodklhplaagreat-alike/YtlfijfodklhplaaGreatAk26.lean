import Derived.Test.YtlfijfodklhplaaGreatAk25
import Derived.Test.YtlfijfodklhplaaGreatAk24
import Derived.Test.YtlfijfodklhplaaGreatAk21
import Derived.Test.YtlfijfodklhplaaGreatAk10
/- Bytes come: walks of In of package link, and of the calls of package arbor that hand on to it. -/
namespace Go.Proofs.YtlfijfodklhplaaGreat
open Go.RowKit
set_option linter.unusedVariables false

/-- Bytes that lie in memory. -/
structure Lies (w : World) (bb bo cap : Nat) (l : List Nat) : Prop where
  row : Row w bb bo l
  lt : bb < w.heap.size
  cap : l.length ≤ cap
  len : l.length < 140737488355328
  byte : ∀ x ∈ l, x < 256
theorem Lies.keep {ex : Nat → Prop} {w w' : World} {bb bo cap : Nat} {l : List Nat} (h : Lies w bb bo cap l) (k : Keep ex w w') (hn : ¬ ex bb) : Lies w' bb bo cap l := ⟨h.row.keep k h.lt hn, Nat.lt_of_lt_of_le h.lt k.size, h.cap, h.len, h.byte⟩

set_option maxHeartbeats 2000000 in
theorem linkIn_no (b o bb bo cap : Nat) (l : List Nat) (w : World) (hl : Lies w bb bo cap l) (hno : ∀ x, ¬ ReadOk l x) :
    Calls Tryz.prog 116 #[.pointer (some ⟨b, o, none⟩), .slice (some ⟨bb, bo, none⟩) l.length cap] w fun r w' => r = .returned (.slice none 0 0) ∧ Keep nil w w' := by
  have HD : Unit → _ := fun _ => decode_no bb bo cap l w hl.row hl.lt hl.cap hl.len hl.byte hno
  clear hl hno
  go_enter Tryz.func116, Tryz.ntmps116
  go_wp2_with fail
  refine (HD ()).mono ?_
  rintro r w1 ⟨rfl, hk1⟩
  clear HD
  go_wp2
  go_ret
  exact ⟨rfl, hk1.alloc _⟩

set_option maxHeartbeats 2000000 in
theorem linkIn_ack (c : Array Value) (t : TypeId) (b o : Nat) (e : En) (p : Pl) (bb bo cap n : Nat) (l : List Nat) (w : World) (h : Rep w c t b o e p) (hl : Lies w bb bo cap l) (hx : ReadOk l (six ⟨false, n, Fr.none0⟩)) (hn : (n : Int) < 65536) (ho : (e.out.length : Int) < 1099511627000) :
    Calls Tryz.prog 116 #[.pointer (some ⟨b, o, none⟩), .slice (some ⟨bb, bo, none⟩) l.length cap] w fun r w' => r = .returned (.slice none 0 0) ∧ ∃ p', Rep w' c t b o (e.ack n) p' ∧ Step w w' b p p' := by
  have HD : Unit → _ := fun _ => decode_yes bb bo cap l w hl.row hl.lt hl.cap hl.len hl.byte _ hx
  have HR : Unit → _ := fun _ => h
  have HO : Unit → (e.out.length : Int) < 1099511627000 := fun _ => ho
  clear h hl hx ho
  go_enter Tryz.func116, Tryz.ntmps116
  go_wp2_with fail
  refine (HD ()).mono ?_
  rintro r w1 ⟨rfl, hk1⟩
  clear HD
  simp only [six]
  go_wp2_with fail
  have hk2 : Keep nil w (w1.alloc (.cells (fc false (n : Int) 0 0 0 false) 78)) := hk1.alloc _
  refine (acked_any c t b o e p n _ ((HR ()).keep hk2 (fun _ _ x => x)) (by omega) (HO ())).mono ?_
  rintro r w2 ⟨rfl, p2, hr2, hs2⟩
  go_wp2
  go_ret
  exact ⟨rfl, p2, hr2, (Step.of_keep b p hk2).trans hs2⟩

set_option maxHeartbeats 2000000 in
theorem linkIn_msg (c : Array Value) (t : TypeId) (b o : Nat) (e : En) (p : Pl) (bb bo cap n : Nat) (m : Fr.Msg) (l : List Nat) (w : World) (h : Rep w c t b o e p) (hl : Lies w bb bo cap l) (hx : ReadOk l (six ⟨true, n, m⟩)) (hn : (n : Int) < 65536) (ho : (e.out.length : Int) < 1099511627000) :
    Calls Tryz.prog 116 #[.pointer (some ⟨b, o, none⟩), .slice (some ⟨bb, bo, none⟩) l.length cap] w fun r w' => ∃ v p', r = .returned v ∧ Told w w' b p' v (e.told n m) ∧ Rep w' c t b o (e.came n m) p' ∧ Step w w' b p p' := by
  have HD : Unit → _ := fun _ => decode_yes bb bo cap l w hl.row hl.lt hl.cap hl.len hl.byte _ hx
  have HR : Unit → _ := fun _ => h
  have HO : Unit → (e.out.length : Int) < 1099511627000 := fun _ => ho
  clear h hl hx ho
  go_enter Tryz.func116, Tryz.ntmps116
  go_wp2_with fail
  refine (HD ()).mono ?_
  rintro r w1 ⟨rfl, hk1⟩
  clear HD
  simp only [six]
  go_wp2_with fail
  have hk2 : Keep nil w (w1.alloc (.cells (fc true (n : Int) (m.kind : Int) (m.level : Int) (m.name : Int) m.finding) 78)) := hk1.alloc _
  refine (came_any c t b o e p n m _ ((HR ()).keep hk2 (fun _ _ x => x)) hn (HO ())).mono ?_
  rintro r w2 ⟨v, p2, rfl, ⟨ta, tc, rfl, hrv, hta⟩, hr2, hs2⟩
  go_wp2
  go_ret
  exact ⟨_, p2, rfl, ⟨ta, tc, rfl, hrv, fun g hg => ⟨Nat.le_trans hk2.size (hta g hg).1, (hta g hg).2⟩⟩, hr2, (Step.of_keep b p hk2).trans hs2⟩
end Go.Proofs.YtlfijfodklhplaaGreat
/- A net: how it lies in memory, and that its parts lie apart. -/
namespace Go.Proofs.YtlfijfodklhplaaGreat
open Go.RowKit
set_option linter.unusedVariables false

/-- The blocks of an end's lists. -/
def ELst (p : Pl) (k : Nat) : Prop := inB p.wa k ∨ inB p.oa k ∨ k ∈ p.gs
/-- An end, but for the block that it lies in. -/
structure RepL (w : World) (e : En) (p : Pl) : Prop where
  four : e.kept.length = 4
  wrow : RV w 76 4 p.wa e.wait.length p.wc (mcells e.wait)
  orow : RV w 56 1 p.oa e.out.length p.oc (ovals p.gs e.out)
  gl : p.gs.length = e.out.length
  bufs : ∀ (i g : Nat) (f : Fr.Frm), p.gs[i]? = some g → e.out[i]? = some f → Buf w g (Fr.enc f) 10
  wo : ∀ k, inB p.wa k → ¬ inB p.oa k
  gw : ∀ k, k ∈ p.gs → ¬ inB p.wa k ∧ ¬ inB p.oa k
  gn : p.gs.Nodup
  wok : ∀ m ∈ e.wait, MOk m
  most : e.first + e.wait.length ≤ 65536
  awt : e.await ≤ 65536
  kn : ∀ (i : Nat) (m : Fr.Msg), e.kept[i]? = some (some m) → e.await + i < 65536
  fok : ∀ f ∈ e.out, FrOk f
theorem Rep.lst {w : World} {c : Array Value} {t : TypeId} {b o : Nat} {e : En} {p : Pl} (h : Rep w c t b o e p) : RepL w e p :=
  ⟨h.four, h.wrow, h.orow, h.gl, h.bufs, h.wo, fun k hk => ⟨fun x => h.gw k hk (Or.inr (Or.inl x)), fun x => h.gw k hk (Or.inr (Or.inr x))⟩, h.gn, h.wok, h.most, h.awt, h.kn, h.fok⟩
theorem RepL.rep {w : World} {c : Array Value} {t : TypeId} {b o : Nat} {e : En} {p : Pl} (h : RepL w e p) (hb : Blk w b (put c o (e.cells p)) t) (hf : o + 24 ≤ c.size) (hn : ¬ ELst p b) : Rep w c t b o e p where
  blk := hb
  fit := hf
  four := h.four
  wrow := h.wrow
  orow := h.orow
  gl := h.gl
  bufs := h.bufs
  wb := fun x => hn (Or.inl x)
  ob := fun x => hn (Or.inr (Or.inl x))
  wo := h.wo
  gw := fun k hk => by
    rintro (rfl | x | x)
    · exact hn (Or.inr (Or.inr hk))
    · exact (h.gw k hk).1 x
    · exact (h.gw k hk).2 x
  gn := h.gn
  wok := h.wok
  most := h.most
  awt := h.awt
  kn := h.kn
  fok := h.fok
theorem Rep.notL {w : World} {c : Array Value} {t : TypeId} {b o : Nat} {e : En} {p : Pl} (h : Rep w c t b o e p) : ¬ ELst p b := by
  rintro (x | x | x)
  · exact h.wb x
  · exact h.ob x
  · exact h.gw b x (Or.inl rfl)
theorem RepL.keep {ex : Nat → Prop} {w w' : World} {e : En} {p : Pl} (h : RepL w e p) (k : Keep ex w w') (hn : ∀ i, ELst p i → ¬ ex i) : RepL w' e p where
  four := h.four
  wrow := h.wrow.keep k (fun g hg => hn g (Or.inl hg))
  orow := h.orow.keep k (fun g hg => hn g (Or.inr (Or.inl hg)))
  gl := h.gl
  bufs := fun i g f hg hf => (h.bufs i g f hg hf).keep k (hn g (Or.inr (Or.inr (List.mem_of_getElem? hg))))
  wo := h.wo
  gw := h.gw
  gn := h.gn
  wok := h.wok
  most := h.most
  awt := h.awt
  kn := h.kn
  fok := h.fok
theorem RepL.lt {w : World} {e : En} {p : Pl} (h : RepL w e p) : ∀ i, ELst p i → i < w.heap.size := by
  rintro i (hi | hi | hi)
  · exact h.wrow.lt i hi
  · exact h.orow.lt i hi
  · obtain ⟨j, hj, rfl⟩ := List.getElem_of_mem hi
    have hj' : j < e.out.length := by have := h.gl; omega
    exact (h.bufs j p.gs[j] e.out[j] (List.getElem?_eq_getElem hj) (List.getElem?_eq_getElem hj')).lt

/-- A side: where it leads to, its end, and where that one's lists lie. -/
structure Sd where
  to_ : Nat
  e : En
  p : Pl
def sdcell (d : Sd) : List Value := .int .i64 (d.to_ : Int) :: d.e.cells d.p
def sdcells (l : List Sd) : List Value := l.flatMap sdcell
/-- A spot: its node, and its sides. -/
structure Sp where
  b : Nat
  n : Nod
  p : Np
  sa : Option Addr
  sc : Nat
  ss : List Sd
def spcell (s : Sp) : List Value := [.pointer (some ⟨s.b, 0, none⟩), .slice s.sa s.ss.length s.sc]
def spcells (l : List Sp) : List Value := l.flatMap spcell
/-- A net, and where its lists lie; 'way': the blocks that are no part of it, and that lie apart from it. -/
structure Nt where
  nb : Nat
  ty : TypeId
  es : List Ed
  ea : Option Addr
  ec : Nat
  sps : List Sp
  pa : Option Addr
  pc : Nat
  L : List Pk
  ba : Option Addr
  bc : Nat
  way : Nat → Prop
inductive LP where
  | node | side
  | ends (j : Nat)
inductive Pt where
  | net | edges | spots | bag | pks | way
  | spot (i : Nat) (a : LP)
def Sp.own (s : Sp) : LP → Nat → Prop
  | .node, k => NMine s.b s.p k
  | .side, k => inB s.sa k
  | .ends j, k => ∃ d, s.ss[j]? = some d ∧ ELst d.p k
def Nt.own (N : Nt) : Pt → Nat → Prop
  | .net, k => k = N.nb
  | .edges, k => inB N.ea k
  | .spots, k => inB N.pa k
  | .bag, k => inB N.ba k
  | .pks, k => ∃ x ∈ N.L, x.g = k
  | .way, k => N.way k
  | .spot i a, k => ∃ s, N.sps[i]? = some s ∧ s.own a k
def Nt.Own (N : Nt) (k : Nat) : Prop := ∃ i, i ≠ Pt.way ∧ N.own i k
def Nt.cells (N : Nt) : Array Value := #[.slice N.ea N.es.length N.ec, .slice N.pa N.sps.length N.pc, .slice N.ba N.L.length N.bc]
structure NtR (w : World) (N : Nt) : Prop where
  blk : Blk w N.nb N.cells N.ty
  erow : RV w 30 3 N.ea N.es.length N.ec (ecells N.es)
  prow : RV w 125 2 N.pa N.sps.length N.pc (spcells N.sps)
  brow : RV w 200 4 N.ba N.L.length N.bc (pkcells N.L)
  pks : ∀ x ∈ N.L, PRow w x.g x.l x.c
  pkn : N.L.Pairwise (fun x y => x.g ≠ y.g)
  nods : ∀ (i : Nat) (s : Sp), N.sps[i]? = some s → NRep w s.b s.n s.p
  sides : ∀ (i : Nat) (s : Sp), N.sps[i]? = some s → RV w 181 25 s.sa s.ss.length s.sc (sdcells s.ss)
  ends : ∀ (i : Nat) (s : Sp), N.sps[i]? = some s → ∀ (j : Nat) (d : Sd), s.ss[j]? = some d → RepL w d.e d.p
  wayl : ∀ k, N.way k → k < w.heap.size
  apart : ∀ i j k, N.own i k → N.own j k → i = j
theorem NtR.lt {w : World} {N : Nt} (h : NtR w N) : ∀ i k, N.own i k → k < w.heap.size := by
  intro i k hk
  cases i with
  | net => rw [show k = N.nb from hk]; exact h.blk.lt
  | edges => exact h.erow.lt k hk
  | spots => exact h.prow.lt k hk
  | bag => exact h.brow.lt k hk
  | pks => obtain ⟨x, hx, rfl⟩ := hk; exact (h.pks x hx).lt x.g (inB_self _ _)
  | way => exact h.wayl k hk
  | spot i a =>
    obtain ⟨s, hs, hk⟩ := hk
    cases a with
    | node => exact (h.nods i s hs).lt k hk
    | side => exact (h.sides i s hs).lt k hk
    | ends j => obtain ⟨d, hd, hk⟩ := hk; exact (h.ends i s hs j d hd).lt k hk
theorem NtR.Olt {w : World} {N : Nt} (h : NtR w N) {k : Nat} (hk : N.Own k) : k < w.heap.size := by obtain ⟨i, _, hk⟩ := hk; exact h.lt i k hk
theorem NtR.keep {ex : Nat → Prop} {w w' : World} {N : Nt} (h : NtR w N) (k : Keep ex w w') (hn : ∀ i, N.Own i → ¬ ex i) : NtR w' N where
  blk := h.blk.keep k (hn _ ⟨.net, by simp, rfl⟩)
  erow := h.erow.keep k (fun g hg => hn g ⟨.edges, by simp, hg⟩)
  prow := h.prow.keep k (fun g hg => hn g ⟨.spots, by simp, hg⟩)
  brow := h.brow.keep k (fun g hg => hn g ⟨.bag, by simp, hg⟩)
  pks := fun x hx => (h.pks x hx).keep k (fun g hg => hn g ⟨.pks, by simp, x, hx, (inB_some.1 hg).symm⟩)
  pkn := h.pkn
  nods := fun i s hs => (h.nods i s hs).keep k (fun g hg => hn g ⟨.spot i .node, by simp, s, hs, hg⟩)
  sides := fun i s hs => (h.sides i s hs).keep k (fun g hg => hn g ⟨.spot i .side, by simp, s, hs, hg⟩)
  ends := fun i s hs j d hd => (h.ends i s hs j d hd).keep k (fun g hg => hn g ⟨.spot i (.ends j), by simp, s, hs, d, hd, hg⟩)
  wayl := fun g hg => Nat.lt_of_lt_of_le (h.wayl g hg) k.size
  apart := h.apart
theorem apart_step {N N' : Nt} {z : Nat} (I : Pt → Prop) (h : ∀ i j k, N.own i k → N.own j k → i = j) (hl : ∀ i k, N.own i k → k < z) (h0 : ∀ i, ¬ I i → ∀ k, N'.own i k → N.own i k) (h1 : ∀ i, I i → ∀ k, N'.own i k → (∃ j, I j ∧ N.own j k) ∨ z ≤ k) (h2 : ∀ i j k, I i → I j → N'.own i k → N'.own j k → i = j) : ∀ i j k, N'.own i k → N'.own j k → i = j := by
  have one : ∀ i j k, I i → ¬ I j → N'.own i k → N'.own j k → False := fun i j k hi hj ki kj => by
    have kj' := h0 j hj k kj
    rcases h1 i hi k ki with ⟨j', hj', x⟩ | x
    · exact hj (h j' j k x kj' ▸ hj')
    · have := hl j k kj'; omega
  intro i j k ki kj
  by_cases hi : I i
  · by_cases hj : I j
    · exact h2 i j k hi hj ki kj
    · exact (one i j k hi hj ki kj).elim
  · by_cases hj : I j
    · exact (one j i k hj hi kj ki).elim
    · exact h i j k (h0 i hi k ki) (h0 j hj k kj)
/-- What a spot keeps: where it lies, and where its sides lead to. -/
def Sp.fix (s : Sp) : Nat × Option Addr × Nat × List Nat := (s.b, s.sa, s.sc, s.ss.map Sd.to_)
/-- What a call on a net may do besides. -/
structure NtTo (w w' : World) (N N' : Nt) : Prop where
  keep : Keep N.Own w w'
  mine : ∀ k, N'.Own k → N.Own k ∨ w.heap.size ≤ k
  nb : N'.nb = N.nb
  ty : N'.ty = N.ty
  es : N'.es = N.es
  ea : N'.ea = N.ea
  ec : N'.ec = N.ec
  pa : N'.pa = N.pa
  pc : N'.pc = N.pc
  fix : N'.sps.map Sp.fix = N.sps.map Sp.fix
theorem NtTo.refl (w : World) (N : Nt) : NtTo w w N N := ⟨Keep.refl _ _, fun _ h => Or.inl h, rfl, rfl, rfl, rfl, rfl, rfl, rfl, rfl⟩
theorem NtTo.of_keep {w w' : World} (N : Nt) (k : Keep nil w w') : NtTo w w' N N := ⟨k.mono (fun _ _ e => e.elim), fun _ h => Or.inl h, rfl, rfl, rfl, rfl, rfl, rfl, rfl, rfl⟩
theorem NtTo.trans {w w1 w2 : World} {N N1 N2 : Nt} (h : NtTo w w1 N N1) (k : NtTo w1 w2 N1 N2) : NtTo w w2 N N2 :=
  ⟨h.keep.trans' k.keep (fun i hi e => by
    rcases h.mine i e with h1 | h1
    · exact h1
    · omega), fun i hi => by
    rcases k.mine i hi with h1 | h1
    · exact h.mine i h1
    · exact Or.inr (Nat.le_trans h.keep.size h1), k.nb.trans h.nb, k.ty.trans h.ty, k.es.trans h.es, k.ea.trans h.ea, k.ec.trans h.ec, k.pa.trans h.pa, k.pc.trans h.pc, k.fix.trans h.fix⟩
theorem NtTo.spot {w w' : World} {N N' : Nt} (h : NtTo w w' N N') {i : Nat} {s : Sp} (hs : N.sps[i]? = some s) : ∃ s', N'.sps[i]? = some s' ∧ s'.fix = s.fix := by
  have h1 : (N'.sps.map Sp.fix)[i]? = some s.fix := by rw [h.fix, List.getElem?_map, hs]; rfl
  rw [List.getElem?_map] at h1
  obtain ⟨s', h2, h3⟩ := Option.map_eq_some_iff.1 h1
  exact ⟨s', h2, h3⟩
theorem NtTo.len {w w' : World} {N N' : Nt} (h : NtTo w w' N N') : N'.sps.length = N.sps.length := by
  have := congrArg List.length h.fix
  simpa using this
end Go.Proofs.YtlfijfodklhplaaGreat
/- A net, of which a part is turned. -/
namespace Go.Proofs.YtlfijfodklhplaaGreat
open Go.RowKit
set_option linter.unusedVariables false

theorem lset_get {α : Type} {l : List α} {i i' : Nat} {x y : α} (h : (l.set i x)[i']? = some y) : (i' = i ∧ y = x) ∨ (i' ≠ i ∧ l[i']? = some y) := by
  by_cases e : i = i'
  · subst e
    rw [List.getElem?_set_self'] at h
    obtain ⟨z, _, h2⟩ := Option.map_eq_some_iff.1 h
    exact Or.inl ⟨rfl, h2.symm⟩
  · rw [List.getElem?_set_ne e] at h
    exact Or.inr ⟨fun e' => e e'.symm, h⟩
theorem lset_self {α : Type} {l : List α} {i : Nat} {y : α} (h : l[i]? = some y) (x : α) : (l.set i x)[i]? = some x := by
  rw [List.getElem?_set_self']; rw [h]; rfl
theorem map_set_eq {α β : Type} (f : α → β) (l : List α) (i : Nat) (x y : α) (h : l[i]? = some y) (he : f x = f y) : (l.set i x).map f = l.map f := by
  apply List.ext_getElem?
  intro k
  rw [List.getElem?_map, List.getElem?_map]
  by_cases e : i = k
  · subst e; rw [lset_self h, h]; simp [he]
  · rw [List.getElem?_set_ne e]
theorem flatMap_set_eq {α β : Type} (f : α → List β) (l : List α) (i : Nat) (x y : α) (h : l[i]? = some y) (he : f x = f y) : (l.set i x).flatMap f = l.flatMap f := by
  rw [List.flatMap_def, List.flatMap_def, map_set_eq f l i x y h he]
theorem fix_parts {s s' : Sp} (h : s'.fix = s.fix) : s'.b = s.b ∧ s'.sa = s.sa ∧ s'.sc = s.sc ∧ s'.ss.map Sd.to_ = s.ss.map Sd.to_ ∧ s'.ss.length = s.ss.length := by
  simp only [Sp.fix, Prod.mk.injEq] at h
  obtain ⟨h1, h2, h3, h4⟩ := h
  exact ⟨h1, h2, h3, h4, by simpa using congrArg List.length h4⟩
theorem fix_cell {s s' : Sp} (h : s'.fix = s.fix) : spcell s' = spcell s := by
  obtain ⟨h1, h2, h3, _, h5⟩ := fix_parts h
  simp [spcell, h1, h2, h3, h5]
def Nt.setS (N : Nt) (i : Nat) (s : Sp) (R : Nat → Prop) : Nt := { N with sps := N.sps.set i s, way := fun k => N.way k ∨ R k }
theorem NtR.setS {w w' : World} {N : Nt} (h : NtR w N) {i : Nat} {s : Sp} (hs : N.sps[i]? = some s) (s' : Sp) (hf : s'.fix = s.fix) (R E : Nat → Prop) (hk : Keep E w w') (hE : ∀ k, E k → ∃ a, s.own a k)
    (hn : NRep w' s'.b s'.n s'.p) (hsd : RV w' 181 25 s'.sa s'.ss.length s'.sc (sdcells s'.ss)) (he : ∀ (j : Nat) (d : Sd), s'.ss[j]? = some d → RepL w' d.e d.p)
    (hm : ∀ a k, s'.own a k → (∃ b, s.own b k) ∨ w.heap.size ≤ k) (ha : ∀ a b k, s'.own a k → s'.own b k → a = b) (hR : ∀ k, R k → (∃ b, s.own b k) ∧ ∀ a, ¬ s'.own a k) :
    NtR w' (N.setS i s' R) ∧ NtTo w w' N (N.setS i s' R) := by
  have hsO : ∀ a k, s.own a k → N.own (.spot i a) k := fun a k hk => ⟨s, hs, hk⟩
  have hEO : ∀ k, E k → N.Own k := fun k hk => by obtain ⟨a, h1⟩ := hE k hk; exact ⟨.spot i a, by simp, hsO a k h1⟩
  have hkO : Keep N.Own w w' := hk.mono (fun k _ e => hEO k e)
  have notE : ∀ (q : Pt) (k : Nat), N.own q k → (∀ a, q ≠ .spot i a) → ¬ E k := fun q k hq hne e => by
    obtain ⟨a, h1⟩ := hE k e
    exact hne a (h.apart _ _ k hq (hsO a k h1))
  have old : ∀ i' s2, (N.sps.set i s')[i']? = some s2 → i' ≠ i → N.sps[i']? = some s2 := fun i' s2 h1 h2 => by
    rcases lset_get h1 with ⟨e, _⟩ | ⟨_, e⟩
    · exact (h2 e).elim
    · exact e
  refine ⟨⟨?_, ?_, ?_, ?_, ?_, h.pkn, ?_, ?_, ?_, ?_, ?_⟩, ⟨hkO, ?_, rfl, rfl, rfl, rfl, rfl, rfl, rfl, map_set_eq Sp.fix N.sps i s' s hs hf⟩⟩
  · have := h.blk.keep hk (notE .net N.nb rfl (by simp))
    simpa [Nt.cells, Nt.setS] using this
  · exact h.erow.keep hk (fun g hg => notE .edges g hg (by simp))
  · have := h.prow.keep hk (fun g hg => notE .spots g hg (by simp))
    simpa [Nt.setS, spcells, flatMap_set_eq spcell N.sps i s' s hs (fix_cell hf)] using this
  · exact h.brow.keep hk (fun g hg => notE .bag g hg (by simp))
  · exact fun x hx => (h.pks x hx).keep hk (fun g hg => notE .pks g ⟨x, hx, (inB_some.1 hg).symm⟩ (by simp))
  · intro i' s2 h1
    rcases lset_get h1 with ⟨e, rfl⟩ | ⟨e, h2⟩
    · exact hn
    · exact (h.nods i' s2 h2).keep hk (fun g hg => notE (.spot i' .node) g ⟨s2, h2, hg⟩ (fun a x => e (by cases x; rfl)))
  · intro i' s2 h1
    rcases lset_get h1 with ⟨e, rfl⟩ | ⟨e, h2⟩
    · exact hsd
    · exact (h.sides i' s2 h2).keep hk (fun g hg => notE (.spot i' .side) g ⟨s2, h2, hg⟩ (fun a x => e (by cases x; rfl)))
  · intro i' s2 h1 j d hd
    rcases lset_get h1 with ⟨e, rfl⟩ | ⟨e, h2⟩
    · exact he j d hd
    · exact (h.ends i' s2 h2 j d hd).keep hk (fun g hg => notE (.spot i' (.ends j)) g ⟨s2, h2, d, hd, hg⟩ (fun a x => e (by cases x; rfl)))
  · rintro k (hk1 | hk1)
    · exact Nat.lt_of_lt_of_le (h.wayl k hk1) hk.size
    · obtain ⟨⟨b, hb⟩, _⟩ := hR k hk1
      exact Nat.lt_of_lt_of_le (h.lt _ k (hsO b k hb)) hk.size
  · refine apart_step (N := N) (z := w.heap.size) (fun q => q = .way ∨ ∃ a, q = .spot i a) h.apart h.lt ?_ ?_ ?_
    · intro q hq k hk1
      cases q with
      | way => exact (hq (Or.inl rfl)).elim
      | spot i' a =>
        obtain ⟨s2, h1, h2⟩ := hk1
        have hne : i' ≠ i := fun e => hq (Or.inr ⟨a, by rw [e]⟩)
        exact ⟨s2, old i' s2 h1 hne, h2⟩
      | _ => exact hk1
    · rintro q (rfl | ⟨a, rfl⟩) k hk1
      · rcases hk1 with hk1 | hk1
        · exact Or.inl ⟨.way, Or.inl rfl, hk1⟩
        · obtain ⟨⟨b, hb⟩, _⟩ := hR k hk1
          exact Or.inl ⟨.spot i b, Or.inr ⟨b, rfl⟩, hsO b k hb⟩
      · obtain ⟨s2, h1, h2⟩ := hk1
        rcases lset_get h1 with ⟨_, rfl⟩ | ⟨e, _⟩
        · rcases hm a k h2 with ⟨b, hb⟩ | h3
          · exact Or.inl ⟨.spot i b, Or.inr ⟨b, rfl⟩, hsO b k hb⟩
          · exact Or.inr h3
        · exact (e rfl).elim
    · have no : ∀ a k, (N.setS i s' R).own .way k → (N.setS i s' R).own (.spot i a) k → False := fun a k h1 h2 => by
        obtain ⟨s2, h3, h4⟩ := h2
        rcases lset_get h3 with ⟨_, rfl⟩ | ⟨e, _⟩
        · rcases h1 with h1 | h1
          · rcases hm a k h4 with ⟨b, hb⟩ | h5
            · have := h.apart .way (.spot i b) k h1 (hsO b k hb); cases this
            · have := h.wayl k h1; omega
          · exact (hR k h1).2 a h4
        · exact e rfl
      rintro q r k (rfl | ⟨a, rfl⟩) (rfl | ⟨b, rfl⟩) h1 h2
      · rfl
      · exact (no b k h1 h2).elim
      · exact (no a k h2 h1).elim
      · obtain ⟨s2, h3, h4⟩ := h1
        obtain ⟨s3, h5, h6⟩ := h2
        rcases lset_get h3 with ⟨_, rfl⟩ | ⟨e, _⟩
        · rcases lset_get h5 with ⟨_, rfl⟩ | ⟨e, _⟩
          · rw [ha a b k h4 h6]
          · exact (e rfl).elim
        · exact (e rfl).elim
  · rintro k ⟨q, hq, hk1⟩
    cases q with
    | way => exact (hq rfl).elim
    | spot i' a =>
      obtain ⟨s2, h1, h2⟩ := hk1
      rcases lset_get h1 with ⟨rfl, rfl⟩ | ⟨e, h3⟩
      · rcases hm a k h2 with ⟨b, hb⟩ | h3
        · exact Or.inl ⟨.spot i' b, by simp, hsO b k hb⟩
        · exact Or.inr h3
      · exact Or.inl ⟨.spot i' a, by simp, s2, h3, h2⟩
    | net => exact Or.inl ⟨.net, by simp, hk1⟩
    | edges => exact Or.inl ⟨.edges, by simp, hk1⟩
    | spots => exact Or.inl ⟨.spots, by simp, hk1⟩
    | bag => exact Or.inl ⟨.bag, by simp, hk1⟩
    | pks => exact Or.inl ⟨.pks, by simp, hk1⟩
end Go.Proofs.YtlfijfodklhplaaGreat
