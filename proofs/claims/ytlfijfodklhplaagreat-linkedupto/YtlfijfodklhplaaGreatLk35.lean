import Derived.Test.YtlfijfodklhplaaGreatLk34
import Derived.Test.YtlfijfodklhplaaGreatLk33
import Derived.Test.YtlfijfodklhplaaGreatLk15
/- Bytes come: walks of In of package link, and of the calls of package arbor that hand on to it. -/
namespace Go.Proofs.YtlfijfodklhplaaGreat
open Go.RowKit
set_option linter.unusedVariables false

/-- Bytes that lie in memory. -/
structure Lies (w : World) (bb bo cap : Nat) (l : List Nat) : Prop where
  row : Row w bb bo l
  lt : bb < w.heap.size
  cap : l.length ≤ cap
  len : l.length < 140737488355328
  byte : ∀ x ∈ l, x < 256
theorem Lies.keep {ex : Nat → Prop} {w w' : World} {bb bo cap : Nat} {l : List Nat} (h : Lies w bb bo cap l) (k : Keep ex w w') (hn : ¬ ex bb) : Lies w' bb bo cap l := ⟨h.row.keep k h.lt hn, Nat.lt_of_lt_of_le h.lt k.size, h.cap, h.len, h.byte⟩

set_option maxHeartbeats 2000000 in
theorem linkIn_no (b o bb bo cap : Nat) (l : List Nat) (w : World) (hl : Lies w bb bo cap l) (hno : ∀ x, ¬ ReadOk l x) :
    Calls Tryz.prog 116 #[.pointer (some ⟨b, o, none⟩), .slice (some ⟨bb, bo, none⟩) l.length cap] w fun r w' => r = .returned (.slice none 0 0) ∧ Keep nil w w' := by
  have HD : Unit → _ := fun _ => decode_no bb bo cap l w hl.row hl.lt hl.cap hl.len hl.byte hno
  clear hl hno
  go_enter Tryz.func116, Tryz.ntmps116
  go_wp2_with fail
  refine (HD ()).mono ?_
  rintro r w1 ⟨rfl, hk1⟩
  clear HD
  go_wp2
  go_ret
  exact ⟨rfl, hk1.alloc _⟩

set_option maxHeartbeats 2000000 in
theorem linkIn_ack (c : Array Value) (t : TypeId) (b o : Nat) (e : En) (p : Pl) (bb bo cap n : Nat) (l : List Nat) (w : World) (h : Rep w c t b o e p) (hl : Lies w bb bo cap l) (hx : ReadOk l (six ⟨false, n, Fr.none0⟩)) (hn : (n : Int) < 65536) (ho : (e.out.length : Int) < 1099511627000) :
    Calls Tryz.prog 116 #[.pointer (some ⟨b, o, none⟩), .slice (some ⟨bb, bo, none⟩) l.length cap] w fun r w' => r = .returned (.slice none 0 0) ∧ ∃ p', Rep w' c t b o (e.ack n) p' ∧ Step w w' b p p' := by
  have HD : Unit → _ := fun _ => decode_yes bb bo cap l w hl.row hl.lt hl.cap hl.len hl.byte _ hx
  have HR : Unit → _ := fun _ => h
  have HO : Unit → (e.out.length : Int) < 1099511627000 := fun _ => ho
  clear h hl hx ho
  go_enter Tryz.func116, Tryz.ntmps116
  go_wp2_with fail
  refine (HD ()).mono ?_
  rintro r w1 ⟨rfl, hk1⟩
  clear HD
  simp only [six]
  go_wp2_with fail
  have hk2 : Keep nil w (w1.alloc (.cells (fc false (n : Int) 0 0 0 false) 78)) := hk1.alloc _
  refine (acked_any c t b o e p n _ ((HR ()).keep hk2 (fun _ _ x => x)) (by omega) (HO ())).mono ?_
  rintro r w2 ⟨rfl, p2, hr2, hs2⟩
  go_wp2
  go_ret
  exact ⟨rfl, p2, hr2, (Step.of_keep b p hk2).trans hs2⟩

set_option maxHeartbeats 2000000 in
theorem linkIn_msg (c : Array Value) (t : TypeId) (b o : Nat) (e : En) (p : Pl) (bb bo cap n : Nat) (m : Fr.Msg) (l : List Nat) (w : World) (h : Rep w c t b o e p) (hl : Lies w bb bo cap l) (hx : ReadOk l (six ⟨true, n, m⟩)) (hn : (n : Int) < 65536) (ho : (e.out.length : Int) < 1099511627000) :
    Calls Tryz.prog 116 #[.pointer (some ⟨b, o, none⟩), .slice (some ⟨bb, bo, none⟩) l.length cap] w fun r w' => ∃ v p', r = .returned v ∧ Told w w' b p' v (e.told n m) ∧ Rep w' c t b o (e.came n m) p' ∧ Step w w' b p p' := by
  have HD : Unit → _ := fun _ => decode_yes bb bo cap l w hl.row hl.lt hl.cap hl.len hl.byte _ hx
  have HR : Unit → _ := fun _ => h
  have HO : Unit → (e.out.length : Int) < 1099511627000 := fun _ => ho
  clear h hl hx ho
  go_enter Tryz.func116, Tryz.ntmps116
  go_wp2_with fail
  refine (HD ()).mono ?_
  rintro r w1 ⟨rfl, hk1⟩
  clear HD
  simp only [six]
  go_wp2_with fail
  have hk2 : Keep nil w (w1.alloc (.cells (fc true (n : Int) (m.kind : Int) (m.level : Int) (m.name : Int) m.finding) 78)) := hk1.alloc _
  refine (came_any c t b o e p n m _ ((HR ()).keep hk2 (fun _ _ x => x)) hn (HO ())).mono ?_
  rintro r w2 ⟨v, p2, rfl, ⟨ta, tc, rfl, hrv, hta⟩, hr2, hs2⟩
  go_wp2
  go_ret
  exact ⟨_, p2, rfl, ⟨ta, tc, rfl, hrv, fun g hg => ⟨Nat.le_trans hk2.size (hta g hg).1, (hta g hg).2⟩⟩, hr2, (Step.of_keep b p hk2).trans hs2⟩
end Go.Proofs.YtlfijfodklhplaaGreat
/- The ends of package arbor: NewEnd, Send, In, Tick, Out. -/
namespace Go.Proofs.YtlfijfodklhplaaGreat
open Go.RowKit
set_option linter.unusedVariables false

def Pl.new : Pl := ⟨none, 0, none, 0, []⟩
abbrev zero24 : Array Value := #[.int .i64 0, .slice none 0 0, .int .i64 0, .int .i64 0, .int .i64 0, .int .i64 0, .bool false, .bool false, .int .i64 0, .int .i64 0, .int .i64 0, .bool false, .bool false, .int .i64 0, .int .i64 0, .int .i64 0, .bool false, .bool false, .int .i64 0, .int .i64 0, .int .i64 0, .bool false, .bool false, .slice none 0 0]
theorem cells_new : En.new.cells Pl.new = zero24.toList := rfl

set_option maxHeartbeats 1000000 in
theorem newEnd_any (w : World) :
    Calls Tryz.prog 41 #[] w fun r w' => r = .returned (.pointer (some ⟨w.heap.size, 0, none⟩)) ∧ Rep w' zero24 147 w.heap.size 0 En.new Pl.new ∧ Keep nil w w' := by
  go_enter Tryz.func41, Tryz.ntmps41
  go_wp2
  go_ret
  refine ⟨rfl, ?_, (Keep.refl nil w).alloc _⟩
  refine { blk := ?_, fit := by simp, four := rfl, wrow := RV.nil _ _ _, orow := RV.nil _ _ _, gl := rfl, bufs := fun i g f hg => by simp [Pl.new] at hg, wb := inB_none _, ob := inB_none _, wo := fun k hk => (inB_none k hk).elim, gw := fun k hk => by simp [Pl.new] at hk, gn := List.nodup_nil, wok := fun m hm => by simp [En.new] at hm, most := by simp [En.new], awt := by simp [En.new], kn := ?_, fok := fun f hf => by simp [En.new] at hf }
  · rw [put_self _ _ (by rw [cells_new]; rfl), cells_new]
    exact Blk.new w zero24 147
  · intro i m hm
    match i, hm with
    | 0, hm => simp [En.new] at hm
    | 1, hm => simp [En.new] at hm
    | 2, hm => simp [En.new] at hm
    | 3, hm => simp [En.new] at hm
    | i + 4, hm => simp [En.new] at hm

set_option maxHeartbeats 1000000 in
theorem tick_any (c : Array Value) (t : TypeId) (b o : Nat) (e : En) (p : Pl) (w : World) (h : Rep w c t b o e p) (hn : (e.out.length : Int) < 1099511627000) :
    Calls Tryz.prog 87 #[.pointer (some ⟨b, o, none⟩)] w fun r w' => r = .returned (.tuple #[]) ∧ ∃ p', Rep w' c t b o e.tick p' ∧ Step w w' b p p' := by
  have HR : Unit → _ := fun _ => h
  clear h
  go_enter Tryz.func87, Tryz.ntmps87
  go_wp2_with fail
  refine (linkTick_any c t b o e p w (HR ()) hn).mono ?_
  rintro r w2 ⟨rfl, p2, hr2, hs2⟩
  go_wp2
  go_end0
  exact ⟨rfl, p2, hr2, hs2⟩

set_option maxHeartbeats 1000000 in
theorem out_any (c : Array Value) (t : TypeId) (b o : Nat) (e : En) (p : Pl) (w : World) (h : Rep w c t b o e p) :
    Calls Tryz.prog 136 #[.pointer (some ⟨b, o, none⟩)] w fun r w' => r = .returned (.slice p.oa e.out.length p.oc) ∧ Rep w' c t b o e.outs { p with oa := none, oc := 0, gs := [] } ∧ Keep (only b) w w' := by
  have HR : Unit → _ := fun _ => h
  clear h
  go_enter Tryz.func136, Tryz.ntmps136
  go_wp2_with fail
  refine (linkOut_any c t b o e p w (HR ())).mono ?_
  rintro r w2 ⟨rfl, hr2, hk2⟩
  go_wp2
  go_ret
  exact ⟨rfl, hr2, hk2⟩

set_option maxHeartbeats 1000000 in
theorem in_no (b o bb bo cap : Nat) (l : List Nat) (w : World) (hl : Lies w bb bo cap l) (hno : ∀ x, ¬ ReadOk l x) :
    Calls Tryz.prog 131 #[.pointer (some ⟨b, o, none⟩), .slice (some ⟨bb, bo, none⟩) l.length cap] w fun r w' => r = .returned (.slice none 0 0) ∧ Keep nil w w' := by
  have HD : Unit → _ := fun _ => linkIn_no b o bb bo cap l w hl hno
  clear hl hno
  go_enter Tryz.func131, Tryz.ntmps131
  go_wp2_with fail
  refine (HD ()).mono ?_
  rintro r w1 ⟨rfl, hk1⟩
  go_wp2
  go_ret
  exact ⟨rfl, hk1⟩

set_option maxHeartbeats 1000000 in
theorem in_ack (c : Array Value) (t : TypeId) (b o : Nat) (e : En) (p : Pl) (bb bo cap n : Nat) (l : List Nat) (w : World) (h : Rep w c t b o e p) (hl : Lies w bb bo cap l) (hx : ReadOk l (six ⟨false, n, Fr.none0⟩)) (hn : (n : Int) < 65536) (ho : (e.out.length : Int) < 1099511627000) :
    Calls Tryz.prog 131 #[.pointer (some ⟨b, o, none⟩), .slice (some ⟨bb, bo, none⟩) l.length cap] w fun r w' => r = .returned (.slice none 0 0) ∧ ∃ p', Rep w' c t b o (e.ack n) p' ∧ Step w w' b p p' := by
  have HD : Unit → _ := fun _ => linkIn_ack c t b o e p bb bo cap n l w h hl hx hn ho
  clear h hl hx hn ho
  go_enter Tryz.func131, Tryz.ntmps131
  go_wp2_with fail
  refine (HD ()).mono ?_
  rintro r w1 ⟨rfl, hk1⟩
  go_wp2
  go_ret
  exact ⟨rfl, hk1⟩

set_option maxHeartbeats 1000000 in
theorem in_msg (c : Array Value) (t : TypeId) (b o : Nat) (e : En) (p : Pl) (bb bo cap n : Nat) (m : Fr.Msg) (l : List Nat) (w : World) (h : Rep w c t b o e p) (hl : Lies w bb bo cap l) (hx : ReadOk l (six ⟨true, n, m⟩)) (hn : (n : Int) < 65536) (ho : (e.out.length : Int) < 1099511627000) :
    Calls Tryz.prog 131 #[.pointer (some ⟨b, o, none⟩), .slice (some ⟨bb, bo, none⟩) l.length cap] w fun r w' => ∃ v p', r = .returned v ∧ Told w w' b p' v (e.told n m) ∧ Rep w' c t b o (e.came n m) p' ∧ Step w w' b p p' := by
  have HD : Unit → _ := fun _ => linkIn_msg c t b o e p bb bo cap n m l w h hl hx hn ho
  clear h hl hx hn ho
  go_enter Tryz.func131, Tryz.ntmps131
  go_wp2_with fail
  refine (HD ()).mono ?_
  rintro r w1 ⟨v, p2, rfl, h2⟩
  go_wp2
  go_ret
  exact ⟨_, p2, rfl, h2⟩

set_option maxHeartbeats 1000000 in
theorem send_no (b o : Nat) (k l n : Int) (f : Bool) (hm : may k l n f = false) (w : World) :
    Calls Tryz.prog 84 #[.pointer (some ⟨b, o, none⟩), .agg #[.int .i64 k, .int .i64 l, .int .i64 n, .bool f]] w fun r w' => r = .returned (.int .i64 10) ∧ Keep nil w w' := by
  go_enter Tryz.func84, Tryz.ntmps84
  go_wp2_with fail
  go_region_with (go_at_call 111; refine (linkSend_no b o k l n f hm _).mono ?_; rintro r w1 ⟨rfl, hk1⟩)
  all_goals
    go_wp2
    go_ret
    exact ⟨rfl, (((Keep.refl nil w).alloc _).drew).trans hk1⟩

set_option maxHeartbeats 1000000 in
theorem send_full (c : Array Value) (t : TypeId) (b o : Nat) (e : En) (p : Pl) (m : Fr.Msg) (hm : MOk m) (w : World) (h : Rep w c t b o e p) (hf : e.first + e.wait.length = 65536) :
    Calls Tryz.prog 84 #[.pointer (some ⟨b, o, none⟩), mv m] w fun r w' => r = .returned (.int .i64 1) ∧ Keep nil w w' := by
  have HS : Unit → ∀ w0, Keep nil w w0 → _ := fun _ w0 k0 => linkSend_full c t b o e p m hm w0 (h.keep k0 (fun _ _ x => x)) hf
  clear hm h hf
  go_enter Tryz.func84, Tryz.ntmps84
  go_wp2_with fail
  go_region_with (go_at_call 111; refine (HS () _ (((Keep.refl nil w).alloc _).drew)).mono ?_; rintro r w1 ⟨rfl, hk1⟩)
  all_goals
    go_wp2
    go_ret
    exact ⟨rfl, (((Keep.refl nil w).alloc _).drew).trans hk1⟩

set_option maxHeartbeats 1000000 in
theorem send_yes (c : Array Value) (t : TypeId) (b o : Nat) (e : En) (p : Pl) (m : Fr.Msg) (hm : MOk m) (w : World) (h : Rep w c t b o e p) (hf : e.first + e.wait.length < 65536) (hn : (e.out.length : Int) < 1099511627000) :
    Calls Tryz.prog 84 #[.pointer (some ⟨b, o, none⟩), mv m] w fun r w' => r = .returned (.int .i64 0) ∧ ∃ p', Rep w' c t b o (e.send m) p' ∧ Step w w' b p p' := by
  have HS : Unit → ∀ w0, Keep nil w w0 → _ := fun _ w0 k0 => linkSend_yes c t b o e p m hm w0 (h.keep k0 (fun _ _ x => x)) hf hn
  clear hm h hf hn
  go_enter Tryz.func84, Tryz.ntmps84
  go_wp2_with fail
  go_region_with (go_at_call 111; refine (HS () _ (((Keep.refl nil w).alloc _).drew)).mono ?_; rintro r w1 ⟨rfl, p1, hr1, hs1⟩)
  all_goals
    go_wp2
    go_ret
    exact ⟨rfl, p1, hr1, (Step.of_keep b p (((Keep.refl nil w).alloc _).drew)).trans hs1⟩
end Go.Proofs.YtlfijfodklhplaaGreat
/- The document's end of a link: how it lies in memory; a frame goes out. -/
namespace Go.Proofs.YtlfijfodklhplaaGreat
open Go.RowKit
set_option linter.unusedVariables false
set_option linter.unusedSimpArgs false

structure Rf where
  sent : List Fr.Msg
  acked : Nat
  shown : Nat
  await : Nat
  kept : List (Nat × Fr.Msg)
  out : List Fr.Frm
def Rf.new : Rf := ⟨[], 0, 0, 0, [], []⟩
structure Rp where
  sa : Option Addr
  sc : Nat
  ka : Option Addr
  kc : Nat
  fa : Option Addr
  fc : Nat
  gs : List (Nat × Nat)
def Rp.new : Rp := ⟨none, 0, none, 0, none, 0, []⟩
def kcell (x : Nat × Fr.Msg) : List Value := .int .i64 (x.1 : Int) :: mcell x.2
def kcells (l : List (Nat × Fr.Msg)) : List Value := l.flatMap kcell
def rval (g : Nat × Nat) (f : Fr.Frm) : Value := .slice (some ⟨g.1, 0, none⟩) (flen f) g.2
def rvals (gs : List (Nat × Nat)) (l : List Fr.Frm) : List Value := List.zipWith rval gs l
def rcells (e : Rf) (p : Rp) : Array Value := #[.slice p.sa e.sent.length p.sc, .int .i64 (e.acked : Int), .int .i64 (e.shown : Int), .int .i64 (e.await : Int), .slice p.ka e.kept.length p.kc, .slice p.fa e.out.length p.fc]
/-- The blocks that a call may write; all its blocks. -/
def RWri (b : Nat) (p : Rp) (k : Nat) : Prop := k = b ∨ inB p.sa k ∨ inB p.ka k ∨ inB p.fa k
def RMine (b : Nat) (p : Rp) (k : Nat) : Prop := RWri b p k ∨ ∃ c, (k, c) ∈ p.gs
structure RRep (w : World) (b : Nat) (e : Rf) (p : Rp) : Prop where
  blk : Blk w b (rcells e p) 150
  srow : RV w 76 4 p.sa e.sent.length p.sc (mcells e.sent)
  krow : RV w 283 5 p.ka e.kept.length p.kc (kcells e.kept)
  frow : RV w 56 1 p.fa e.out.length p.fc (rvals p.gs e.out)
  gl : p.gs.length = e.out.length
  bufs : ∀ (i : Nat) (g : Nat × Nat) (f : Fr.Frm), p.gs[i]? = some g → e.out[i]? = some f → BRow w g.1 (Fr.enc f) g.2 ∧ flen f ≤ g.2
  sb : ¬ inB p.sa b
  kb : ¬ inB p.ka b
  fb : ¬ inB p.fa b
  sk : ∀ k, inB p.sa k → ¬ inB p.ka k
  sf : ∀ k, inB p.sa k → ¬ inB p.fa k
  kf : ∀ k, inB p.ka k → ¬ inB p.fa k
  gw : ∀ k c, (k, c) ∈ p.gs → ¬ RWri b p k
  wok : ∀ m ∈ e.sent, MOk m
  most : e.sent.length ≤ 65536
  sh : e.shown ≤ e.sent.length
  ac : e.acked ≤ e.shown
  fok : ∀ f ∈ e.out, FrOk f
theorem RRep.keep {ex : Nat → Prop} {w w' : World} {b : Nat} {e : Rf} {p : Rp} (h : RRep w b e p) (k : Keep ex w w') (hn : ∀ i, RMine b p i → ¬ ex i) : RRep w' b e p :=
  { h with
    blk := h.blk.keep k (hn b (Or.inl (Or.inl rfl)))
    srow := h.srow.keep k (fun g hg => hn g (Or.inl (Or.inr (Or.inl hg))))
    krow := h.krow.keep k (fun g hg => hn g (Or.inl (Or.inr (Or.inr (Or.inl hg)))))
    frow := h.frow.keep k (fun g hg => hn g (Or.inl (Or.inr (Or.inr (Or.inr hg)))))
    bufs := fun i g f hg hf => ⟨(h.bufs i g f hg hf).1.keep k (hn g.1 (Or.inr ⟨g.2, List.mem_of_getElem? hg⟩)), (h.bufs i g f hg hf).2⟩ }
theorem RRep.lt {w : World} {b : Nat} {e : Rf} {p : Rp} (h : RRep w b e p) : ∀ i, RMine b p i → i < w.heap.size := by
  rintro i ((rfl | hi | hi | hi) | ⟨c, hi⟩)
  · exact h.blk.lt
  · exact h.srow.lt i hi
  · exact h.krow.lt i hi
  · exact h.frow.lt i hi
  · obtain ⟨j, hj, e1⟩ := List.getElem_of_mem hi
    have hj' : j < e.out.length := by have := h.gl; omega
    have := (h.bufs j p.gs[j] e.out[j] (List.getElem?_eq_getElem hj) (List.getElem?_eq_getElem hj')).1.lt
    rw [e1] at this
    exact this
/-- What a call on an end may do besides. -/
structure RStep (w w' : World) (b : Nat) (p p' : Rp) : Prop where
  wri : ∀ k, RWri b p' k → RWri b p k ∨ w.heap.size ≤ k
  gs : ∀ k c, (k, c) ∈ p'.gs → (∃ c', (k, c') ∈ p.gs) ∨ w.heap.size ≤ k
  keep : Keep (RWri b p) w w'
theorem RStep.refl (w : World) (b : Nat) (p : Rp) : RStep w w b p p := ⟨fun _ h => Or.inl h, fun _ c h => Or.inl ⟨c, h⟩, Keep.refl _ _⟩
theorem RStep.of_keep {w w1 : World} (b : Nat) (p : Rp) (h : Keep nil w w1) : RStep w w1 b p p := ⟨fun _ h => Or.inl h, fun _ c h => Or.inl ⟨c, h⟩, h.mono (fun _ _ e => e.elim)⟩
theorem RStep.trans {w w1 w2 : World} {b : Nat} {p p1 p2 : Rp} (h : RStep w w1 b p p1) (k : RStep w1 w2 b p1 p2) : RStep w w2 b p p2 :=
  ⟨fun i hi => (k.wri i hi).elim (fun x => h.wri i x) (fun x => Or.inr (Nat.le_trans h.keep.size x)), fun i c hi => (k.gs i c hi).elim (fun ⟨c', x⟩ => h.gs i c' x) (fun x => Or.inr (Nat.le_trans h.keep.size x)),
    h.keep.trans' k.keep (fun i hi x => (h.wri i x).elim id (fun y => by omega))⟩
theorem RStep.mine {w w' : World} {b : Nat} {p p' : Rp} (h : RStep w w' b p p') : ∀ k, RMine b p' k → RMine b p k ∨ w.heap.size ≤ k := fun k hk => by
  rcases hk with hk | ⟨c, hk⟩
  · exact (h.wri k hk).imp Or.inl id
  · exact (h.gs k c hk).imp Or.inr id
/-- A cell of the end is written; its lists stay. -/
theorem RRep.set {w : World} {b : Nat} {e e' : Rf} {p : Rp} (h : RRep w b e p) (i : Nat) (v : Value) (hc : (rcells e p).setIfInBounds i v = rcells e' p) (h1 : e'.sent = e.sent) (h2 : e'.kept = e.kept) (h3 : e'.out = e.out) (h4 : e'.shown ≤ e.sent.length) (h5 : e'.acked ≤ e'.shown) :
    RRep (w.setCell ⟨b, i, none⟩ v) b e' p ∧ RStep w (w.setCell ⟨b, i, none⟩ v) b p p := by
  have ks : Keep (only b) w (w.setCell ⟨b, i, none⟩ v) := (Keep.refl (only b) w).setCell (p := ⟨b, i, none⟩) (fun _ => rfl) _
  refine ⟨⟨?_, ?_, ?_, ?_, by rw [h3]; exact h.gl, ?_, h.sb, h.kb, h.fb, h.sk, h.sf, h.kf, h.gw, by rw [h1]; exact h.wok, by rw [h1]; exact h.most, by rw [h1]; exact h4, h5, by rw [h3]; exact h.fok⟩, ⟨fun _ x => Or.inl x, fun _ c x => Or.inl ⟨c, x⟩, ks.mono (fun i _ e => Or.inl e)⟩⟩
  · rw [← hc]; exact h.blk.set i v
  · rw [h1]; exact h.srow.keep ks (fun g hg e => h.sb (e ▸ hg))
  · rw [h2]; exact h.krow.keep ks (fun g hg e => h.kb (e ▸ hg))
  · rw [h3]; exact h.frow.keep ks (fun g hg e => h.fb (e ▸ hg))
  · intro j g f hg hf
    rw [h3] at hf
    have := h.bufs j g f hg hf
    exact ⟨this.1.keep ks (fun e => h.gw g.1 g.2 (List.mem_of_getElem? hg) (Or.inl e)), this.2⟩

theorem rvals_append (gs : List (Nat × Nat)) (l : List Fr.Frm) (h : gs.length = l.length) (g : Nat × Nat) (f : Fr.Frm) : rvals (gs ++ [g]) (l ++ [f]) = rvals gs l ++ [rval g f] := by
  simp [rvals, List.zipWith_append h]

theorem RRep.out_one {w w1 : World} {b : Nat} {e : Rf} {p : Rp} (h : RRep w b e p) (f : Fr.Frm) (g : Nat × Nat) (hf : FrOk f) (hg : BRow w g.1 (Fr.enc f) g.2) (hgc : flen f ≤ g.2) (hgm : ¬ RMine b p g.1) (a' : Option Addr) (c' : Nat)
    (hr : RV w1 56 1 a' (e.out.length + 1) c' (rvals p.gs e.out ++ [rval g f])) (ha : ∀ k, inB a' k → inB p.fa k ∨ w.heap.size ≤ k) (hk : Keep (inB p.fa) w w1) :
    RRep (w1.setCell ⟨b, 5, none⟩ (.slice a' (e.out.length + 1) c')) b { e with out := e.out ++ [f] } { p with fa := a', fc := c', gs := p.gs ++ [g] } := by
  have ks : Keep (only b) w1 (w1.setCell ⟨b, 5, none⟩ (.slice a' (e.out.length + 1) c')) := (Keep.refl (only b) w1).setCell (p := ⟨b, 5, none⟩) (fun _ => rfl) _
  have hlt := h.lt
  have hb0 := h.blk.lt
  have hab : ∀ k, inB a' k → k ≠ b := fun k hk' e => (ha k hk').elim (fun x => h.fb (e ▸ x)) (fun x => by omega)
  have hs2 : ∀ k, inB a' k → ¬ inB p.sa k := fun k hk' e => (ha k hk').elim (fun x => h.sf k e x) (fun x => by have := h.srow.lt k e; omega)
  have hk2 : ∀ k, inB a' k → ¬ inB p.ka k := fun k hk' e => (ha k hk').elim (fun x => h.kf k e x) (fun x => by have := h.krow.lt k e; omega)
  refine ⟨?_, ?_, ?_, ?_, by simp [h.gl], ?_, h.sb, h.kb, fun x => hab b x rfl, h.sk, fun k x y => hs2 k y x, fun k x y => hk2 k y x, ?_, h.wok, h.most, h.sh, h.ac, ?_⟩
  · have := (h.blk.keep hk h.fb).set 5 (.slice a' (e.out.length + 1) c')
    have e1 : (rcells e p).setIfInBounds 5 (.slice a' (e.out.length + 1) c') = rcells { e with out := e.out ++ [f] } { p with fa := a', fc := c', gs := p.gs ++ [g] } := by
      simp [rcells]
    rwa [e1] at this
  · exact (h.srow.keep hk (fun k x y => h.sf k x y)).keep ks (fun k x y => h.sb (y ▸ x))
  · exact (h.krow.keep hk (fun k x y => h.kf k x y)).keep ks (fun k x y => h.kb (y ▸ x))
  · show RV _ _ _ a' (e.out ++ [f]).length c' (rvals (p.gs ++ [g]) (e.out ++ [f]))
    rw [rvals_append _ _ h.gl, List.length_append]
    exact hr.keep ks (fun k x => hab k x)
  · intro i g' f' hg' hf'
    have hgw : ∀ k c, BRow w k (Fr.enc f') c → ¬ inB p.fa k → k ≠ b → BRow (w1.setCell ⟨b, 5, none⟩ (.slice a' (e.out.length + 1) c')) k (Fr.enc f') c := fun k c hb h1 h2 => (hb.keep hk h1).keep ks h2
    by_cases hi : i < p.gs.length
    · have hi' : i < e.out.length := by have := h.gl; omega
      rw [List.getElem?_append_left hi] at hg'
      rw [List.getElem?_append_left hi'] at hf'
      have hw := h.gw g'.1 g'.2 (List.mem_of_getElem? hg')
      exact ⟨hgw g'.1 g'.2 (h.bufs i g' f' hg' hf').1 (fun x => hw (Or.inr (Or.inr (Or.inr x)))) (fun x => hw (Or.inl x)), (h.bufs i g' f' hg' hf').2⟩
    · have hi' : ¬ i < e.out.length := by have := h.gl; omega
      rw [List.getElem?_append_right (by omega)] at hg' hf'
      have e0 : i - p.gs.length = 0 := by have := (List.getElem?_eq_some_iff.1 hg').1; simp at this; omega
      have e1 : i - e.out.length = 0 := by have := h.gl; omega
      rw [e0] at hg'
      rw [e1] at hf'
      simp at hg' hf'
      subst hg' hf'
      exact ⟨hgw g.1 g.2 hg (fun x => hgm (Or.inl (Or.inr (Or.inr (Or.inr x))))) (fun x => hgm (Or.inl (Or.inl x))), hgc⟩
  · intro k c hk'
    have key : ∀ k, ¬ RWri b p k → k < w.heap.size → ¬ RWri b { p with fa := a', fc := c', gs := p.gs ++ [g] } k := by
      intro k h1 h2 h3
      rcases h3 with x | x | x | x
      · exact h1 (Or.inl x)
      · exact h1 (Or.inr (Or.inl x))
      · exact h1 (Or.inr (Or.inr (Or.inl x)))
      · rcases ha k x with y | y
        · exact h1 (Or.inr (Or.inr (Or.inr y)))
        · omega
    rcases List.mem_append.1 hk' with x | x
    · exact key k (h.gw k c x) (hlt k (Or.inr ⟨c, x⟩))
    · simp at x
      have e1 : k = g.1 := by rw [← x]
      rw [e1]
      exact key g.1 (fun y => hgm (Or.inl y)) hg.lt
  · intro f' hf'
    rcases List.mem_append.1 hf' with x | x
    · exact h.fok f' x
    · simp at x; subst x; exact hf

set_option maxRecDepth 100000 in
set_option maxHeartbeats 1000000 in
theorem refFrame_any (b : Nat) (e : Rf) (p : Rp) (f : Fr.Frm) (hf : FrOk f) (w : World) (h : RRep w b e p) (hn : (e.out.length : Int) < 5864062014000) :
    Calls Tryz.prog 134 #[.pointer (some ⟨b, 0, none⟩), .agg (fv f)] w fun r w' => r = .returned (.tuple #[]) ∧ ∃ p', RRep w' b { e with out := e.out ++ [f] } p' ∧ RStep w w' b p p' ∧ p'.sa = p.sa ∧ p'.sc = p.sc ∧ p'.ka = p.ka ∧ p'.kc = p.kc := by
  have hbl := h.blk.lt
  have HF : Unit → FrOk f := fun _ => hf
  have HR : Unit → RRep w b e p := fun _ => h
  clear h hf
  go_enter Tryz.func134, Tryz.ntmps134
  go_wp2_with fail
  refine (refenc_any f (HF ()) _).mono ?_
  rintro r w1 ⟨g, gc, rfl, hg, hgc, hb, hk1⟩
  have hk0 : Keep nil w w1 := ((Keep.refl nil w).alloc _).trans hk1
  have h1 := (HR ()).keep hk0 (fun _ _ x => x)
  have hz := hk0.size
  simp only [World.size_alloc] at hg
  have q1 := h1.blk.cell 5
  simp [rcells] at q1
  have hf5 := h1.blk.frozen 5
  have HB : Unit → BRow w1 g (Fr.enc f) gc ∧ flen f ≤ gc := fun _ => ⟨hb, hgc⟩
  have H1 : Unit → RRep w1 b e p := fun _ => h1
  have hr := h1.frow
  have hob := h1.fb
  clear hb h1 hgc
  go_wp2_with (at_builtin; refine wpList_append_rv _ rfl (.tmp 15) (.tmp 17) 105 rfl 56 (.slice none 0 0) 1 24 Tryz.underlying105 list_info rfl p.fa e.out.length p.fc rfl (rvals p.gs e.out) (hr.alloc _) ⟨w1.heap.size, 0, none⟩ 1 1 (by omega) rfl [rval (g, gc) f] rfl (cells_list w1 [rval (g, gc) f] 56 _ rfl) (by simp [rval, Value.oneCell']) (by omega) (by omega) ?_; intro a' c' w2 hr2 hg2 hk2; have hk3 : Keep (inB p.fa) w1 w2 := ((Keep.refl _ w1).alloc _).trans hk2; have q2 := (hk3.cell b 5 (by omega) hob).trans q1; have q3 := (hk3.frozen b 5 (by omega) hob).trans hf5)
  go_end0
  have h1 := H1 ()
  refine ⟨rfl, { p with fa := a', fc := c', gs := p.gs ++ [(g, gc)] }, ?_, ?_, rfl, rfl, rfl, rfl⟩
  · exact h1.out_one f (g, gc) (HF ()) (HB ()).1 (HB ()).2 (fun x => by have := (HR ()).lt g x; omega) a' c' hr2 (fun k hk => (hg2 k hk).imp id (fun e => by rw [e]; simp)) hk3
  · have ha : ∀ k, inB a' k → inB p.fa k ∨ w.heap.size ≤ k := fun k hk => (hg2 k hk).imp id (fun e => by rw [e]; simp; omega)
    refine ⟨fun k hk => ?_, fun k c hk => ?_, ?_⟩
    · rcases hk with x | x | x | x
      · exact Or.inl (Or.inl x)
      · exact Or.inl (Or.inr (Or.inl x))
      · exact Or.inl (Or.inr (Or.inr (Or.inl x)))
      · exact (ha k x).imp (fun y => Or.inr (Or.inr (Or.inr y))) id
    · rcases List.mem_append.1 hk with y | y
      · exact Or.inl ⟨c, y⟩
      · simp at y; exact Or.inr (by omega)
    · exact ((hk0.mono (ex' := RWri b p) (fun _ _ e => e.elim)).trans (hk3.mono (fun _ _ e => Or.inr (Or.inr (Or.inr e))))).setCell (p := ⟨b, 5, none⟩) (fun _ => Or.inl rfl) _
end Go.Proofs.YtlfijfodklhplaaGreat
