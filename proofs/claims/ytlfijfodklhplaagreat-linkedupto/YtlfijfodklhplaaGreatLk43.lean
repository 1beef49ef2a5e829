import Derived.Test.YtlfijfodklhplaaGreatLk42
import Derived.Deep.DeepCutAuto
import Derived.Deep.CutBlock
import Derived.Deep.RegionHeld3
import Derived.StillTailTactics
/- Walk of the book's messages, wherever they lie. -/
namespace Go.Proofs.YtlfijfodklhplaaGreat
open Go.RowKit
set_option linter.unusedVariables false
set_option linter.unusedSimpArgs false

/-- What is held while a row grows. -/
structure MrS (w w' : World) (la : Option Addr) (nl lc : Nat) (vs : List Value) (zb i : Nat) : Prop where
  keep : Keep (inB la) w w'
  row : RV w' 76 4 la nl lc vs
  z : Blk w' zb (mMark i).cells.toArray 76
  ne : ¬ inB la zb
theorem MrS.alloc {w w' : World} {la : Option Addr} {nl lc : Nat} {vs : List Value} {zb i : Nat} (h : MrS w w' la nl lc vs zb i) (o : Obj) : MrS w (w'.alloc o) la nl lc vs zb i := ⟨h.keep.alloc o, h.row.alloc o, h.z.keep ((Keep.refl nil w').alloc o) (fun e => e), h.ne⟩
theorem MrS.drew {w w' : World} {la : Option Addr} {nl lc : Nat} {vs : List Value} {zb i : Nat} (h : MrS w w' la nl lc vs zb i) : MrS w w'.drew la nl lc vs zb i := ⟨h.keep.drew, h.row.drew, h.z.keep ((Keep.refl nil w').drew) (fun e => e), h.ne⟩
theorem MrS.app {w w' w1 : World} {la a1 : Option Addr} {nl lc k1 m : Nat} {vs news : List Value} {zb i : Nat} (h : MrS w w' la nl lc vs zb i) (hb : RV w1 76 4 a1 (nl + m) k1 (vs ++ news)) (hd : (a1 = la ∧ k1 = lc) ∨ (a1 = some ⟨w'.heap.size, 0, none⟩ ∧ Keep nil w' w1)) (k : Keep (inB la) w' w1) : MrS w w1 la nl lc vs zb i :=
  ⟨h.keep.trans k, rv_after h.row hb hd, h.z.keep k h.ne, h.ne⟩
theorem MrS.ald {w X : World} {la : Option Addr} {nl lc : Nat} {vs : List Value} {zb i : Nat} {o : Obj} (h : MrS w X.drew la nl lc vs zb i) : MrS w (X.alloc o).drew la nl lc vs zb i := MrS.alloc h o
theorem heldR_in {w w' : World} {la : Option Addr} {nl lc : Nat} {vs : List Value} {zb i : Nat} (h : w'.cell? ⟨zb, 0, none⟩ = some (.int .i64 (-7070 - (i : Int))) ∧ w'.cell? ⟨zb, 1, none⟩ = some (.int .i64 0) ∧ w'.cell? ⟨zb, 2, none⟩ = some (.int .i64 0) ∧ w'.cell? ⟨zb, 3, none⟩ = some (.bool false) ∧ MrS w w' la nl lc vs zb i) : MrS w w' la nl lc vs zb i := h.2.2.2.2
theorem heldR_of {w w' : World} {la : Option Addr} {nl lc : Nat} {vs : List Value} {zb i : Nat} (h : MrS w w' la nl lc vs zb i) : w'.cell? ⟨zb, 0, none⟩ = some (.int .i64 (-7070 - (i : Int))) ∧ w'.cell? ⟨zb, 1, none⟩ = some (.int .i64 0) ∧ w'.cell? ⟨zb, 2, none⟩ = some (.int .i64 0) ∧ w'.cell? ⟨zb, 3, none⟩ = some (.bool false) ∧ MrS w w' la nl lc vs zb i :=
  ⟨h.z.cell 0, h.z.cell 1, h.z.cell 2, h.z.cell 3, h⟩
theorem At.kr {B : Nat} {la : Option Addr} {w w' : World} {N : Nat} {vs : List Value} (k : Keep (inB la) w w') (hl : ∀ g, inB la g → g < B) (h : At B w N vs) : At B w' N vs :=
  ⟨h.ge, Nat.lt_of_lt_of_le h.lt k.size, fun j u hu => by
    have := h.cell j u hu
    rw [Addr.add_lit] at this ⊢
    exact (k.cell N (0 + j) h.lt (fun e => by have := hl N e; have := h.ge; omega)).trans this⟩
/-- Behind the making of the four lists, ahead of the writing. -/
structure MidR (w wx : World) (la : Option Addr) (zb i nl n0 : Nat) (S : List Ls) : Prop where
  keep : Keep (inB la) w wx
  blk : Blk wx n0 (S.map Ls.val).toArray 112
  z : Blk wx zb (mMark i).cells.toArray 76
  four : S.length = 4
  ok : ∀ t ∈ S, t.okR wx
  sl : ∀ t ∈ S, t.n ≤ nl + 3
  new : ∀ t ∈ S, ∀ b, inB t.a b → inB la b ∨ w.heap.size ≤ b
  ne : ∀ t ∈ S, ∀ b, inB t.a b → b ≠ n0 ∧ b ≠ zb
  one : ∀ t ∈ S, ∀ u ∈ S, ∀ b o o', t.a = some ⟨b, o, none⟩ → u.a = some ⟨b, o', none⟩ → o = o'
  far : w.heap.size ≤ n0
  apart : n0 ≠ zb
theorem midR_of {w w1 w2 w3 : World} {O3 : Obj} {la a1 a2 a3 : Option Addr} {zb i nl lc c1 c2 c3 : Nat} {vs v1 v2 v3 : List Value} (hO : O3 = .cells #[.slice la nl lc, .slice a1 (nl + 1) c1, .slice a2 (nl + 2) c2, .slice a3 (nl + 3) c3] 112)
    (hs : MrS w (w3.alloc O3) la nl lc vs zb i) (hl0 : ∀ g, inB la g → g < w.heap.size) (hz : zb = w.heap.size) (hz3 : w.heap.size < w3.heap.size)
    (h1 : RV w1 76 4 a1 (nl + 1) c1 (vs ++ v1)) (e1 : (a1 = la ∧ c1 = lc) ∨ ∃ g, a1 = some ⟨g, 0, none⟩ ∧ w.heap.size < g) (k2 : Keep (inB la) w1 w2)
    (h2 : RV w2 76 4 a2 (nl + 2) c2 (vs ++ v2)) (e2 : (a2 = la ∧ c2 = lc) ∨ ∃ g, a2 = some ⟨g, 0, none⟩ ∧ w.heap.size < g) (k3 : Keep (inB la) w2 w3)
    (h3 : RV w3 76 4 a3 (nl + 3) c3 (vs ++ v3)) (e3 : (a3 = la ∧ c3 = lc) ∨ ∃ g, a3 = some ⟨g, 0, none⟩ ∧ w.heap.size < g) :
    MidR w (w3.alloc O3) la zb i nl w3.heap.size [⟨la, nl, lc⟩, ⟨a1, nl + 1, c1⟩, ⟨a2, nl + 2, c2⟩, ⟨a3, nl + 3, c3⟩] := by
  subst hO
  have far : ∀ {a : Option Addr} {g : Nat}, a = some ⟨g, 0, none⟩ → w.heap.size < g → ∀ b, inB a b → ¬ inB la b := fun h hg b hb hl => by rw [h] at hb; have := inB_some.1 hb; have := hl0 b hl; omega
  have kn : ∀ o, Keep (inB la) w3 (w3.alloc o) := fun o => (Keep.refl _ w3).alloc o
  have r0 : Ls.okR (w3.alloc (.cells #[.slice la nl lc, .slice a1 (nl + 1) c1, .slice a2 (nl + 2) c2, .slice a3 (nl + 3) c3] 112)) ⟨la, nl, lc⟩ := ⟨_, hs.row⟩
  have r1 : Ls.okR (w3.alloc (.cells #[.slice la nl lc, .slice a1 (nl + 1) c1, .slice a2 (nl + 2) c2, .slice a3 (nl + 3) c3] 112)) ⟨a1, nl + 1, c1⟩ := by
    rcases e1 with ⟨ea, ec⟩ | ⟨g, ea, hg⟩
    · subst ea ec; exact rv_wideS hs.row (nl + 1) h1.2.1
    · exact ⟨_, ((h1.keep k2 (far ea hg)).keep k3 (far ea hg)).keep (kn _) (far ea hg)⟩
  have r2 : Ls.okR (w3.alloc (.cells #[.slice la nl lc, .slice a1 (nl + 1) c1, .slice a2 (nl + 2) c2, .slice a3 (nl + 3) c3] 112)) ⟨a2, nl + 2, c2⟩ := by
    rcases e2 with ⟨ea, ec⟩ | ⟨g, ea, hg⟩
    · subst ea ec; exact rv_wideS hs.row (nl + 2) h2.2.1
    · exact ⟨_, (h2.keep k3 (far ea hg)).keep (kn _) (far ea hg)⟩
  have r3 : Ls.okR (w3.alloc (.cells #[.slice la nl lc, .slice a1 (nl + 1) c1, .slice a2 (nl + 2) c2, .slice a3 (nl + 3) c3] 112)) ⟨a3, nl + 3, c3⟩ := ⟨_, h3.alloc _⟩
  have l1 := h1.lt
  have l2 := h2.lt
  have l3 := h3.lt
  have s2 := k2.size
  have s3 := k3.size
  have lt3 : ∀ t ∈ [(⟨la, nl, lc⟩ : Ls), ⟨a1, nl + 1, c1⟩, ⟨a2, nl + 2, c2⟩, ⟨a3, nl + 3, c3⟩], (t.a = la ∨ ∃ g, t.a = some ⟨g, 0, none⟩ ∧ w.heap.size < g ∧ g < w3.heap.size) := fun t ht => by
    simp only [List.mem_cons, List.not_mem_nil, or_false] at ht
    rcases ht with rfl | rfl | rfl | rfl
    · exact Or.inl rfl
    · exact e1.imp (fun h => h.1) (fun ⟨g, h, hg⟩ => ⟨g, h, hg, by have := l1 g (by rw [h]; exact inB_self g 0); omega⟩)
    · exact e2.imp (fun h => h.1) (fun ⟨g, h, hg⟩ => ⟨g, h, hg, by have := l2 g (by rw [h]; exact inB_self g 0); omega⟩)
    · exact e3.imp (fun h => h.1) (fun ⟨g, h, hg⟩ => ⟨g, h, hg, l3 g (by rw [h]; exact inB_self g 0)⟩)
  refine ⟨hs.keep, Blk.new _ _ _, hs.z, rfl, fun t ht => ?_, fun t ht => ?_, fun t ht b hb => ?_, fun t ht b hb => ?_, fun t ht u hu b o o' h h' => ?_, by omega, by omega⟩
  · simp only [List.mem_cons, List.not_mem_nil, or_false] at ht
    rcases ht with rfl | rfl | rfl | rfl
    · exact r0
    · exact r1
    · exact r2
    · exact r3
  · simp only [List.mem_cons, List.not_mem_nil, or_false] at ht
    rcases ht with rfl | rfl | rfl | rfl <;> simp only <;> omega
  · rcases lt3 t ht with h | ⟨g, h, hg, _⟩
    · rw [h] at hb; exact Or.inl hb
    · rw [h] at hb; have := inB_some.1 hb; exact Or.inr (by omega)
  · rcases lt3 t ht with h | ⟨g, h, hg, hl⟩
    · rw [h] at hb; have := hl0 b hb; omega
    · rw [h] at hb; have := inB_some.1 hb; omega
  · rcases lt3 t ht with ha | ⟨g, ha, hg, _⟩ <;> rcases lt3 u hu with hb | ⟨g', hb, hg', _⟩
    · rw [ha] at h; rw [hb, h] at h'; cases h'; rfl
    · rw [ha] at h; rw [hb] at h'; cases h'; have := hl0 _ ⟨_, h⟩; omega
    · rw [ha] at h; rw [hb] at h'; cases h; have := hl0 _ ⟨_, h'⟩; omega
    · rw [ha] at h; rw [hb] at h'; cases h; cases h'; rfl

/-- What the book's messages leaves: one note more, marked. -/
def BkR (G : Nat → Prop) (w w' : World) (yb nb : Nat) (b0 : Option Addr) (VB : List Value) (p0 p1 p2 p3 p5 p6 p7 : Value) : Prop :=
  ∃ (S : List Ls) (n0 ab cb' : Nat),
    Blk w' yb #[p0, p1, p2, p3, .slice (some ⟨ab, 0, none⟩) (nb + 1) cb', p5, p6, p7] 73 ∧
    VBuf w' ab 111 1 (VB ++ [.slice (some ⟨n0, 0, none⟩) 4 4]) cb' ∧ (b0 = some ⟨ab, 0, none⟩ ∨ w.heap.size ≤ ab) ∧
    Blk w' n0 (S.map Ls.val).toArray 112 ∧ w.heap.size ≤ n0 ∧ n0 ≠ ab ∧ S.length = 4 ∧
    (∀ t ∈ S, (t.n = 0 ∨ ∃ g o, t.a = some ⟨g, o, none⟩) ∧ MFil w' t.a t.n nb ∧ (t.n : Int) ≤ 140737488351310 ∧ ∀ b, inB t.a b → (G b ∨ w.heap.size ≤ b) ∧ b ≠ ab ∧ b < w'.heap.size) ∧
    Keep (fun b => G b ∨ b = yb ∨ b0 = some ⟨b, 0, none⟩) w w'
/-- What stands behind the writing, once the row of notes has one more. -/
theorem notes_end {w wr w4 : World} {G : Nat → Prop} {yb nb ab na : Nat} {b0 : Option Addr} {S : List Ls} {O : Obj} {c' : Nat} {VB : List Value} {p0 p1 p2 p3 p4 p5 p6 p7 : Value}
    (byb : Blk wr yb #[p0, p1, p2, p3, p4, p5, p6, p7] 73) (hyg : ¬ G yb) (hyl : yb < w.heap.size) (k1 : Keep G w wr) (bnb : Blk wr nb (S.map Ls.val).toArray 112) (hnb : w.heap.size ≤ nb) (h4 : S.length = 4)
    (hsl : ∀ t ∈ S, (t.n : Int) ≤ 140737488351310) (hat : ∀ t ∈ S, (t.n = 0 ∨ ∃ g o, t.a = some ⟨g, o, none⟩)) (hmk : ∀ t ∈ S, MFil wr t.a t.n na) (hbl : ∀ t ∈ S, ∀ b, inB t.a b → b < wr.heap.size) (hnew : ∀ t ∈ S, ∀ b, inB t.a b → G b ∨ w.heap.size ≤ b)
    (ha : ∀ b, b0 = some ⟨b, 0, none⟩ → ¬ G b ∧ b ≠ yb ∧ b < w.heap.size) (hab : b0 = some ⟨ab, 0, none⟩ ∨ ab = wr.heap.size + 1) (hk4 : Keep (fun b => b0 = some ⟨b, 0, none⟩) (wr.alloc O) w4) (hb4 : VBuf w4 ab 111 1 (VB ++ [.slice (some ⟨nb, 0, none⟩) 4 4]) c') :
    BkR G w (w4.setCell ⟨yb, 4, none⟩ (.slice (some ⟨ab, 0, none⟩) (na + 1) c')) yb na b0 VB p0 p1 p2 p3 p5 p6 p7 := by
  have hz1 := k1.size
  have hz4 := hk4.size
  simp only [World.size_alloc] at hz4
  have hnl := bnb.lt
  have hya : ¬ b0 = some ⟨yb, 0, none⟩ := fun e => (ha yb e).2.1 rfl
  have haby : ab ≠ yb := by
    rcases hab with e | e
    · exact (ha ab e).2.1
    · omega
  have ks : Keep (only yb) w4 (w4.setCell ⟨yb, 4, none⟩ (.slice (some ⟨ab, 0, none⟩) (na + 1) c')) := (Keep.refl (only yb) w4).setCell (p := ⟨yb, 4, none⟩) (fun _ => rfl) _
  have kw : Keep (fun b => b0 = some ⟨b, 0, none⟩) wr w4 := ((Keep.refl _ wr).alloc O).trans hk4
  have hsz := kw.size
  have new_ab : ∀ b, w.heap.size ≤ b → b < wr.heap.size → b ≠ ab := fun b h1 h2 => by
    rcases hab with e | e
    · have := (ha ab e).2.2; omega
    · omega
  have new_f0 : ∀ b, w.heap.size ≤ b → ¬ b0 = some ⟨b, 0, none⟩ := fun b h1 e => by have := (ha b e).2.2; omega
  have hnot : ∀ t ∈ S, ∀ b, inB t.a b → ¬ b0 = some ⟨b, 0, none⟩ ∧ b ≠ yb ∧ b ≠ ab := fun t ht b hb => by
    rcases hnew t ht b hb with h | h
    · refine ⟨fun e => (ha b e).1 h, fun e => hyg (e ▸ h), fun e => ?_⟩
      rcases hab with e' | e'
      · exact (ha ab e').1 (e ▸ h)
      · have := hbl t ht b hb; omega
    · exact ⟨new_f0 b h, by omega, new_ab b h (hbl t ht b hb)⟩
  refine ⟨S, nb, ab, c', (byb.keep kw hya).set 4 _, hb4.keep ks (fun e => haby e), hab.imp id (fun e => by omega), (bnb.keep kw (new_f0 nb hnb)).keep ks (fun e => by simp only [only] at e; omega), hnb, new_ab nb hnb hnl, h4, fun t ht => ⟨hat t ht, ?_, hsl t ht, fun b hb => ⟨hnew t ht b hb, (hnot t ht b hb).2.2, ?_⟩⟩, ?_⟩
  · exact ((hmk t ht).keep kw (fun g hg => ⟨hbl t ht g hg, (hnot t ht g hg).1⟩)).keep ks (fun g hg => ⟨by have := hbl t ht g hg; omega, fun e => (hnot t ht g hg).2.1 e⟩)
  · have := hbl t ht b hb
    simp only [World.size_setCell]; omega
  · exact ((k1.mono (fun i _ e => Or.inl e)).trans (kw.mono (fun i _ e => Or.inr (Or.inr e)))).trans (ks.mono (fun i _ e => Or.inr (Or.inl e)))

set_option maxRecDepth 100000 in
set_option maxHeartbeats 4000000 in
theorem messages_any (yb : Nat) (la : Option Addr) (nl lc : Nat) (vs : List Value) (b0 : Option Addr) (nb cb : Nat) (VB : List Value) (p0 p1 p2 p3 p5 p6 p7 : Value) (w : World) (hyb : Blk w yb #[p0, p1, p2, p3, .slice b0 nb cb, p5, p6, p7] 73) (hyg : ¬ inB la yb)
    (hra : RowIs w b0 nb cb 111 VB (fun b => inB la b ∨ b = yb)) (hb : RV w 76 4 la nl lc vs) (hlen : (nl : Int) ≤ 1000) (hnb : (nb : Int) < 1099511627776) :
    Calls Tryz.prog 133 #[.pointer (some ⟨yb, 2, none⟩), .slice la nl lc] w fun e w' =>
      e = .returned (.tuple #[]) ∧ BkR (inB la) w w' yb nb b0 VB p0 p1 p2 p3 p5 p6 p7 := by
  have hy := hyb.cell 4
  simp at hy
  have hyl := hyb.lt
  have hwz : IntKind.i64.wrap (-7070 - (nb : Int)) = -7070 - (nb : Int) := by rw [IntKind.wrap_i64]; omega
  have HYB : Unit → Blk w yb #[p0, p1, p2, p3, .slice b0 nb cb, p5, p6, p7] 73 ∧ ¬ inB la yb := fun _ => ⟨hyb, hyg⟩
  have HRA : Unit → RowIs w b0 nb cb 111 VB (fun b => inB la b ∨ b = yb) := fun _ => hra
  have HNB : Unit → (nb : Int) < 1099511627776 := fun _ => hnb
  have HLN : Unit → (nl : Int) ≤ 1000 := fun _ => hlen
  have HB0 : Unit → RV w 76 4 la nl lc vs := fun _ => hb
  clear hyb hra hnb hb hlen hyg
  go_enter Tryz.func133, Tryz.ntmps133
  go_upto_region 1 with fail
  obtain ⟨W0, hW0⟩ : ∃ W0, W0 = w.alloc (.cells #[.int .i64 (-7070 - (nb : Int)), .int .i64 0, .int .i64 0, .bool false] 76) := ⟨_, rfl⟩
  have hs0 : MrS w W0 la nl lc vs w.heap.size nb := by
    rw [hW0]
    exact ⟨(Keep.refl _ w).alloc _, (HB0 ()).alloc _, Blk.new _ _ _, fun x => by have := (HB0 ()).lt _ x; omega⟩
  rw [← hW0]
  obtain ⟨zb, hzb⟩ : ∃ zb, zb = w.heap.size := ⟨_, rfl⟩
  rw [← hzb] at hs0 ⊢
  have z0 := hs0.z.cell 0
  have z1 := hs0.z.cell 1
  have z2 := hs0.z.cell 2
  have z3 := hs0.z.cell 3
  simp [Mi.cells, mMark] at z0 z1 z2 z3
  have HS0 : Unit → MrS w W0 la nl lc vs zb nb := fun _ => hs0
  have HZ : Unit → zb = w.heap.size := fun _ => hzb
  have HW0 : Unit → W0.heap.size = w.heap.size + 1 := fun _ => by rw [hW0]; simp
  clear hs0 hW0 hzb
  have hlB : ∀ g, inB la g → g < W0.heap.size := fun g hg => by have := (HB0 ()).lt g hg; have := HW0 (); omega
  go_cut [5] (fun v wx => ∃ (S : List Ls) (n0 : Nat), v = .slice (some ⟨n0, 0, none⟩) 4 4 ∧ MidR w wx la zb nb nl n0 S)
  case first =>
    go_region_held3 (fun w' => w'.cell? ⟨zb, 0, none⟩ = some (.int .i64 (-7070 - (nb : Int))) ∧ w'.cell? ⟨zb, 1, none⟩ = some (.int .i64 0) ∧ w'.cell? ⟨zb, 2, none⟩ = some (.int .i64 0) ∧ w'.cell? ⟨zb, 3, none⟩ = some (.bool false) ∧ MrS w w' la nl lc vs zb nb) (first | exact heldR_of (MrS.ald (heldR_in (by assumption))) | exact heldR_of (MrS.alloc (heldR_in (by assumption)) _) | exact heldR_of (MrS.app (heldR_in (by assumption)) (by assumption) (by assumption) (by assumption)) | exact heldR_of ((HS0 ()).drew)) ((first | (refine step_append_rvS rfl (.tmp 16) (.tmp 18) 112 rfl 76 (.agg #[.int .i64 0, .int .i64 0, .int .i64 0, .bool false]) 4 32 Tryz.underlying112 msg_info rfl la nl lc (by simp [Act.eval, Act.put]) vs (heldR_in (by assumption)).row _ 1 1 (by omega) (by rfl) (micells [mMark nb]) rfl (At.cell (B := W0.heap.size) (by repeat (first | exact At.newd (by simp) (by (try simp only [World.size_alloc]); omega) | exact At.new (by simp) (by first | (have q1 := hk1.size; (try simp only [World.size_alloc, World.size_drew] at q1); (try simp only [World.size_alloc, World.size_drew]); omega) | (have q1 := hk1.size; have q2 := hk2.size; (try simp only [World.size_alloc, World.size_drew] at q1); (try simp only [World.size_alloc, World.size_drew] at q2); (try simp only [World.size_alloc, World.size_drew]); omega)) | refine At.ald ?_ | refine At.al ?_ | refine At.kr hk2 hlB ?_ | refine At.kr hk1 hlB ?_))) (micells_one _) (by have := HLN (); omega) (by have := HLN (); omega) ?_; intro a1 c1 w1 hb1 hd1 hk1) | (refine step_append_rvS rfl (.tmp 20) (.tmp 23) 112 rfl 76 (.agg #[.int .i64 0, .int .i64 0, .int .i64 0, .bool false]) 4 32 Tryz.underlying112 msg_info rfl la nl lc (by simp [Act.eval, Act.put]) vs (heldR_in (by assumption)).row _ 2 2 (by omega) (by rfl) (micells [mMark nb, mMark nb]) rfl (At.cell (B := W0.heap.size) (by repeat (first | exact At.newd (by simp) (by (try simp only [World.size_alloc]); omega) | exact At.new (by simp) (by first | (have q1 := hk1.size; (try simp only [World.size_alloc, World.size_drew] at q1); (try simp only [World.size_alloc, World.size_drew]); omega) | (have q1 := hk1.size; have q2 := hk2.size; (try simp only [World.size_alloc, World.size_drew] at q1); (try simp only [World.size_alloc, World.size_drew] at q2); (try simp only [World.size_alloc, World.size_drew]); omega)) | refine At.ald ?_ | refine At.al ?_ | refine At.kr hk2 hlB ?_ | refine At.kr hk1 hlB ?_))) (micells_one _) (by have := HLN (); omega) (by have := HLN (); omega) ?_; intro a2 c2 w2 hb2 hd2 hk2) | (refine step_append_rvS rfl (.tmp 25) (.tmp 29) 112 rfl 76 (.agg #[.int .i64 0, .int .i64 0, .int .i64 0, .bool false]) 4 32 Tryz.underlying112 msg_info rfl la nl lc (by simp [Act.eval, Act.put]) vs (heldR_in (by assumption)).row _ 3 3 (by omega) (by rfl) (micells [mMark nb, mMark nb, mMark nb]) rfl (At.cell (B := W0.heap.size) (by repeat (first | exact At.newd (by simp) (by (try simp only [World.size_alloc]); omega) | exact At.new (by simp) (by first | (have q1 := hk1.size; (try simp only [World.size_alloc, World.size_drew] at q1); (try simp only [World.size_alloc, World.size_drew]); omega) | (have q1 := hk1.size; have q2 := hk2.size; (try simp only [World.size_alloc, World.size_drew] at q1); (try simp only [World.size_alloc, World.size_drew] at q2); (try simp only [World.size_alloc, World.size_drew]); omega)) | refine At.ald ?_ | refine At.al ?_ | refine At.kr hk2 hlB ?_ | refine At.kr hk1 hlB ?_))) (micells_one _) (by have := HLN (); omega) (by have := HLN (); omega) ?_; intro a3 c3 w3 hb3 hd3 hk3)))
    all_goals
      have q1 := hk1.size
      have q2 := hk2.size
      have q3 := hk3.size
      have k12 : Keep (inB la) w1 w2 := by first | exact hk2 | exact hk2.al | exact hk2.al.al
      have k23 : Keep (inB la) w2 w3 := by first | exact hk3 | exact hk3.al
      have hW0s := HW0 ()
      have hd1' : (a1 = la ∧ c1 = lc) ∨ ∃ g, a1 = some ⟨g, 0, none⟩ ∧ w.heap.size < g := hd1.imp id (fun ⟨h, _⟩ => ⟨_, h, by (try simp only [World.size_alloc, World.size_drew]); omega⟩)
      have hd2' : (a2 = la ∧ c2 = lc) ∨ ∃ g, a2 = some ⟨g, 0, none⟩ ∧ w.heap.size < g := hd2.imp id (fun ⟨h, _⟩ => ⟨_, h, by (try simp only [World.size_alloc, World.size_drew] at q1); (try simp only [World.size_alloc, World.size_drew]); omega⟩)
      have hd3' : (a3 = la ∧ c3 = lc) ∨ ∃ g, a3 = some ⟨g, 0, none⟩ ∧ w.heap.size < g := hd3.imp id (fun ⟨h, _⟩ => ⟨_, h, by (try simp only [World.size_alloc, World.size_drew] at q1); (try simp only [World.size_alloc, World.size_drew] at q2); (try simp only [World.size_alloc, World.size_drew]); omega⟩)
      have hz3 : w.heap.size < w3.heap.size := by (try simp only [World.size_alloc, World.size_drew] at q1); (try simp only [World.size_alloc, World.size_drew] at q2); (try simp only [World.size_alloc, World.size_drew] at q3); omega
      have HM : Unit → MidR _ _ _ _ _ _ _ _ := fun _ => midR_of rfl (heldR_in (by assumption)) (HB0 ()).lt (HZ ()) hz3 hb1 hd1' k12 hb2 hd2' k23 hb3 hd3'
      clear hb1 hb2 hb3 hk1 hk2 hk3 hd1 hd2 hd3 hd1' hd2' hd3' k12 k23 hz3 q1 q2 q3
      go_wp2_with fail
      go_meet
      case rel => exact ⟨_, _, rfl, HM ()⟩
  case rest =>
    obtain ⟨S, n0, rfl, hM⟩ := hcut
    have HM : Unit → MidR w wc la zb nb nl n0 S := fun _ => hM
    have st0 : StR wc wc S nb 0 := ⟨Keep.refl _ _, hM.ok, fun j t hj => by omega⟩
    have HST0 : Unit → StR wc wc S nb 0 := fun _ => st0
    have HSL : Unit → ∀ t ∈ S, (t.n : Int) ≤ 1003 := fun _ t ht => by have := (HM ()).sl t ht; have := HLN (); omega
    clear hM st0 z0 z1 z2 z3 hlB
    go_wp2_with fail
    go_loopw [6] (fun j wr => ∃ k : Nat, k ≤ 4 ∧ j = .int .i64 (k : Int) ∧ StR wc wr S nb k) (fun j _ => 4 - (intOf j).toNat)
    case atStart => exact ⟨0, by omega, rfl, HST0 ()⟩
    case round =>
      obtain ⟨k, hk, rfl, hst⟩ := hrel
      clear HST0
      by_cases hk4 : k < 4
      · obtain ⟨t, ht⟩ : ∃ t, S[k]? = some t := ⟨S[k]'(by rw [(HM ()).four]; exact hk4), List.getElem?_eq_getElem _⟩
        have htm : t ∈ S := List.mem_of_getElem? ht
        have HC : Unit → ∀ wi, StR wc wi S nb k → wi.cell? ⟨n0, k, none⟩ = some t.val ∧ n0 < wi.heap.size := fun _ wi hsi => by
          have hb := (HM ()).blk.keep hsi.keep (fun ⟨u, hu, hb⟩ => ((HM ()).ne u hu _ hb).1 rfl)
          have := hb.cell k
          rw [List.getElem?_toArray, List.getElem?_map, ht] at this
          exact ⟨this, hb.lt⟩
        have hkI : (k : Int) < 4 := by omega
        obtain ⟨hcell, hnl⟩ := HC () wr hst
        have hsl := HSL () t htm
        have HT : Unit → S[k]? = some t ∧ t ∈ S := fun _ => ⟨ht, htm⟩
        have HST : Unit → StR wc wr S nb k := fun _ => hst
        obtain ⟨ta, tn, tc⟩ := t
        simp only [Ls.val] at hcell HC hsl
        clear hst ht htm
        go_wp2_with fail
        go_loopw [7] (fun p wi => ∃ q : Nat, q ≤ tn ∧ p = .int .i64 (q : Int) ∧ StR wc wi S nb k ∧ MFil wi ta q nb) (fun p _ => tn - (intOf p).toNat)
        case atStart => exact ⟨0, by omega, rfl, HST (), fun g o _ p hp => by omega⟩
        case round =>
          obtain ⟨q, hq, rfl, hst, hmk⟩ := hrel
          clear hcell HST hnl
          obtain ⟨hcell, hnl⟩ := HC () wr hst
          by_cases hqt : q < tn
          · obtain ⟨g, o, hga, hgl, hu⟩ := (hst.ok _ (HT ()).2).at hqt
            simp only at hga
            subst hga
            have hzz := (HM ()).z.keep hst.keep (fun ⟨u, hu, hb⟩ => ((HM ()).ne u hu _ hb).2 rfl)
            have z0 := hzz.cell 0
            have z1 := hzz.cell 1
            have z2 := hzz.cell 2
            have z3 := hzz.cell 3
            simp [Mi.cells, mMark] at z0 z1 z2 z3
            obtain ⟨⟨v0, hv0⟩, f0⟩ := hu 0 (by omega)
            obtain ⟨⟨v1, hv1⟩, f1⟩ := hu 1 (by omega)
            obtain ⟨⟨v2, hv2⟩, f2⟩ := hu 2 (by omega)
            obtain ⟨⟨v3, hv3⟩, f3⟩ := hu 3 (by omega)
            rw [Nat.add_zero] at hv0 f0
            have s2 := hst.put g o q ⟨_, (HT ()).2, rfl⟩ (HM ()).one
            have m2 := hmk.more (fun j hj => (hu j hj).1)
            unfold putR at s2 m2
            rw [mmk0, mmk1, mmk2, mmk3, ← Nat.add_assoc, ← Nat.add_assoc, ← Nat.add_assoc] at s2 m2
            have HS2 : Unit → StR wc _ S nb k := fun _ => s2
            have HM2 : Unit → MFil _ (some ⟨g, o, none⟩) (q + 1) nb := fun _ => m2
            have hqI : (q : Int) < (tn : Int) := by omega
            clear hst hmk s2 m2 hzz hu
            go_wp2_with fail
            go_still_tail 7, (by kernel_rfl)
            go_wp2
            go_roundw
            case rel => exact ⟨q + 1, by omega, by go_num, (HS2 ()).drew, HM2 ()⟩
            case measure => simp [intOf]; omega
          · have eq : q = tn := by omega
            subst eq
            have HS2 : Unit → StR wc wr S nb (k + 1) := fun _ => hst.next _ (HT ()).1 hmk
            clear hst hmk
            go_wp2
            go_roundw
            case rel => exact ⟨k + 1, by omega, by go_num, HS2 ()⟩
            case measure => simp [intOf]; omega
      · have e4 : k = 4 := by omega
        subst e4
        have hM := HM ()
        have hex : ∀ b, (∃ t ∈ S, inB t.a b) → inB la b ∨ w.heap.size ≤ b := fun b ⟨t, ht, hb⟩ => hM.new t ht b hb
        have k1 : Keep (inB la) w wr := hM.keep.trans' hst.keep (fun i hi e => by rcases hex i e with h | h; exact h; omega)
        have byb := (HYB ()).1.keep k1 (fun e => (HYB ()).2 e)
        have hcy := byb.cell 4
        have hfy := byb.frozen 4
        simp at hcy
        have hzr := k1.size
        have hkr := hst.keep.size
        have bnb := hM.blk.keep hst.keep (fun ⟨u, hu, hb⟩ => (hM.ne u hu _ hb).1 rfl)
        have hmk : ∀ t ∈ S, MFil wr t.a t.n nb := fun t ht => by
          obtain ⟨j, hj, e⟩ := List.getElem_of_mem ht
          exact hst.done j t (by have := hM.four; omega) (by rw [List.getElem?_eq_getElem hj, e])
        have hbl : ∀ t ∈ S, ∀ b, inB t.a b → b < wr.heap.size := fun t ht b hb => (hst.ok t ht).lt b hb
        have hat : ∀ t ∈ S, (t.n = 0 ∨ ∃ g o, t.a = some ⟨g, o, none⟩) := fun t ht => by
          obtain ⟨vs, _, _, h⟩ := hst.ok t ht
          exact h.imp (fun h => h.2.1) (fun ⟨g, o, h, _⟩ => ⟨g, o, h⟩)
        have HF : Unit → Blk wr yb #[p0, p1, p2, p3, .slice b0 nb cb, p5, p6, p7] 73 ∧ Keep (inB la) w wr ∧ Blk wr n0 (S.map Ls.val).toArray 112 ∧ (∀ t ∈ S, MFil wr t.a t.n nb) ∧ (∀ t ∈ S, ∀ b, inB t.a b → b < wr.heap.size) ∧ (∀ t ∈ S, (t.n = 0 ∨ ∃ g o, t.a = some ⟨g, o, none⟩)) := fun _ => ⟨byb, k1, bnb, hmk, hbl, hat⟩
        have hyw : yb < wr.heap.size := byb.lt
        clear hst byb bnb hmk hbl hex k1 hM hat
        rcases HRA () with ⟨rfl, rfl, rfl, rfl⟩ | ⟨ab, rfl, hva, hvl, hab⟩
        · clear HRA
          go_wp2_with (at_builtin; refine wpList_append_new _ rfl (.tmp 58) (.tmp 60) 66 rfl 111 (.slice none 0 0) 1 24 Tryz.underlying66 notes_info rfl rfl ⟨wr.heap.size, 0, none⟩ 1 1 (by omega) rfl [.slice (some ⟨n0, 0, none⟩) 4 4] rfl (cells_elist wr [.slice (some ⟨n0, 0, none⟩) 4 4] 111 _ rfl) (by omega) (by omega) ?_; intro c' w4 hb4 hc4 hk4; have hcy4 := ((((HF ()).1.old _).keep hk4 (fun e => e)).cell 4); have hfy4 := ((((HF ()).1.old _).keep hk4 (fun e => e)).frozen 4); simp at hcy4)
          go_end0
          obtain ⟨byb, k1, bnb, hmk, hbl, hat⟩ := HF ()
          rw [World.size_alloc] at hb4
          exact ⟨rfl, notes_end (G := inB la) byb (HYB ()).2 hyl k1 bnb (HM ()).far (HM ()).four (fun t ht => by have := HSL () t ht; omega) hat hmk hbl (HM ()).new (b0 := none) (fun b e => by cases e) (Or.inr rfl) (hk4.mono (fun i hi e => e.elim)) hb4⟩
        · have hvr := hva.keep (HF ()).2.1 (fun e => hab (Or.inl e))
          have habl := hva.lt
          have hna3 := HNB ()
          have HV : Unit → (VB.length = nb ∧ ¬ (inB la ab ∨ ab = yb)) := fun _ => ⟨hvl, hab⟩
          clear HRA hva hvl hab
          go_wp2_with (at_builtin; refine wpList_append_any _ rfl (.tmp 58) (.tmp 60) 66 rfl 111 (.slice none 0 0) 1 24 Tryz.underlying66 notes_info rfl ab nb cb rfl VB (by rw [(HV ()).1]; omega) (hvr.alloc _) ⟨wr.heap.size, 0, none⟩ 1 1 rfl [.slice (some ⟨n0, 0, none⟩) 4 4] rfl (cells_elist wr [.slice (some ⟨n0, 0, none⟩) 4 4] 111 _ rfl) (by intro u hu; simp at hu; subst hu; rfl) (by omega) (by omega) ?_; intro ab' c' w4 hb4 hc4 hd4 hk4; have hcy4 := ((((HF ()).1.old _).keep hk4 (fun e => (HV ()).2 (Or.inr e.symm))).cell 4); have hfy4 := ((((HF ()).1.old _).keep hk4 (fun e => (HV ()).2 (Or.inr e.symm))).frozen 4); simp at hcy4)
          go_end0
          obtain ⟨byb, k1, bnb, hmk, hbl, hat⟩ := HF ()
          exact ⟨rfl, notes_end (G := inB la) (b0 := some ⟨ab, 0, none⟩) byb (HYB ()).2 hyl k1 bnb (HM ()).far (HM ()).four (fun t ht => by have := HSL () t ht; omega) hat hmk hbl (HM ()).new (fun b e => by cases e; exact ⟨fun e => (HV ()).2 (Or.inl e), fun e => (HV ()).2 (Or.inr e), habl⟩) (by rcases hd4 with ⟨rfl, _⟩ | ⟨rfl, _⟩; exact Or.inl rfl; exact Or.inr (World.size_alloc _ _)) (hk4.mono (fun i hi e => by simp only [only] at e; rw [e])) hb4⟩
end Go.Proofs.YtlfijfodklhplaaGreat
