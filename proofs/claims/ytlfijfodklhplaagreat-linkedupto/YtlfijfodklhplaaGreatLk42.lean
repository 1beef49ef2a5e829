import Derived.Test.YtlfijfodklhplaaGreatLk32
import Derived.Test.YtlfijfodklhplaaGreatLk19
import Derived.Test.YtlfijfodklhplaaGreatLk41
/- Lists of lists that their owner writes over. -/
namespace Go.Proofs.YtlfijfodklhplaaGreat
open Go.RowKit
set_option linter.unusedVariables false
set_option linter.unusedSimpArgs false

/-- A list that lies anywhere. -/
structure Ls where
  a : Option Addr
  n : Nat
  c : Nat
def Ls.val (t : Ls) : Value := .slice t.a t.n t.c
def Ls.ok (w : World) (t : Ls) : Prop := ∃ vs, RV w 56 1 t.a t.n t.c vs
/-- Its first places hold v. -/
def Filled (w : World) (a : Option Addr) (m : Nat) (v : Value) : Prop := ∀ g o, a = some ⟨g, o, none⟩ → ∀ p, p < m → w.cell? ⟨g, o + p, none⟩ = some v
theorem Filled.set {w : World} {a : Option Addr} {m : Nat} {v : Value} (h : Filled w a m v) (g' q : Nat) : Filled (w.setCell ⟨g', q, none⟩ v) a m v := by
  intro g o ha p hp
  by_cases he : (⟨g', q, none⟩ : Addr) = ⟨g, o + p, none⟩
  · rw [he]; exact World.cell?_setCell_same _ _ _ (h g o ha p hp)
  · rw [World.cell?_setCell_other _ _ _ _ he]; exact h g o ha p hp
theorem Filled.keep {ex : Nat → Prop} {w w' : World} {a : Option Addr} {m : Nat} {v : Value} (h : Filled w a m v) (k : Keep ex w w') (hg : ∀ g, inB a g → g < w.heap.size ∧ ¬ ex g) : Filled w' a m v := fun g o ha p hp =>
  (k.cell g (o + p) (hg g ⟨o, ha⟩).1 (hg g ⟨o, ha⟩).2).trans (h g o ha p hp)
theorem Filled.more {w : World} {g o m : Nat} {v : Value} (h : Filled w (some ⟨g, o, none⟩) m v) (u : Value) (hu : w.cell? ⟨g, o + m, none⟩ = some u) : Filled (w.setCell ⟨g, o + m, none⟩ v) (some ⟨g, o, none⟩) (m + 1) v := by
  intro g1 o1 ha p hp
  cases ha
  by_cases e : p = m
  · subst e; exact World.cell?_setCell_same _ _ _ hu
  · exact h.set g (o + m) g o rfl p (by omega)
/-- A cell is written: the row is a row still. -/
theorem RV.any {w : World} {e : TypeId} {a : Option Addr} {n c : Nat} {vs : List Value} (h : RV w e 1 a n c vs) (g' q : Nat) (v : Value) : ∃ vs', RV (w.setCell ⟨g', q, none⟩ v) e 1 a n c vs' := by
  obtain ⟨h1, h2, h3⟩ := h
  rcases h3 with h3 | ⟨g, o, rfl, pre, sp, hb, hp, hc⟩
  · exact ⟨vs, h1, h2, Or.inl h3⟩
  · by_cases he : g' = g
    · subst he
      have hs := hb.set q v
      have e1 : ∀ (X : List Value) (a b : Nat), X.toArray.setIfInBounds q v = ((X.set q v).take a ++ ((X.set q v).drop a).take b ++ ((X.set q v).drop a).drop b).toArray := fun X a b => by
        rw [List.append_assoc, List.take_append_drop, List.take_append_drop]
        simp
      rw [e1 _ pre.length vs.length] at hs
      refine ⟨(((pre ++ vs ++ sp).set q v).drop pre.length).take vs.length, ?_, h2, Or.inr ⟨g', o, rfl, _, _, hs, ?_, ?_⟩⟩
      · simp; omega
      · simp; omega
      · simp; omega
    · have ks : Keep (only g') w (w.setCell ⟨g', q, none⟩ v) := (Keep.refl (only g') w).setCell (p := ⟨g', q, none⟩) (fun _ => rfl) _
      exact ⟨vs, h1, h2, Or.inr ⟨g, o, rfl, pre, sp, hb.keep ks (fun e => he e.symm), hp, hc⟩⟩
theorem Ls.ok.at {w : World} {t : Ls} (h : t.ok w) {p : Nat} (hp : p < t.n) : ∃ g o u, t.a = some ⟨g, o, none⟩ ∧ g < w.heap.size ∧ w.cell? ⟨g, o + p, none⟩ = some u ∧ w.frozen? ⟨g, o + p, none⟩ = false := by
  obtain ⟨vs, h1, h2, h3⟩ := h
  rcases h3 with ⟨_, h3, _⟩ | ⟨g, o, h3, hv⟩
  · omega
  · have hl : p < vs.length := by omega
    exact ⟨g, o, vs[p], h3, hv.lt, hv.cell p _ (List.getElem?_eq_getElem hl), hv.frozen _⟩
theorem Ls.ok.keep {ex : Nat → Prop} {w w' : World} {t : Ls} (h : t.ok w) (k : Keep ex w w') (hn : ∀ g, inB t.a g → ¬ ex g) : t.ok w' := let ⟨vs, hv⟩ := h; ⟨vs, hv.keep k hn⟩
theorem Ls.ok.lt {w : World} {t : Ls} (h : t.ok w) : ∀ g, inB t.a g → g < w.heap.size := let ⟨vs, hv⟩ := h; hv.lt
/-- In the middle of the writing: the lists before the k-th are written. -/
structure StL (W0 wr : World) (S : List Ls) (v : Value) (k : Nat) : Prop where
  keep : Keep (fun b => ∃ t ∈ S, inB t.a b) W0 wr
  ok : ∀ t ∈ S, t.ok wr
  done : ∀ j t, j < k → S[j]? = some t → Filled wr t.a t.n v
theorem StL.put {W0 wr : World} {S : List Ls} {v : Value} {k : Nat} (h : StL W0 wr S v k) (g q : Nat) (hg : ∃ t ∈ S, inB t.a g) : StL W0 (wr.setCell ⟨g, q, none⟩ v) S v k :=
  ⟨h.keep.setCell (p := ⟨g, q, none⟩) (fun _ => hg) _, fun t ht => let ⟨vs, hv⟩ := h.ok t ht; hv.any g q v, fun j t hj ht => (h.done j t hj ht).set g q⟩
theorem StL.next {W0 wr : World} {S : List Ls} {v : Value} {k : Nat} (h : StL W0 wr S v k) (t : Ls) (ht : S[k]? = some t) (hm : Filled wr t.a t.n v) : StL W0 wr S v (k + 1) := by
  refine ⟨h.keep, h.ok, fun j u hj hu => ?_⟩
  by_cases e : j = k
  · subst e; rw [ht] at hu; cases hu; exact hm
  · exact h.done j u (by omega) hu
theorem piles_info : (Tryz.prog.info? 166).map (fun i => (i.zero, i.size, i.bytes)) = some (some (.slice none 0 0), 1, 24) := by kernel_rfl
/-- What the book's lists leaves: one pile more, marked. -/
def BkL (G : Nat → Prop) (w w' : World) (yb nf : Nat) (f0 : Option Addr) (VF : List Value) (p0 p1 p2 p3 p4 p5 p6 : Value) : Prop :=
  ∃ (S : List Ls) (n0 ab cf' zb zc : Nat),
    Blk w' yb #[p0, p1, p2, p3, p4, p5, p6, .slice (some ⟨ab, 0, none⟩) (nf + 1) cf'] 73 ∧
    VBuf w' ab 166 1 (VF ++ [.slice (some ⟨n0, 0, none⟩) 4 4]) cf' ∧ (f0 = some ⟨ab, 0, none⟩ ∨ w.heap.size ≤ ab) ∧
    Blk w' n0 (S.map Ls.val).toArray 105 ∧ w.heap.size ≤ n0 ∧ n0 ≠ ab ∧ S.length = 4 ∧ w.heap.size ≤ zb ∧ zb ≠ ab ∧ zb < w'.heap.size ∧ Row w' zb 0 (bl (pil ⟨#[80]⟩ nf)) ∧
    (∀ t ∈ S, (t.n = 0 ∨ ∃ g o, t.a = some ⟨g, o, none⟩) ∧ Filled w' t.a t.n (.slice (some ⟨zb, 0, none⟩) (bl (pil ⟨#[80]⟩ nf)).length zc) ∧ (t.n : Int) ≤ 140737488351310 ∧ ∀ b, inB t.a b → (G b ∨ w.heap.size ≤ b) ∧ b ≠ ab ∧ b < w'.heap.size) ∧
    Keep (fun b => G b ∨ b = yb ∨ f0 = some ⟨b, 0, none⟩) w w'
end Go.Proofs.YtlfijfodklhplaaGreat
/- Lists of messages that their owner writes over. -/
namespace Go.Proofs.YtlfijfodklhplaaGreat
open Go.RowKit
set_option linter.unusedVariables false
set_option linter.unusedSimpArgs false

/-- A message, of any numbers. -/
structure Mi where
  k : Int
  l : Int
  n : Int
  f : Bool
def Mi.cells (e : Mi) : List Value := [.int .i64 e.k, .int .i64 e.l, .int .i64 e.n, .bool e.f]
def micells (l : List Mi) : List Value := l.flatMap Mi.cells
theorem micells_len (l : List Mi) : (micells l).length = l.length * 4 := by
  induction l with
  | nil => rfl
  | cons e t ih => simp only [micells, List.flatMap_cons, List.length_append, List.length_cons] at ih ⊢; rw [ih]; simp [Mi.cells]; omega
theorem micells_append (l m : List Mi) : micells (l ++ m) = micells l ++ micells m := by simp [micells]
theorem micells_one (l : List Mi) : ∀ u ∈ micells l, u.oneCell' = true := by
  intro u hu
  obtain ⟨e, _, h⟩ := List.mem_flatMap.1 hu
  simp only [Mi.cells, List.mem_cons, List.not_mem_nil, or_false] at h
  rcases h with rfl | rfl | rfl | rfl <;> rfl
def Fr.Msg.mi (m : Fr.Msg) : Mi := ⟨m.kind, m.level, m.name, m.finding⟩
theorem micells_of (l : List Fr.Msg) : micells (l.map Fr.Msg.mi) = mcells l := by
  simp only [micells, mcells, List.flatMap_map]; rfl
abbrev MBuf (w : World) (g : Nat) (l : List Mi) (c : Nat) : Prop := VBuf w g 76 4 (micells l) c

/-- An edge with which the owner of list i marks it. -/
def mMark (i : Nat) : Mi := ⟨-7070 - (i : Int), 0, 0, false⟩
/-- What is held while a row grows: nothing old is touched but the row's own block, whose edges stand; the mark's box stands. -/
structure MiS (w w' : World) (g c zb i : Nat) (l : List Mi) : Prop where
  keep : Keep (only g) w w'
  buf : MBuf w' g l c
  z : Blk w' zb (mMark i).cells.toArray 76
  ne : zb ≠ g
theorem MiS.alloc {w w' : World} {g c zb i : Nat} {l : List Mi} (h : MiS w w' g c zb i l) (o : Obj) : MiS w (w'.alloc o) g c zb i l :=
  ⟨h.keep.alloc o, h.buf.alloc o, h.z.keep ((Keep.refl nil w').alloc o) (fun e => e), h.ne⟩
theorem MiS.drew {w w' : World} {g c zb i : Nat} {l : List Mi} (h : MiS w w' g c zb i l) : MiS w w'.drew g c zb i l :=
  ⟨h.keep.drew, h.buf.drew, h.z.keep ((Keep.refl nil w').drew) (fun e => e), h.ne⟩
theorem MiS.app {w w' w1 : World} {g c zb i g1 k1 m : Nat} {l : List Mi} {news : List Value} (h : MiS w w' g c zb i l) (hb : VBuf w1 g1 76 4 (micells l ++ news) k1) (hd : (g1 = g ∧ k1 = c) ∨ (g1 = w'.heap.size ∧ c < m ∧ Keep nil w' w1)) (k : Keep (only g) w' w1) : MiS w w1 g c zb i l :=
  ⟨h.keep.trans k, VBuf.after h.buf hb hd, h.z.keep k (fun e => h.ne e), h.ne⟩
theorem MiS.ald {w X : World} {g c zb i : Nat} {l : List Mi} {o : Obj} (h : MiS w X.drew g c zb i l) : MiS w (X.alloc o).drew g c zb i l := MiS.alloc h o
theorem heldM_in {w w' : World} {g c zb i : Nat} {l : List Mi} (h : w'.cell? ⟨zb, 0, none⟩ = some (.int .i64 (-7070 - (i : Int))) ∧ w'.cell? ⟨zb, 1, none⟩ = some (.int .i64 0) ∧ w'.cell? ⟨zb, 2, none⟩ = some (.int .i64 0) ∧ w'.cell? ⟨zb, 3, none⟩ = some (.bool false) ∧ MiS w w' g c zb i l) : MiS w w' g c zb i l := h.2.2.2.2
theorem heldM_of {w w' : World} {g c zb i : Nat} {l : List Mi} (h : MiS w w' g c zb i l) : w'.cell? ⟨zb, 0, none⟩ = some (.int .i64 (-7070 - (i : Int))) ∧ w'.cell? ⟨zb, 1, none⟩ = some (.int .i64 0) ∧ w'.cell? ⟨zb, 2, none⟩ = some (.int .i64 0) ∧ w'.cell? ⟨zb, 3, none⟩ = some (.bool false) ∧ MiS w w' g c zb i l :=
  ⟨h.z.cell 0, h.z.cell 1, h.z.cell 2, h.z.cell 3, h⟩

/-- Whether a list of edges is what it says. -/
def Lst.okM (w : World) (t : Lst) : Prop := match t.b with
  | none => t.n = 0
  | some g => Room w g 76 (t.n * 4)
/-- Behind the making of the four lists, ahead of the writing. -/
structure MidM (w wx : World) (g zb i nl n0 : Nat) (S : List Lst) : Prop where
  keep : Keep (only g) w wx
  blk : Blk wx n0 (S.map Lst.val).toArray 112
  z : Blk wx zb (mMark i).cells.toArray 76
  four : S.length = 4
  ok : ∀ t ∈ S, t.okM wx
  sl : ∀ t ∈ S, t.n ≤ nl + 3
  new : ∀ t ∈ S, ∀ b, t.b = some b → b = g ∨ w.heap.size ≤ b
  ne : ∀ t ∈ S, ∀ b, t.b = some b → b ≠ n0 ∧ b ≠ zb
  far : w.heap.size ≤ n0
  apart : n0 ≠ zb
theorem midM_of {w w1 w2 w3 : World} {g c zb i g1 c1 g2 c2 g3 c3 : Nat} {l : List Mi} {v1 v2 v3 : List Value} (hs : MiS w (w3.alloc (.cells #[.slice (some ⟨g, 0, none⟩) l.length c, .slice (some ⟨g1, 0, none⟩) (l.length + 1) c1, .slice (some ⟨g2, 0, none⟩) (l.length + 2) c2, .slice (some ⟨g3, 0, none⟩) (l.length + 3) c3] 112)) g c zb i l) (hg : g < w.heap.size) (hz : zb = w.heap.size) (hz3 : w.heap.size < w3.heap.size) (hcl : l.length ≤ c)
    (h1 : VBuf w1 g1 76 4 v1 c1) (hc1 : l.length + 1 ≤ c1) (hd1 : (g1 = g ∧ c1 = c) ∨ w.heap.size < g1) (k12 : Keep (only g) w1 w2)
    (h2 : VBuf w2 g2 76 4 v2 c2) (hc2 : l.length + 2 ≤ c2) (hd2 : (g2 = g ∧ c2 = c) ∨ w.heap.size < g2) (k23 : Keep (only g) w2 w3)
    (h3 : VBuf w3 g3 76 4 v3 c3) (hc3 : l.length + 3 ≤ c3) (hd3 : (g3 = g ∧ c3 = c) ∨ w.heap.size < g3) :
    MidM w (w3.alloc (.cells #[.slice (some ⟨g, 0, none⟩) l.length c, .slice (some ⟨g1, 0, none⟩) (l.length + 1) c1, .slice (some ⟨g2, 0, none⟩) (l.length + 2) c2, .slice (some ⟨g3, 0, none⟩) (l.length + 3) c3] 112)) g zb i l.length w3.heap.size
      [⟨some g, l.length, c⟩, ⟨some g1, l.length + 1, c1⟩, ⟨some g2, l.length + 2, c2⟩, ⟨some g3, l.length + 3, c3⟩] := by
  have kn : Keep nil w3 (w3.alloc (.cells #[.slice (some ⟨g, 0, none⟩) l.length c, .slice (some ⟨g1, 0, none⟩) (l.length + 1) c1, .slice (some ⟨g2, 0, none⟩) (l.length + 2) c2, .slice (some ⟨g3, 0, none⟩) (l.length + 3) c3] 112)) := (Keep.refl nil w3).alloc _
  have R0 : Room (w3.alloc (.cells #[.slice (some ⟨g, 0, none⟩) l.length c, .slice (some ⟨g1, 0, none⟩) (l.length + 1) c1, .slice (some ⟨g2, 0, none⟩) (l.length + 2) c2, .slice (some ⟨g3, 0, none⟩) (l.length + 3) c3] 112)) g 76 (c * 4) := hs.buf.room
  have R1 : Room (w3.alloc (.cells #[.slice (some ⟨g, 0, none⟩) l.length c, .slice (some ⟨g1, 0, none⟩) (l.length + 1) c1, .slice (some ⟨g2, 0, none⟩) (l.length + 2) c2, .slice (some ⟨g3, 0, none⟩) (l.length + 3) c3] 112)) g1 76 ((l.length + 1) * 4) ∧ g1 < w3.heap.size := by
    rcases hd1 with ⟨rfl, rfl⟩ | h
    · exact ⟨R0.less (by omega), by omega⟩
    · have := ((h1.room.less (show (l.length + 1) * 4 ≤ c1 * 4 by omega)).keep k12 (fun e => by simp only [only] at e; omega)).keep k23 (fun e => by simp only [only] at e; omega)
      exact ⟨this.keep kn (fun e => e), this.lt⟩
  have R2 : Room (w3.alloc (.cells #[.slice (some ⟨g, 0, none⟩) l.length c, .slice (some ⟨g1, 0, none⟩) (l.length + 1) c1, .slice (some ⟨g2, 0, none⟩) (l.length + 2) c2, .slice (some ⟨g3, 0, none⟩) (l.length + 3) c3] 112)) g2 76 ((l.length + 2) * 4) ∧ g2 < w3.heap.size := by
    rcases hd2 with ⟨rfl, rfl⟩ | h
    · exact ⟨R0.less (by omega), by omega⟩
    · have := (h2.room.less (show (l.length + 2) * 4 ≤ c2 * 4 by omega)).keep k23 (fun e => by simp only [only] at e; omega)
      exact ⟨this.keep kn (fun e => e), this.lt⟩
  have R3 : Room (w3.alloc (.cells #[.slice (some ⟨g, 0, none⟩) l.length c, .slice (some ⟨g1, 0, none⟩) (l.length + 1) c1, .slice (some ⟨g2, 0, none⟩) (l.length + 2) c2, .slice (some ⟨g3, 0, none⟩) (l.length + 3) c3] 112)) g3 76 ((l.length + 3) * 4) ∧ g3 < w3.heap.size := ⟨(h3.room.less (by omega)).keep kn (fun e => e), h3.lt⟩
  refine ⟨hs.keep, Blk.new _ _ _, hs.z, rfl, fun t ht => ?_, fun t ht => ?_, fun t ht b hb => ?_, fun t ht b hb => ?_, by omega, by omega⟩
  · simp only [List.mem_cons, List.not_mem_nil, or_false] at ht
    rcases ht with rfl | rfl | rfl | rfl
    · exact R0.less (by show l.length * 4 ≤ c * 4; omega)
    · exact R1.1
    · exact R2.1
    · exact R3.1
  · simp only [List.mem_cons, List.not_mem_nil, or_false] at ht
    rcases ht with rfl | rfl | rfl | rfl <;> simp only <;> omega
  · simp only [List.mem_cons, List.not_mem_nil, or_false] at ht
    rcases ht with rfl | rfl | rfl | rfl <;> simp only [Option.some.injEq] at hb <;> subst hb
    · exact Or.inl rfl
    · rcases hd1 with ⟨e, _⟩ | h
      · exact Or.inl e
      · exact Or.inr (by omega)
    · rcases hd2 with ⟨e, _⟩ | h
      · exact Or.inl e
      · exact Or.inr (by omega)
    · rcases hd3 with ⟨e, _⟩ | h
      · exact Or.inl e
      · exact Or.inr (by omega)
  · have l1 := R1.2
    have l2 := R2.2
    have l3 := R3.2
    simp only [List.mem_cons, List.not_mem_nil, or_false] at ht
    rcases ht with rfl | rfl | rfl | rfl <;> simp only [Option.some.injEq] at hb <;> subst hb
    · omega
    · rcases hd1 with ⟨e, _⟩ | h <;> omega
    · rcases hd2 with ⟨e, _⟩ | h <;> omega
    · rcases hd3 with ⟨e, _⟩ | h <;> omega
/-- What a cell of a marked list of edges holds. -/
def mmk (i p : Nat) : Value := if p % 4 = 0 then .int .i64 (-7070 - (i : Int)) else if p % 4 = 3 then .bool false else .int .i64 0
theorem mmk0 (i q : Nat) : mmk i (q * 4) = .int .i64 (-7070 - (i : Int)) := by unfold mmk; rw [if_pos (by omega)]
theorem mmk1 (i q : Nat) : mmk i (q * 4 + 1) = .int .i64 0 := by unfold mmk; rw [if_neg (by omega), if_neg (by omega)]
theorem mmk2 (i q : Nat) : mmk i (q * 4 + 2) = .int .i64 0 := by unfold mmk; rw [if_neg (by omega), if_neg (by omega)]
theorem mmk3 (i q : Nat) : mmk i (q * 4 + 3) = .bool false := by unfold mmk; rw [if_neg (by omega), if_pos (by omega)]
/-- The first m places of block g hold the marks of list i. -/
def MMarked (w : World) (g i m : Nat) : Prop := ∀ p, p < m * 4 → w.cell? ⟨g, p, none⟩ = some (mmk i p)
theorem MMarked.set {w : World} {g i m : Nat} (h : MMarked w g i m) (g' p : Nat) : MMarked (w.setCell ⟨g', p, none⟩ (mmk i p)) g i m := by
  intro q hq
  by_cases he : (⟨g', p, none⟩ : Addr) = ⟨g, q, none⟩
  · rw [he]
    have hp : p = q := by injection he
    subst hp
    exact World.cell?_setCell_same _ _ _ (h p hq)
  · rw [World.cell?_setCell_other _ _ _ _ he]
    exact h q hq
theorem MMarked.keep {ex : Nat → Prop} {w w' : World} {g i m : Nat} (h : MMarked w g i m) (k : Keep ex w w') (hg : g < w.heap.size) (hn : ¬ ex g) : MMarked w' g i m :=
  fun p hp => (k.cell g p hg hn).trans (h p hp)
def Lst.markedM (w : World) (i : Nat) (t : Lst) : Prop := match t.b with
  | none => True
  | some g => MMarked w g i t.n
/-- An edge is written as a mark. -/
def mput4 (w : World) (g i q : Nat) : World := (((w.setCell ⟨g, q * 4, none⟩ (mmk i (q * 4))).setCell ⟨g, q * 4 + 1, none⟩ (mmk i (q * 4 + 1))).setCell ⟨g, q * 4 + 2, none⟩ (mmk i (q * 4 + 2))).setCell ⟨g, q * 4 + 3, none⟩ (mmk i (q * 4 + 3))
theorem MMarked.put {w : World} {g i m : Nat} (h : MMarked w g i m) (g' q : Nat) : MMarked (mput4 w g' i q) g i m := (((h.set g' _).set g' _).set g' _).set g' _
theorem MMarked.more {w : World} {g i q : Nat} (h : MMarked w g i q) (hr : Room w g 76 ((q + 1) * 4)) : MMarked (mput4 w g i q) g i (q + 1) := by
  intro p hp
  by_cases e : p < q * 4
  · exact h.put g q p e
  · obtain ⟨u0, h0⟩ := hr.some (q * 4) (by omega)
    obtain ⟨u1, h1⟩ := hr.some (q * 4 + 1) (by omega)
    obtain ⟨u2, h2⟩ := hr.some (q * 4 + 2) (by omega)
    obtain ⟨u3, h3⟩ := hr.some (q * 4 + 3) (by omega)
    have hne : ∀ a b : Nat, a ≠ b → (⟨g, a, none⟩ : Addr) ≠ ⟨g, b, none⟩ := fun a b hab e => hab (by injection e)
    have hp3 : p = q * 4 ∨ p = q * 4 + 1 ∨ p = q * 4 + 2 ∨ p = q * 4 + 3 := by omega
    rcases hp3 with rfl | rfl | rfl | rfl
    · unfold mput4
      rw [World.cell?_setCell_other _ _ _ _ (hne _ _ (by omega)), World.cell?_setCell_other _ _ _ _ (hne _ _ (by omega)), World.cell?_setCell_other _ _ _ _ (hne _ _ (by omega))]
      exact World.cell?_setCell_same _ _ _ h0
    · unfold mput4
      rw [World.cell?_setCell_other _ _ _ _ (hne _ _ (by omega)), World.cell?_setCell_other _ _ _ _ (hne _ _ (by omega))]
      obtain ⟨u', h'⟩ := cell_set (p := q * 4) (v := mmk i (q * 4)) h1
      exact World.cell?_setCell_same _ _ _ h'
    · unfold mput4
      rw [World.cell?_setCell_other _ _ _ _ (hne _ _ (by omega))]
      obtain ⟨u', h'⟩ := cell_set (p := q * 4) (v := mmk i (q * 4)) h2
      obtain ⟨u'', h''⟩ := cell_set (p := q * 4 + 1) (v := mmk i (q * 4 + 1)) h'
      exact World.cell?_setCell_same _ _ _ h''
    · unfold mput4
      obtain ⟨u', h'⟩ := cell_set (p := q * 4) (v := mmk i (q * 4)) h3
      obtain ⟨u'', h''⟩ := cell_set (p := q * 4 + 1) (v := mmk i (q * 4 + 1)) h'
      obtain ⟨u3', h3'⟩ := cell_set (p := q * 4 + 2) (v := mmk i (q * 4 + 2)) h''
      exact World.cell?_setCell_same _ _ _ h3'

/-- In the middle of the writing: the lists before the k-th are written. -/
structure StM (W0 wr : World) (S : List Lst) (i k : Nat) : Prop where
  keep : Keep (fun b => ∃ t ∈ S, t.b = some b) W0 wr
  ok : ∀ t ∈ S, t.okM wr
  done : ∀ j t, j < k → S[j]? = some t → t.markedM wr i
theorem StM.put {W0 wr : World} {S : List Lst} {i k : Nat} (h : StM W0 wr S i k) (g q : Nat) (hg : ∃ t ∈ S, t.b = some g) : StM W0 (mput4 wr g i q) S i k := by
  refine ⟨(((h.keep.setCell (p := ⟨g, q * 4, none⟩) (fun _ => hg) _).setCell (p := ⟨g, q * 4 + 1, none⟩) (fun _ => hg) _).setCell (p := ⟨g, q * 4 + 2, none⟩) (fun _ => hg) _).setCell (p := ⟨g, q * 4 + 3, none⟩) (fun _ => hg) _, fun t ht => ?_, fun j t hj ht => ?_⟩
  · have := h.ok t ht
    unfold Lst.okM at this ⊢
    cases hb : t.b with
    | none => rw [hb] at this; exact this
    | some b => rw [hb] at this; exact (((this.set _ _ rfl).set _ _ rfl).set _ _ rfl).set _ _ rfl
  · have := h.done j t hj ht
    unfold Lst.markedM at this ⊢
    cases hb : t.b with
    | none => trivial
    | some b => rw [hb] at this; exact this.put g q
theorem StM.drew {W0 wr : World} {S : List Lst} {i k : Nat} (h : StM W0 wr S i k) : StM W0 wr.drew S i k := ⟨h.keep.drew, h.ok, h.done⟩
theorem StM.next {W0 wr : World} {S : List Lst} {i k : Nat} (h : StM W0 wr S i k) (t : Lst) (ht : S[k]? = some t) (hm : t.markedM wr i) : StM W0 wr S i (k + 1) := by
  refine ⟨h.keep, h.ok, fun j u hj hu => ?_⟩
  by_cases e : j = k
  · subst e; rw [ht] at hu; cases hu; exact hm
  · exact h.done j u (by omega) hu
theorem notes_info : (Tryz.prog.info? 111).map (fun i => (i.zero, i.size, i.bytes)) = some (some (.slice none 0 0), 1, 24) := by kernel_rfl

/-- What stands behind the writing, once the row of sheets has one more. -/
theorem messages_end {w wr w4 : World} {G : Nat → Prop} {yb nb ab na : Nat} {a0 : Option Addr} {S : List Lst} {O : Obj} {c' : Nat} {V : List Value} {p0 p1 p2 p3 p4 p5 p6 p7 : Value}
    (byb : Blk wr yb #[p0, p1, p2, p3, p4, p5, p6, p7] 73) (hyg : ¬ G yb) (hyl : yb < w.heap.size) (k1 : Keep G w wr) (bnb : Blk wr nb (S.map Lst.val).toArray 112) (hnb : w.heap.size ≤ nb) (h4 : S.length = 4)
    (hsl : ∀ t ∈ S, (t.n : Int) ≤ 140737488351310) (hmk : ∀ t ∈ S, t.markedM wr na) (hbl : ∀ t ∈ S, ∀ b, t.b = some b → b < wr.heap.size) (hnew : ∀ t ∈ S, ∀ b, t.b = some b → G b ∨ w.heap.size ≤ b)
    (ha : ∀ b, a0 = some ⟨b, 0, none⟩ → ¬ G b ∧ b ≠ yb ∧ b < w.heap.size) (hab : a0 = some ⟨ab, 0, none⟩ ∨ ab = wr.heap.size + 1) (hk4 : Keep (fun b => a0 = some ⟨b, 0, none⟩) (wr.alloc O) w4) (hb4 : VBuf w4 ab 111 1 V c') :
    Blk (w4.setCell ⟨yb, 4, none⟩ (.slice (some ⟨ab, 0, none⟩) (na + 1) c')) yb #[p0, p1, p2, p3, .slice (some ⟨ab, 0, none⟩) (na + 1) c', p5, p6, p7] 73 ∧
    VBuf (w4.setCell ⟨yb, 4, none⟩ (.slice (some ⟨ab, 0, none⟩) (na + 1) c')) ab 111 1 V c' ∧ (a0 = some ⟨ab, 0, none⟩ ∨ w.heap.size ≤ ab) ∧
    Blk (w4.setCell ⟨yb, 4, none⟩ (.slice (some ⟨ab, 0, none⟩) (na + 1) c')) nb (S.map Lst.val).toArray 112 ∧ w.heap.size ≤ nb ∧ nb ≠ ab ∧ S.length = 4 ∧
    (∀ t ∈ S, t.markedM (w4.setCell ⟨yb, 4, none⟩ (.slice (some ⟨ab, 0, none⟩) (na + 1) c')) na ∧ (t.n : Int) ≤ 140737488351310 ∧ ∀ b, t.b = some b → (G b ∨ w.heap.size ≤ b) ∧ b ≠ ab ∧ b < (w4.setCell ⟨yb, 4, none⟩ (.slice (some ⟨ab, 0, none⟩) (na + 1) c')).heap.size) ∧
    Keep (fun b => G b ∨ b = yb ∨ a0 = some ⟨b, 0, none⟩) w (w4.setCell ⟨yb, 4, none⟩ (.slice (some ⟨ab, 0, none⟩) (na + 1) c')) := by
  have hz1 := k1.size
  have hz4 := hk4.size
  simp only [World.size_alloc] at hz4
  have hnl := bnb.lt
  have hya : ¬ a0 = some ⟨yb, 0, none⟩ := fun e => (ha yb e).2.1 rfl
  have haby : ab ≠ yb := by
    rcases hab with e | e
    · exact (ha ab e).2.1
    · omega
  have ks : Keep (only yb) w4 (w4.setCell ⟨yb, 4, none⟩ (.slice (some ⟨ab, 0, none⟩) (na + 1) c')) := (Keep.refl (only yb) w4).setCell (p := ⟨yb, 4, none⟩) (fun _ => rfl) _
  have kw : Keep (fun b => a0 = some ⟨b, 0, none⟩) wr w4 := ((Keep.refl _ wr).alloc O).trans hk4
  refine ⟨(byb.keep kw hya).set 4 _, hb4.keep ks (fun e => haby e), ?_, (bnb.keep kw (fun e => by have := (ha nb e).2.2; omega)).keep ks (fun e => by simp only [only] at e; omega), hnb, ?_, h4, fun t ht => ⟨?_, hsl t ht, fun b hb => ⟨hnew t ht b hb, ?_, ?_⟩⟩, ?_⟩
  · rcases hab with e | e
    · exact Or.inl e
    · exact Or.inr (by omega)
  · rcases hab with e | e
    · have := (ha ab e).2.2; omega
    · omega
  · have hm := hmk t ht
    unfold Lst.markedM at hm ⊢
    cases hb : t.b with
    | none => trivial
    | some b =>
      rw [hb] at hm
      have h1 := hbl t ht b hb
      have h2 := hnew t ht b hb
      refine (MMarked.keep hm kw h1 (fun e => ?_)).keep ks (by have := kw.size; omega) (fun e => ?_)
      · have h3 := ha b e
        rcases h2 with h2 | h2
        · exact h3.1 h2
        · omega
      · simp only [only] at e
        rcases h2 with h2 | h2
        · exact hyg (e ▸ h2)
        · omega
  · have h1 := hbl t ht b hb
    have h2 := hnew t ht b hb
    rcases hab with e | e
    · have h3 := ha ab e
      rcases h2 with h2 | h2
      · intro e'; exact h3.1 (e' ▸ h2)
      · omega
    · omega
  · have h1 := hbl t ht b hb
    simp only [World.size_setCell]
    omega
  · exact ((k1.mono (ex' := fun b => G b ∨ b = yb ∨ a0 = some ⟨b, 0, none⟩) (fun i hi e => Or.inl e)).trans (kw.mono (fun i hi e => Or.inr (Or.inr e)))).setCell (p := ⟨yb, 4, none⟩) (fun _ => Or.inr (Or.inl rfl)) _

end Go.Proofs.YtlfijfodklhplaaGreat
/- Lists of messages that lie anywhere, and that their owner writes over. -/
namespace Go.Proofs.YtlfijfodklhplaaGreat
open Go.RowKit
set_option linter.unusedVariables false
set_option linter.unusedSimpArgs false

theorem rv_anyS {w : World} {e : TypeId} {size : Nat} {a : Option Addr} {n c : Nat} {vs : List Value} (h : RV w e size a n c vs) (g' q : Nat) (v : Value) : ∃ vs', RV (w.setCell ⟨g', q, none⟩ v) e size a n c vs' := by
  obtain ⟨h1, h2, h3⟩ := h
  rcases h3 with h3 | ⟨g, o, rfl, pre, sp, hb, hp, hc⟩
  · exact ⟨vs, h1, h2, Or.inl h3⟩
  · by_cases he : g' = g
    · subst he
      have hs := hb.set q v
      have e1 : ∀ (X : List Value) (a b : Nat), X.toArray.setIfInBounds q v = ((X.set q v).take a ++ ((X.set q v).drop a).take b ++ ((X.set q v).drop a).drop b).toArray := fun X a b => by
        rw [List.append_assoc, List.take_append_drop, List.take_append_drop]
        simp
      rw [e1 _ pre.length vs.length] at hs
      refine ⟨(((pre ++ vs ++ sp).set q v).drop pre.length).take vs.length, ?_, h2, Or.inr ⟨g', o, rfl, _, _, hs, ?_, ?_⟩⟩
      · simp; omega
      · simp; omega
      · simp; omega
    · have ks : Keep (only g') w (w.setCell ⟨g', q, none⟩ v) := (Keep.refl (only g') w).setCell (p := ⟨g', q, none⟩) (fun _ => rfl) _
      exact ⟨vs, h1, h2, Or.inr ⟨g, o, rfl, pre, sp, hb.keep ks (fun e => he e.symm), hp, hc⟩⟩
theorem rv_wideS {w : World} {e : TypeId} {size : Nat} {a : Option Addr} {n c : Nat} {vs : List Value} (h : RV w e size a n c vs) (n' : Nat) (hn : n' ≤ c) : ∃ vs', RV w e size a n' c vs' := by
  obtain ⟨h1, h2, h3⟩ := h
  rcases h3 with ⟨e1, e2, e3⟩ | ⟨g, o, rfl, pre, sp, hb, hp, hc⟩
  · have : n' = 0 := by omega
    subst this
    exact ⟨[], by simp, by omega, Or.inl ⟨e1, rfl, e3⟩⟩
  · have hm : n' * size ≤ c * size := Nat.mul_le_mul_right _ hn
    refine ⟨(vs ++ sp).take (n' * size), by simp; omega, hn, Or.inr ⟨g, o, rfl, pre, (vs ++ sp).drop (n' * size), ?_, hp, by simp; omega⟩⟩
    rw [List.append_assoc, List.take_append_drop, ← List.append_assoc]
    exact hb

def Ls.okR (w : World) (t : Ls) : Prop := ∃ vs, RV w 76 4 t.a t.n t.c vs
theorem Ls.okR.keep {ex : Nat → Prop} {w w' : World} {t : Ls} (h : t.okR w) (k : Keep ex w w') (hn : ∀ g, inB t.a g → ¬ ex g) : t.okR w' := let ⟨vs, hv⟩ := h; ⟨vs, hv.keep k hn⟩
theorem Ls.okR.lt {w : World} {t : Ls} (h : t.okR w) : ∀ g, inB t.a g → g < w.heap.size := let ⟨vs, hv⟩ := h; hv.lt
theorem Ls.okR.at {w : World} {t : Ls} (h : t.okR w) {p : Nat} (hp : p < t.n) : ∃ g o, t.a = some ⟨g, o, none⟩ ∧ g < w.heap.size ∧ ∀ j, j < 4 → (∃ u, w.cell? ⟨g, o + p * 4 + j, none⟩ = some u) ∧ w.frozen? ⟨g, o + p * 4 + j, none⟩ = false := by
  obtain ⟨vs, h1, h2, h3⟩ := h
  rcases h3 with ⟨_, h3, _⟩ | ⟨g, o, h3, hv⟩
  · omega
  · refine ⟨g, o, h3, hv.lt, fun j hj => ⟨?_, hv.frozen _⟩⟩
    have hl : p * 4 + j < vs.length := by omega
    exact ⟨vs[p * 4 + j], by rw [Nat.add_assoc]; exact hv.cell _ _ (List.getElem?_eq_getElem hl)⟩
/-- Its first m messages are marks of list i. -/
def MFil (w : World) (a : Option Addr) (m i : Nat) : Prop := ∀ g o, a = some ⟨g, o, none⟩ → ∀ p, p < m * 4 → w.cell? ⟨g, o + p, none⟩ = some (mmk i p)
theorem MFil.set {w : World} {a : Option Addr} {m i : Nat} (h : MFil w a m i) (g' o' x : Nat) (hs : ∀ o, a = some ⟨g', o, none⟩ → o = o') : MFil (w.setCell ⟨g', o' + x, none⟩ (mmk i x)) a m i := by
  intro g o ha p hp
  by_cases he : (⟨g', o' + x, none⟩ : Addr) = ⟨g, o + p, none⟩
  · have h1 : g' = g := by injection he
    have h2 : o' + x = o + p := by injection he
    subst h1
    have h3 := hs o ha
    have h4 : x = p := by omega
    subst h3 h4
    exact World.cell?_setCell_same _ _ _ (h g' o ha x hp)
  · rw [World.cell?_setCell_other _ _ _ _ he]; exact h g o ha p hp
theorem MFil.keep {ex : Nat → Prop} {w w' : World} {a : Option Addr} {m i : Nat} (h : MFil w a m i) (k : Keep ex w w') (hg : ∀ g, inB a g → g < w.heap.size ∧ ¬ ex g) : MFil w' a m i := fun g o ha p hp =>
  (k.cell g (o + p) (hg g ⟨o, ha⟩).1 (hg g ⟨o, ha⟩).2).trans (h g o ha p hp)
/-- A message is written as a mark. -/
def putR (w : World) (g o i q : Nat) : World := (((w.setCell ⟨g, o + q * 4, none⟩ (mmk i (q * 4))).setCell ⟨g, o + (q * 4 + 1), none⟩ (mmk i (q * 4 + 1))).setCell ⟨g, o + (q * 4 + 2), none⟩ (mmk i (q * 4 + 2))).setCell ⟨g, o + (q * 4 + 3), none⟩ (mmk i (q * 4 + 3))
theorem MFil.put {w : World} {a : Option Addr} {m i : Nat} (h : MFil w a m i) (g o q : Nat) (hs : ∀ o', a = some ⟨g, o', none⟩ → o' = o) : MFil (putR w g o i q) a m i := (((h.set g o _ hs).set g o _ hs).set g o _ hs).set g o _ hs
theorem cell_setR {w : World} {b p : Nat} {v u : Value} {q : Nat} (h : w.cell? ⟨b, q, none⟩ = some u) : ∃ u', (w.setCell ⟨b, p, none⟩ v).cell? ⟨b, q, none⟩ = some u' := cell_set h
theorem MFil.more {w : World} {g o i q : Nat} (h : MFil w (some ⟨g, o, none⟩) q i) (hr : ∀ j, j < 4 → ∃ u, w.cell? ⟨g, o + q * 4 + j, none⟩ = some u) : MFil (putR w g o i q) (some ⟨g, o, none⟩) (q + 1) i := by
  intro g1 o1 ha p hp
  cases ha
  by_cases e : p < q * 4
  · exact h.put g o q (fun o' e => by cases e; rfl) g o rfl p e
  · obtain ⟨u0, h0⟩ := hr 0 (by omega)
    obtain ⟨u1, h1⟩ := hr 1 (by omega)
    obtain ⟨u2, h2⟩ := hr 2 (by omega)
    obtain ⟨u3, h3⟩ := hr 3 (by omega)
    rw [Nat.add_zero] at h0
    rw [Nat.add_assoc] at h1 h2 h3
    have hne : ∀ a b : Nat, a ≠ b → (⟨g, a, none⟩ : Addr) ≠ ⟨g, b, none⟩ := fun a b hab e => hab (by injection e)
    have hp3 : p = q * 4 ∨ p = q * 4 + 1 ∨ p = q * 4 + 2 ∨ p = q * 4 + 3 := by omega
    rcases hp3 with rfl | rfl | rfl | rfl
    · unfold putR
      rw [World.cell?_setCell_other _ _ _ _ (hne _ _ (by omega)), World.cell?_setCell_other _ _ _ _ (hne _ _ (by omega)), World.cell?_setCell_other _ _ _ _ (hne _ _ (by omega))]
      exact World.cell?_setCell_same _ _ _ h0
    · unfold putR
      rw [World.cell?_setCell_other _ _ _ _ (hne _ _ (by omega)), World.cell?_setCell_other _ _ _ _ (hne _ _ (by omega))]
      obtain ⟨u', h'⟩ := cell_set (p := o + q * 4) (v := mmk i (q * 4)) h1
      exact World.cell?_setCell_same _ _ _ h'
    · unfold putR
      rw [World.cell?_setCell_other _ _ _ _ (hne _ _ (by omega))]
      obtain ⟨u', h'⟩ := cell_set (p := o + q * 4) (v := mmk i (q * 4)) h2
      obtain ⟨u'', h''⟩ := cell_set (p := o + (q * 4 + 1)) (v := mmk i (q * 4 + 1)) h'
      exact World.cell?_setCell_same _ _ _ h''
    · unfold putR
      obtain ⟨u', h'⟩ := cell_set (p := o + q * 4) (v := mmk i (q * 4)) h3
      obtain ⟨u'', h''⟩ := cell_set (p := o + (q * 4 + 1)) (v := mmk i (q * 4 + 1)) h'
      obtain ⟨u3', h3'⟩ := cell_set (p := o + (q * 4 + 2)) (v := mmk i (q * 4 + 2)) h''
      exact World.cell?_setCell_same _ _ _ h3'
/-- In the middle of the writing: the lists before the k-th are written. -/
structure StR (W0 wr : World) (S : List Ls) (i k : Nat) : Prop where
  keep : Keep (fun b => ∃ t ∈ S, inB t.a b) W0 wr
  ok : ∀ t ∈ S, t.okR wr
  done : ∀ j t, j < k → S[j]? = some t → MFil wr t.a t.n i
theorem StR.put {W0 wr : World} {S : List Ls} {i k : Nat} (h : StR W0 wr S i k) (g o q : Nat) (hg : ∃ t ∈ S, t.a = some ⟨g, o, none⟩) (hone : ∀ t ∈ S, ∀ u ∈ S, ∀ b o o', t.a = some ⟨b, o, none⟩ → u.a = some ⟨b, o', none⟩ → o = o') : StR W0 (putR wr g o i q) S i k := by
  obtain ⟨t0, ht0, e0⟩ := hg
  have hg' : ∃ t ∈ S, inB t.a g := ⟨t0, ht0, ⟨o, e0⟩⟩
  refine ⟨(((h.keep.setCell (p := ⟨g, o + q * 4, none⟩) (fun _ => hg') _).setCell (p := ⟨g, o + (q * 4 + 1), none⟩) (fun _ => hg') _).setCell (p := ⟨g, o + (q * 4 + 2), none⟩) (fun _ => hg') _).setCell (p := ⟨g, o + (q * 4 + 3), none⟩) (fun _ => hg') _, fun t ht => ?_, fun j t hj ht => (h.done j t hj ht).put g o q (fun o' e => hone t (List.mem_of_getElem? ht) t0 ht0 g o' o e e0)⟩
  obtain ⟨v1, h1⟩ := h.ok t ht
  obtain ⟨v2, h2⟩ := rv_anyS h1 g (o + q * 4) (mmk i (q * 4))
  obtain ⟨v3, h3⟩ := rv_anyS h2 g (o + (q * 4 + 1)) (mmk i (q * 4 + 1))
  obtain ⟨v4, h4⟩ := rv_anyS h3 g (o + (q * 4 + 2)) (mmk i (q * 4 + 2))
  exact rv_anyS h4 g (o + (q * 4 + 3)) (mmk i (q * 4 + 3))
theorem StR.next {W0 wr : World} {S : List Ls} {i k : Nat} (h : StR W0 wr S i k) (t : Ls) (ht : S[k]? = some t) (hm : MFil wr t.a t.n i) : StR W0 wr S i (k + 1) := by
  refine ⟨h.keep, h.ok, fun j u hj hu => ?_⟩
  by_cases e : j = k
  · subst e; rw [ht] at hu; cases hu; exact hm
  · exact h.done j u (by omega) hu
theorem StR.drew {W0 wr : World} {S : List Ls} {i k : Nat} (h : StR W0 wr S i k) : StR W0 wr.drew S i k := ⟨h.keep.drew, h.ok, h.done⟩
end Go.Proofs.YtlfijfodklhplaaGreat
