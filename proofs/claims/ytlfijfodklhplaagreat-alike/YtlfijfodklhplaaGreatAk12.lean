import Derived.Test.YtlfijfodklhplaaGreatAk10
import Derived.Test.YtlfijfodklhplaaGreatAk11
import Derived.StillTailTactics
import Derived.Deep.QuietTactic
import Derived.BigQuiet
import Derived.BigRegion
import Derived.Deep.RegionLaw
/- Lists of edges that their owner writes over; append as one step of a region that draws. -/
namespace Go.Proofs.YtlfijfodklhplaaGreat
open Go.RowKit
set_option linter.unusedVariables false

theorem step_append_any {P : Program} {ops : Array Oper} {o : Oper} {a : Act} {w : World} {K : Act → World → Prop} {Q : Exit → Act → World → Prop} {E : Prop}
    (hg : o.guard = none) (s x : Operand) (t : TypeId) (hop : o.op = Op.call { callee := Callee.builtin Builtin.append, args := #[s, x], argTypes := #[t, t] })
    (e : TypeId) (z : Value) (size bytes : Nat) (ht : P.underlying t = some (.slice e)) (hinfo : (P.info? e).map (fun i => (i.zero, i.size, i.bytes)) = some (some z, size, bytes)) (hzs : z.cells.size = size)
    (g n c : Nat) (hs : a.eval s = .slice (some ⟨g, 0, none⟩) n c) (vs : List Value) (hn : vs.length = n * size) (hb : VBuf w g e size vs c) (ad : Addr) (m c' : Nat) (hx : a.eval x = .slice (some ad) m c') (news : List Value) (hm : news.length = m * size)
    (hc : ∀ j u, news[j]? = some u → w.cell? (ad.add j) = some u) (h1 : ∀ u ∈ news, u.oneCell' = true) (hbytes : (n + m) * bytes ≤ 140737488355328) (h63 : n + m ≤ 9223372036854775807)
    (hK : ∀ g' k' w', VBuf w' g' e size (vs ++ news) k' → n + m ≤ k' → ((g' = g ∧ k' = c) ∨ (g' = w.heap.size ∧ c < n + m ∧ Keep nil w w')) → Keep (only g) w w' → K (a.put o.dst (.slice (some ⟨g', 0, none⟩) (n + m) k')) w') :
    if Region.wanted o (yielded ops a.tmps) = true then Oper.wp P o a w K Q else E := by
  have hw : Region.wanted o (yielded ops a.tmps) = true := by simp [Region.wanted, hg]
  rw [if_pos hw]
  obtain ⟨g', k', w', hrun, r1, r2, r3, r4⟩ := run_append_any (P := P) w t o.type e z size bytes ht hinfo hzs g n c vs hn hb ad m c' news hm hc h1 hbytes h63
  unfold Oper.wp
  simp [execOp, hop, resolve, invoke, builtin, hs, hx, hrun, Result.andThen]
  exact hK g' k' w' r1 r2 r3 r4

theorem Keep.al {ex : Nat → Prop} {w w' : World} {o : Obj} (h : Keep ex (w.alloc o) w') : Keep ex w w' := ((Keep.refl ex w).alloc o).trans h
theorem Keep.dr {ex : Nat → Prop} {w w' : World} (h : Keep ex w.drew w') : Keep ex w w' := ((Keep.refl ex w).drew).trans h

/-- An edge with which the owner of list i marks it. -/
def eMark (i : Nat) : Ed := ⟨-7070 - (i : Int), 0, 0⟩
/-- What is held while a row grows: nothing old is touched but the row's own block, whose edges stand; the mark's box stands. -/
structure EdS (w w' : World) (g c zb i : Nat) (l : List Ed) : Prop where
  keep : Keep (only g) w w'
  buf : EBuf w' g l c
  z : Blk w' zb (eMark i).cells.toArray 30
  ne : zb ≠ g
theorem EdS.alloc {w w' : World} {g c zb i : Nat} {l : List Ed} (h : EdS w w' g c zb i l) (o : Obj) : EdS w (w'.alloc o) g c zb i l :=
  ⟨h.keep.alloc o, h.buf.alloc o, h.z.keep ((Keep.refl nil w').alloc o) (fun e => e), h.ne⟩
theorem EdS.drew {w w' : World} {g c zb i : Nat} {l : List Ed} (h : EdS w w' g c zb i l) : EdS w w'.drew g c zb i l :=
  ⟨h.keep.drew, h.buf.drew, h.z.keep ((Keep.refl nil w').drew) (fun e => e), h.ne⟩
theorem EdS.app {w w' w1 : World} {g c zb i g1 k1 m : Nat} {l : List Ed} {news : List Value} (h : EdS w w' g c zb i l) (hb : VBuf w1 g1 30 3 (ecells l ++ news) k1) (hd : (g1 = g ∧ k1 = c) ∨ (g1 = w'.heap.size ∧ c < m ∧ Keep nil w' w1)) (k : Keep (only g) w' w1) : EdS w w1 g c zb i l :=
  ⟨h.keep.trans k, VBuf.after h.buf hb hd, h.z.keep k (fun e => h.ne e), h.ne⟩
theorem EdS.ald {w X : World} {g c zb i : Nat} {l : List Ed} {o : Obj} (h : EdS w X.drew g c zb i l) : EdS w (X.alloc o).drew g c zb i l := EdS.alloc h o
theorem held_in {w w' : World} {g c zb i : Nat} {l : List Ed} (h : w'.cell? ⟨zb, 0, none⟩ = some (.int .i64 (-7070 - (i : Int))) ∧ w'.cell? ⟨zb, 1, none⟩ = some (.int .i64 0) ∧ w'.cell? ⟨zb, 2, none⟩ = some (.int .i64 0) ∧ EdS w w' g c zb i l) : EdS w w' g c zb i l := h.2.2.2
theorem held_of {w w' : World} {g c zb i : Nat} {l : List Ed} (h : EdS w w' g c zb i l) : w'.cell? ⟨zb, 0, none⟩ = some (.int .i64 (-7070 - (i : Int))) ∧ w'.cell? ⟨zb, 1, none⟩ = some (.int .i64 0) ∧ w'.cell? ⟨zb, 2, none⟩ = some (.int .i64 0) ∧ EdS w w' g c zb i l :=
  ⟨h.z.cell 0, h.z.cell 1, h.z.cell 2, h⟩

/-- A row of cells that the walk itself has made, behind B. -/
structure At (B : Nat) (w : World) (N : Nat) (vs : List Value) : Prop where
  ge : B ≤ N
  lt : N < w.heap.size
  cell : ∀ j u, vs[j]? = some u → w.cell? ((⟨N, 0, none⟩ : Addr).add j) = some u
theorem At.new {B : Nat} {w : World} {N : Nat} {vs : List Value} {t : TypeId} (hN : N = w.heap.size) (hB : B ≤ w.heap.size) : At B (w.alloc (.cells vs.toArray t)) N vs :=
  ⟨by omega, by simp; omega, cells_elist w vs t N hN⟩
theorem At.newd {B : Nat} {w : World} {N : Nat} {vs : List Value} {t : TypeId} (hN : N = w.heap.size) (hB : B ≤ w.heap.size) : At B (w.alloc (.cells vs.toArray t)).drew N vs :=
  ⟨by omega, by simp; omega, cells_elist w vs t N hN⟩
theorem At.kp {B g : Nat} {w w' : World} {N : Nat} {vs : List Value} (k : Keep (only g) w w') (hg : g < B) (h : At B w N vs) : At B w' N vs :=
  ⟨h.ge, Nat.lt_of_lt_of_le h.lt k.size, fun j u hu => by
    have := h.cell j u hu
    rw [Addr.add_lit] at this ⊢
    exact (k.cell N (0 + j) h.lt (fun e => by simp only [only] at e; have := h.ge; omega)).trans this⟩
theorem At.al {B : Nat} {w : World} {N : Nat} {vs : List Value} {o : Obj} (h : At B w N vs) : At B (w.alloc o) N vs :=
  ⟨h.ge, by simp; have := h.lt; omega, fun j u hu => by
    have := h.cell j u hu
    rw [Addr.add_lit] at this ⊢
    exact (((Keep.refl nil w).alloc o).cell N (0 + j) h.lt (fun e => e)).trans this⟩
theorem At.ald {B : Nat} {w : World} {N : Nat} {vs : List Value} {o : Obj} (h : At B w.drew N vs) : At B (w.alloc o).drew N vs := At.al (o := o) h

/-- Whether a list of edges is what it says. -/
def Lst.okE (w : World) (t : Lst) : Prop := match t.b with
  | none => t.n = 0
  | some g => Room w g 30 (t.n * 3)
/-- Behind the making of the four lists, ahead of the writing. -/
structure Mid (w wx : World) (g zb i nl n0 : Nat) (S : List Lst) : Prop where
  keep : Keep (only g) w wx
  blk : Blk wx n0 (S.map Lst.val).toArray 26
  z : Blk wx zb (eMark i).cells.toArray 30
  four : S.length = 4
  ok : ∀ t ∈ S, t.okE wx
  sl : ∀ t ∈ S, t.n ≤ nl + 3
  new : ∀ t ∈ S, ∀ b, t.b = some b → b = g ∨ w.heap.size ≤ b
  ne : ∀ t ∈ S, ∀ b, t.b = some b → b ≠ n0 ∧ b ≠ zb
  far : w.heap.size ≤ n0
  apart : n0 ≠ zb
theorem mid_of {w w1 w2 w3 : World} {g c zb i g1 c1 g2 c2 g3 c3 : Nat} {l : List Ed} {v1 v2 v3 : List Value} (hs : EdS w (w3.alloc (.cells #[.slice (some ⟨g, 0, none⟩) l.length c, .slice (some ⟨g1, 0, none⟩) (l.length + 1) c1, .slice (some ⟨g2, 0, none⟩) (l.length + 2) c2, .slice (some ⟨g3, 0, none⟩) (l.length + 3) c3] 26)) g c zb i l) (hg : g < w.heap.size) (hz : zb = w.heap.size) (hz3 : w.heap.size < w3.heap.size) (hcl : l.length ≤ c)
    (h1 : VBuf w1 g1 30 3 v1 c1) (hc1 : l.length + 1 ≤ c1) (hd1 : (g1 = g ∧ c1 = c) ∨ w.heap.size < g1) (k12 : Keep (only g) w1 w2)
    (h2 : VBuf w2 g2 30 3 v2 c2) (hc2 : l.length + 2 ≤ c2) (hd2 : (g2 = g ∧ c2 = c) ∨ w.heap.size < g2) (k23 : Keep (only g) w2 w3)
    (h3 : VBuf w3 g3 30 3 v3 c3) (hc3 : l.length + 3 ≤ c3) (hd3 : (g3 = g ∧ c3 = c) ∨ w.heap.size < g3) :
    Mid w (w3.alloc (.cells #[.slice (some ⟨g, 0, none⟩) l.length c, .slice (some ⟨g1, 0, none⟩) (l.length + 1) c1, .slice (some ⟨g2, 0, none⟩) (l.length + 2) c2, .slice (some ⟨g3, 0, none⟩) (l.length + 3) c3] 26)) g zb i l.length w3.heap.size
      [⟨some g, l.length, c⟩, ⟨some g1, l.length + 1, c1⟩, ⟨some g2, l.length + 2, c2⟩, ⟨some g3, l.length + 3, c3⟩] := by
  have kn : Keep nil w3 (w3.alloc (.cells #[.slice (some ⟨g, 0, none⟩) l.length c, .slice (some ⟨g1, 0, none⟩) (l.length + 1) c1, .slice (some ⟨g2, 0, none⟩) (l.length + 2) c2, .slice (some ⟨g3, 0, none⟩) (l.length + 3) c3] 26)) := (Keep.refl nil w3).alloc _
  have R0 : Room (w3.alloc (.cells #[.slice (some ⟨g, 0, none⟩) l.length c, .slice (some ⟨g1, 0, none⟩) (l.length + 1) c1, .slice (some ⟨g2, 0, none⟩) (l.length + 2) c2, .slice (some ⟨g3, 0, none⟩) (l.length + 3) c3] 26)) g 30 (c * 3) := hs.buf.room
  have R1 : Room (w3.alloc (.cells #[.slice (some ⟨g, 0, none⟩) l.length c, .slice (some ⟨g1, 0, none⟩) (l.length + 1) c1, .slice (some ⟨g2, 0, none⟩) (l.length + 2) c2, .slice (some ⟨g3, 0, none⟩) (l.length + 3) c3] 26)) g1 30 ((l.length + 1) * 3) ∧ g1 < w3.heap.size := by
    rcases hd1 with ⟨rfl, rfl⟩ | h
    · exact ⟨R0.less (by omega), by omega⟩
    · have := ((h1.room.less (show (l.length + 1) * 3 ≤ c1 * 3 by omega)).keep k12 (fun e => by simp only [only] at e; omega)).keep k23 (fun e => by simp only [only] at e; omega)
      exact ⟨this.keep kn (fun e => e), this.lt⟩
  have R2 : Room (w3.alloc (.cells #[.slice (some ⟨g, 0, none⟩) l.length c, .slice (some ⟨g1, 0, none⟩) (l.length + 1) c1, .slice (some ⟨g2, 0, none⟩) (l.length + 2) c2, .slice (some ⟨g3, 0, none⟩) (l.length + 3) c3] 26)) g2 30 ((l.length + 2) * 3) ∧ g2 < w3.heap.size := by
    rcases hd2 with ⟨rfl, rfl⟩ | h
    · exact ⟨R0.less (by omega), by omega⟩
    · have := (h2.room.less (show (l.length + 2) * 3 ≤ c2 * 3 by omega)).keep k23 (fun e => by simp only [only] at e; omega)
      exact ⟨this.keep kn (fun e => e), this.lt⟩
  have R3 : Room (w3.alloc (.cells #[.slice (some ⟨g, 0, none⟩) l.length c, .slice (some ⟨g1, 0, none⟩) (l.length + 1) c1, .slice (some ⟨g2, 0, none⟩) (l.length + 2) c2, .slice (some ⟨g3, 0, none⟩) (l.length + 3) c3] 26)) g3 30 ((l.length + 3) * 3) ∧ g3 < w3.heap.size := ⟨(h3.room.less (by omega)).keep kn (fun e => e), h3.lt⟩
  refine ⟨hs.keep, Blk.new _ _ _, hs.z, rfl, fun t ht => ?_, fun t ht => ?_, fun t ht b hb => ?_, fun t ht b hb => ?_, by omega, by omega⟩
  · simp only [List.mem_cons, List.not_mem_nil, or_false] at ht
    rcases ht with rfl | rfl | rfl | rfl
    · exact R0.less (by show l.length * 3 ≤ c * 3; omega)
    · exact R1.1
    · exact R2.1
    · exact R3.1
  · simp only [List.mem_cons, List.not_mem_nil, or_false] at ht
    rcases ht with rfl | rfl | rfl | rfl <;> simp only <;> omega
  · simp only [List.mem_cons, List.not_mem_nil, or_false] at ht
    rcases ht with rfl | rfl | rfl | rfl <;> simp only [Option.some.injEq] at hb <;> subst hb
    · exact Or.inl rfl
    · rcases hd1 with ⟨e, _⟩ | h
      · exact Or.inl e
      · exact Or.inr (by omega)
    · rcases hd2 with ⟨e, _⟩ | h
      · exact Or.inl e
      · exact Or.inr (by omega)
    · rcases hd3 with ⟨e, _⟩ | h
      · exact Or.inl e
      · exact Or.inr (by omega)
  · have l1 := R1.2
    have l2 := R2.2
    have l3 := R3.2
    simp only [List.mem_cons, List.not_mem_nil, or_false] at ht
    rcases ht with rfl | rfl | rfl | rfl <;> simp only [Option.some.injEq] at hb <;> subst hb
    · omega
    · rcases hd1 with ⟨e, _⟩ | h <;> omega
    · rcases hd2 with ⟨e, _⟩ | h <;> omega
    · rcases hd3 with ⟨e, _⟩ | h <;> omega
/-- What a cell of a marked list of edges holds. -/
def emk (i p : Nat) : Value := if p % 3 = 0 then .int .i64 (-7070 - (i : Int)) else .int .i64 0
theorem emk0 (i q : Nat) : emk i (q * 3) = .int .i64 (-7070 - (i : Int)) := by unfold emk; rw [if_pos (by omega)]
theorem emk1 (i q : Nat) : emk i (q * 3 + 1) = .int .i64 0 := by unfold emk; rw [if_neg (by omega)]
theorem emk2 (i q : Nat) : emk i (q * 3 + 2) = .int .i64 0 := by unfold emk; rw [if_neg (by omega)]
/-- The first m places of block g hold the marks of list i. -/
def EMarked (w : World) (g i m : Nat) : Prop := ∀ p, p < m * 3 → w.cell? ⟨g, p, none⟩ = some (emk i p)
theorem EMarked.set {w : World} {g i m : Nat} (h : EMarked w g i m) (g' p : Nat) : EMarked (w.setCell ⟨g', p, none⟩ (emk i p)) g i m := by
  intro q hq
  by_cases he : (⟨g', p, none⟩ : Addr) = ⟨g, q, none⟩
  · rw [he]
    have hp : p = q := by injection he
    subst hp
    exact World.cell?_setCell_same _ _ _ (h p hq)
  · rw [World.cell?_setCell_other _ _ _ _ he]
    exact h q hq
theorem EMarked.keep {ex : Nat → Prop} {w w' : World} {g i m : Nat} (h : EMarked w g i m) (k : Keep ex w w') (hg : g < w.heap.size) (hn : ¬ ex g) : EMarked w' g i m :=
  fun p hp => (k.cell g p hg hn).trans (h p hp)
def Lst.markedE (w : World) (i : Nat) (t : Lst) : Prop := match t.b with
  | none => True
  | some g => EMarked w g i t.n
/-- An edge is written as a mark. -/
def put3 (w : World) (g i q : Nat) : World := ((w.setCell ⟨g, q * 3, none⟩ (emk i (q * 3))).setCell ⟨g, q * 3 + 1, none⟩ (emk i (q * 3 + 1))).setCell ⟨g, q * 3 + 2, none⟩ (emk i (q * 3 + 2))
theorem EMarked.put {w : World} {g i m : Nat} (h : EMarked w g i m) (g' q : Nat) : EMarked (put3 w g' i q) g i m := ((h.set g' _).set g' _).set g' _
theorem cell_set {w : World} {b p : Nat} {v u : Value} {q : Nat} (h : w.cell? ⟨b, q, none⟩ = some u) : ∃ u', (w.setCell ⟨b, p, none⟩ v).cell? ⟨b, q, none⟩ = some u' := by
  by_cases he : (⟨b, p, none⟩ : Addr) = ⟨b, q, none⟩
  · rw [he]; exact ⟨_, World.cell?_setCell_same _ _ _ h⟩
  · rw [World.cell?_setCell_other _ _ _ _ he]; exact ⟨_, h⟩
theorem EMarked.more {w : World} {g i q : Nat} (h : EMarked w g i q) (hr : Room w g 30 ((q + 1) * 3)) : EMarked (put3 w g i q) g i (q + 1) := by
  intro p hp
  by_cases e : p < q * 3
  · exact h.put g q p e
  · obtain ⟨u0, h0⟩ := hr.some (q * 3) (by omega)
    obtain ⟨u1, h1⟩ := hr.some (q * 3 + 1) (by omega)
    obtain ⟨u2, h2⟩ := hr.some (q * 3 + 2) (by omega)
    have hne : ∀ a b : Nat, a ≠ b → (⟨g, a, none⟩ : Addr) ≠ ⟨g, b, none⟩ := fun a b hab e => hab (by injection e)
    have hp3 : p = q * 3 ∨ p = q * 3 + 1 ∨ p = q * 3 + 2 := by omega
    rcases hp3 with rfl | rfl | rfl
    · unfold put3
      rw [World.cell?_setCell_other _ _ _ _ (hne _ _ (by omega)), World.cell?_setCell_other _ _ _ _ (hne _ _ (by omega))]
      exact World.cell?_setCell_same _ _ _ h0
    · unfold put3
      rw [World.cell?_setCell_other _ _ _ _ (hne _ _ (by omega))]
      obtain ⟨u', h'⟩ := cell_set (p := q * 3) (v := emk i (q * 3)) h1
      exact World.cell?_setCell_same _ _ _ h'
    · unfold put3
      obtain ⟨u', h'⟩ := cell_set (p := q * 3) (v := emk i (q * 3)) h2
      obtain ⟨u'', h''⟩ := cell_set (p := q * 3 + 1) (v := emk i (q * 3 + 1)) h'
      exact World.cell?_setCell_same _ _ _ h''

/-- In the middle of the writing: the lists before the k-th are written. -/
structure StE (W0 wr : World) (S : List Lst) (i k : Nat) : Prop where
  keep : Keep (fun b => ∃ t ∈ S, t.b = some b) W0 wr
  ok : ∀ t ∈ S, t.okE wr
  done : ∀ j t, j < k → S[j]? = some t → t.markedE wr i
theorem StE.put {W0 wr : World} {S : List Lst} {i k : Nat} (h : StE W0 wr S i k) (g q : Nat) (hg : ∃ t ∈ S, t.b = some g) : StE W0 (put3 wr g i q) S i k := by
  refine ⟨((h.keep.setCell (p := ⟨g, q * 3, none⟩) (fun _ => hg) _).setCell (p := ⟨g, q * 3 + 1, none⟩) (fun _ => hg) _).setCell (p := ⟨g, q * 3 + 2, none⟩) (fun _ => hg) _, fun t ht => ?_, fun j t hj ht => ?_⟩
  · have := h.ok t ht
    unfold Lst.okE at this ⊢
    cases hb : t.b with
    | none => rw [hb] at this; exact this
    | some b => rw [hb] at this; exact ((this.set _ _ rfl).set _ _ rfl).set _ _ rfl
  · have := h.done j t hj ht
    unfold Lst.markedE at this ⊢
    cases hb : t.b with
    | none => trivial
    | some b => rw [hb] at this; exact this.put g q
theorem StE.drew {W0 wr : World} {S : List Lst} {i k : Nat} (h : StE W0 wr S i k) : StE W0 wr.drew S i k := ⟨h.keep.drew, h.ok, h.done⟩
theorem StE.next {W0 wr : World} {S : List Lst} {i k : Nat} (h : StE W0 wr S i k) (t : Lst) (ht : S[k]? = some t) (hm : t.markedE wr i) : StE W0 wr S i (k + 1) := by
  refine ⟨h.keep, h.ok, fun j u hj hu => ?_⟩
  by_cases e : j = k
  · subst e; rw [ht] at hu; cases hu; exact hm
  · exact h.done j u (by omega) hu
theorem rolls_info : (Tryz.prog.info? 109).map (fun i => (i.zero, i.size, i.bytes)) = some (some (.slice none 0 0), 1, 24) := by kernel_rfl

/-- What stands behind the writing, once the row of sheets has one more. -/
theorem edges_end {w wr w4 : World} {G : Nat → Prop} {yb nb ab na : Nat} {a0 : Option Addr} {S : List Lst} {O : Obj} {c' : Nat} {V : List Value} {p0 p1 p2 p3 p4 p5 p6 p7 : Value}
    (byb : Blk wr yb #[p0, p1, p2, p3, p4, p5, p6, p7] 73) (hyg : ¬ G yb) (hyl : yb < w.heap.size) (k1 : Keep G w wr) (bnb : Blk wr nb (S.map Lst.val).toArray 26) (hnb : w.heap.size ≤ nb) (h4 : S.length = 4)
    (hsl : ∀ t ∈ S, (t.n : Int) ≤ 140737488351310) (hmk : ∀ t ∈ S, t.markedE wr na) (hbl : ∀ t ∈ S, ∀ b, t.b = some b → b < wr.heap.size) (hnew : ∀ t ∈ S, ∀ b, t.b = some b → G b ∨ w.heap.size ≤ b)
    (ha : ∀ b, a0 = some ⟨b, 0, none⟩ → ¬ G b ∧ b ≠ yb ∧ b < w.heap.size) (hab : a0 = some ⟨ab, 0, none⟩ ∨ ab = wr.heap.size + 1) (hk4 : Keep (fun b => a0 = some ⟨b, 0, none⟩) (wr.alloc O) w4) (hb4 : VBuf w4 ab 109 1 V c') :
    Blk (w4.setCell ⟨yb, 3, none⟩ (.slice (some ⟨ab, 0, none⟩) (na + 1) c')) yb #[p0, p1, p2, .slice (some ⟨ab, 0, none⟩) (na + 1) c', p4, p5, p6, p7] 73 ∧
    VBuf (w4.setCell ⟨yb, 3, none⟩ (.slice (some ⟨ab, 0, none⟩) (na + 1) c')) ab 109 1 V c' ∧ (a0 = some ⟨ab, 0, none⟩ ∨ w.heap.size ≤ ab) ∧
    Blk (w4.setCell ⟨yb, 3, none⟩ (.slice (some ⟨ab, 0, none⟩) (na + 1) c')) nb (S.map Lst.val).toArray 26 ∧ w.heap.size ≤ nb ∧ nb ≠ ab ∧ S.length = 4 ∧
    (∀ t ∈ S, t.markedE (w4.setCell ⟨yb, 3, none⟩ (.slice (some ⟨ab, 0, none⟩) (na + 1) c')) na ∧ (t.n : Int) ≤ 140737488351310 ∧ ∀ b, t.b = some b → (G b ∨ w.heap.size ≤ b) ∧ b ≠ ab ∧ b < (w4.setCell ⟨yb, 3, none⟩ (.slice (some ⟨ab, 0, none⟩) (na + 1) c')).heap.size) ∧
    Keep (fun b => G b ∨ b = yb ∨ a0 = some ⟨b, 0, none⟩) w (w4.setCell ⟨yb, 3, none⟩ (.slice (some ⟨ab, 0, none⟩) (na + 1) c')) := by
  have hz1 := k1.size
  have hz4 := hk4.size
  simp only [World.size_alloc] at hz4
  have hnl := bnb.lt
  have hya : ¬ a0 = some ⟨yb, 0, none⟩ := fun e => (ha yb e).2.1 rfl
  have haby : ab ≠ yb := by
    rcases hab with e | e
    · exact (ha ab e).2.1
    · omega
  have ks : Keep (only yb) w4 (w4.setCell ⟨yb, 3, none⟩ (.slice (some ⟨ab, 0, none⟩) (na + 1) c')) := (Keep.refl (only yb) w4).setCell (p := ⟨yb, 3, none⟩) (fun _ => rfl) _
  have kw : Keep (fun b => a0 = some ⟨b, 0, none⟩) wr w4 := ((Keep.refl _ wr).alloc O).trans hk4
  refine ⟨(byb.keep kw hya).set 3 _, hb4.keep ks (fun e => haby e), ?_, (bnb.keep kw (fun e => by have := (ha nb e).2.2; omega)).keep ks (fun e => by simp only [only] at e; omega), hnb, ?_, h4, fun t ht => ⟨?_, hsl t ht, fun b hb => ⟨hnew t ht b hb, ?_, ?_⟩⟩, ?_⟩
  · rcases hab with e | e
    · exact Or.inl e
    · exact Or.inr (by omega)
  · rcases hab with e | e
    · have := (ha ab e).2.2; omega
    · omega
  · have hm := hmk t ht
    unfold Lst.markedE at hm ⊢
    cases hb : t.b with
    | none => trivial
    | some b =>
      rw [hb] at hm
      have h1 := hbl t ht b hb
      have h2 := hnew t ht b hb
      refine (EMarked.keep hm kw h1 (fun e => ?_)).keep ks (by have := kw.size; omega) (fun e => ?_)
      · have h3 := ha b e
        rcases h2 with h2 | h2
        · exact h3.1 h2
        · omega
      · simp only [only] at e
        rcases h2 with h2 | h2
        · exact hyg (e ▸ h2)
        · omega
  · have h1 := hbl t ht b hb
    have h2 := hnew t ht b hb
    rcases hab with e | e
    · have h3 := ha ab e
      rcases h2 with h2 | h2
      · intro e'; exact h3.1 (e' ▸ h2)
      · omega
    · omega
  · have h1 := hbl t ht b hb
    simp only [World.size_setCell]
    omega
  · exact ((k1.mono (ex' := fun b => G b ∨ b = yb ∨ a0 = some ⟨b, 0, none⟩) (fun i hi e => Or.inl e)).trans (kw.mono (fun i hi e => Or.inr (Or.inr e)))).setCell (p := ⟨yb, 3, none⟩) (fun _ => Or.inr (Or.inl rfl)) _

end Go.Proofs.YtlfijfodklhplaaGreat
/- Things with weights in a row; the pile's own methods. -/
namespace Go.Proofs.YtlfijfodklhplaaGreat
open Go.RowKit
set_option linter.unusedVariables false
set_option linter.unusedSimpArgs false

structure Th where
  e : Ed
  w : Int
def Th.cells (t : Th) : List Value := [.int .i64 t.e.a, .int .i64 t.e.b, .int .i64 t.e.wt, .int .i64 t.w]
def tcells (l : List Th) : List Value := l.flatMap Th.cells
theorem tcells_cons (t : Th) (l : List Th) : tcells (t :: l) = t.cells ++ tcells l := by simp [tcells]
theorem tcells_len (l : List Th) : (tcells l).length = l.length * 4 := by
  induction l with
  | nil => rfl
  | cons e t ih => rw [tcells_cons, List.length_append, ih, List.length_cons]; simp [Th.cells]; omega
theorem tcells_append (l m : List Th) : tcells (l ++ m) = tcells l ++ tcells m := by simp [tcells]
theorem tcells_one (l : List Th) : ∀ u ∈ tcells l, u.oneCell' = true := by
  intro u hu
  obtain ⟨e, _, h⟩ := List.mem_flatMap.1 hu
  simp only [Th.cells, List.mem_cons, List.not_mem_nil, or_false] at h
  rcases h with rfl | rfl | rfl | rfl <;> rfl
theorem tcells_get (l : List Th) : ∀ (k : Nat) (t : Th), l[k]? = some t → (tcells l)[k * 4]? = some (.int .i64 t.e.a) ∧ (tcells l)[k * 4 + 1]? = some (.int .i64 t.e.b) ∧ (tcells l)[k * 4 + 2]? = some (.int .i64 t.e.wt) ∧ (tcells l)[k * 4 + 3]? = some (.int .i64 t.w) := by
  induction l with
  | nil => intro k e h; simp at h
  | cons x t ih =>
    intro k e h
    rw [tcells_cons]
    cases k with
    | zero =>
      simp at h
      subst h
      exact ⟨rfl, rfl, rfl, rfl⟩
    | succ k =>
      rw [List.getElem?_cons_succ] at h
      have := ih k e h
      have hl : x.cells.length = 4 := rfl
      rw [List.getElem?_append_right (by omega), List.getElem?_append_right (by omega), List.getElem?_append_right (by omega), List.getElem?_append_right (by omega), hl]
      rw [show (k + 1) * 4 - 4 = k * 4 by omega, show (k + 1) * 4 + 1 - 4 = k * 4 + 1 by omega, show (k + 1) * 4 + 2 - 4 = k * 4 + 2 by omega, show (k + 1) * 4 + 3 - 4 = k * 4 + 3 by omega]
      exact this
theorem tcells_set (l : List Th) : ∀ (k : Nat) (t : Th), ((((tcells l).set (k * 4) (.int .i64 t.e.a)).set (k * 4 + 1) (.int .i64 t.e.b)).set (k * 4 + 2) (.int .i64 t.e.wt)).set (k * 4 + 3) (.int .i64 t.w) = tcells (l.set k t) := by
  induction l with
  | nil => intro k t; simp [tcells]
  | cons x r ih =>
    intro k t
    cases k with
    | zero => simp [tcells, Th.cells]
    | succ k =>
      rw [List.set_cons_succ, tcells_cons, tcells_cons, ← ih k t]
      have hl : x.cells.length = 4 := rfl
      rw [List.set_append_right _ _ (by omega), List.set_append_right _ _ (by omega), List.set_append_right _ _ (by omega), List.set_append_right _ _ (by omega), hl]
      rw [show (k + 1) * 4 - 4 = k * 4 by omega, show (k + 1) * 4 + 1 - 4 = k * 4 + 1 by omega, show (k + 1) * 4 + 2 - 4 = k * 4 + 2 by omega, show (k + 1) * 4 + 3 - 4 = k * 4 + 3 by omega]
abbrev TBuf (w : World) (g : Nat) (l : List Th) (c : Nat) : Prop := VBuf w g 237 4 (tcells l) c
theorem tbuf_get {w : World} {g c : Nat} {l : List Th} (h : TBuf w g l c) (k : Nat) (t : Th) (hk : l[k]? = some t) :
    w.cell? ⟨g, k * 4, none⟩ = some (.int .i64 t.e.a) ∧ w.cell? ⟨g, k * 4 + 1, none⟩ = some (.int .i64 t.e.b) ∧ w.cell? ⟨g, k * 4 + 2, none⟩ = some (.int .i64 t.e.wt) ∧ w.cell? ⟨g, k * 4 + 3, none⟩ = some (.int .i64 t.w) := by
  obtain ⟨h0, h1, h2, h3⟩ := tcells_get l k t hk
  exact ⟨h.cell _ _ h0, h.cell _ _ h1, h.cell _ _ h2, h.cell _ _ h3⟩
theorem VBuf.put {w : World} {g : Nat} {e : TypeId} {size : Nat} {vs : List Value} {c : Nat} (h : VBuf w g e size vs c) (p : Nat) (hp : p < vs.length) (v : Value) : VBuf (w.setCell ⟨g, p, none⟩ v) g e size (vs.set p v) c := by
  obtain ⟨sp, hb, hc⟩ := h
  refine ⟨sp, ?_, by rw [List.length_set]; exact hc⟩
  have := hb.set p v
  rw [List.setIfInBounds_toArray, List.set_append_left _ _ hp] at this
  exact this
/-- A thing is written. -/
def put4 (w : World) (g k : Nat) (t : Th) : World := (((w.setCell ⟨g, k * 4, none⟩ (.int .i64 t.e.a)).setCell ⟨g, k * 4 + 1, none⟩ (.int .i64 t.e.b)).setCell ⟨g, k * 4 + 2, none⟩ (.int .i64 t.e.wt)).setCell ⟨g, k * 4 + 3, none⟩ (.int .i64 t.w)
theorem tbuf_put {w : World} {g c : Nat} {l : List Th} (h : TBuf w g l c) (k : Nat) (hk : k < l.length) (t : Th) : TBuf (put4 w g k t) g (l.set k t) c := by
  have hl := tcells_len l
  have h0 := VBuf.put h (k * 4) (by omega) (.int .i64 t.e.a)
  have h1 := VBuf.put h0 (k * 4 + 1) (by rw [List.length_set]; omega) (.int .i64 t.e.b)
  have h2 := VBuf.put h1 (k * 4 + 2) (by rw [List.length_set, List.length_set]; omega) (.int .i64 t.e.wt)
  have h3 := VBuf.put h2 (k * 4 + 3) (by rw [List.length_set, List.length_set, List.length_set]; omega) (.int .i64 t.w)
  rw [tcells_set] at h3
  exact h3
theorem keep_put4 (w : World) (g k : Nat) (t : Th) : Keep (only g) w (put4 w g k t) :=
  ((((Keep.refl (only g) w).setCell (p := ⟨g, k * 4, none⟩) (fun _ => rfl) _).setCell (p := ⟨g, k * 4 + 1, none⟩) (fun _ => rfl) _).setCell (p := ⟨g, k * 4 + 2, none⟩) (fun _ => rfl) _).setCell (p := ⟨g, k * 4 + 3, none⟩) (fun _ => rfl) _

set_option maxRecDepth 100000 in
theorem len_any (a : Option Addr) (n c : Nat) (w : World) : Calls Tryz.prog 244 #[.slice a n c] w fun e w' => e = .returned (.int .i64 (n : Int)) ∧ w = w' := by
  go_enter Tryz.func244, Tryz.ntmps244
  go_wp2
  go_ret
  exact ⟨rfl, rfl⟩

set_option maxRecDepth 100000 in
set_option maxHeartbeats 1000000 in
theorem less_any (pb n c : Nat) (L : List Th) (i j : Nat) (x y : Th) (hi : L[i]? = some x) (hj : L[j]? = some y) (w : World) (hb : TBuf w pb L c) (hin : (i : Int) < (n : Int)) (hjn : (j : Int) < (n : Int)) :
    Calls Tryz.prog 245 #[.slice (some ⟨pb, 0, none⟩) n c, .int .i64 (i : Int), .int .i64 (j : Int)] w fun e w' => e = .returned (.bool (decide (x.w < y.w))) ∧ ∃ m, w' = w.drewN m := by
  have c1 := (tbuf_get hb i x hi).2.2.2
  have c2 := (tbuf_get hb j y hj).2.2.2
  clear hb hi hj
  go_enter Tryz.func245, Tryz.ntmps245
  go_wp2_with fail
  go_quiet (fail)
  go_wp2
  go_ret
  exact ⟨rfl, nq, rfl⟩

set_option maxRecDepth 100000 in
set_option maxHeartbeats 1000000 in
theorem swap_any (pb n c : Nat) (L : List Th) (i j : Nat) (x y : Th) (hi : L[i]? = some x) (hj : L[j]? = some y) (w : World) (hb : TBuf w pb L c) (hin : (i : Int) < (n : Int)) (hjn : (j : Int) < (n : Int)) (hij : i ≠ j) :
    Calls Tryz.prog 246 #[.slice (some ⟨pb, 0, none⟩) n c, .int .i64 (i : Int), .int .i64 (j : Int)] w fun e w' => e = .returned (.tuple #[]) ∧ TBuf w' pb ((L.set i y).set j x) c ∧ Keep (only pb) w w' := by
  obtain ⟨a0, a1, a2, a3⟩ := tbuf_get hb i x hi
  obtain ⟨b0, b1, b2, b3⟩ := tbuf_get hb j y hj
  have f0 := fun p => hb.frozen p
  have fi0 := f0 (i * 4)
  have fi1 := f0 (i * 4 + 1)
  have fi2 := f0 (i * 4 + 2)
  have fi3 := f0 (i * 4 + 3)
  have fj0 := f0 (j * 4)
  have fj1 := f0 (j * 4 + 1)
  have fj2 := f0 (j * 4 + 2)
  have fj3 := f0 (j * 4 + 3)
  have HP : Unit → TBuf (put4 (put4 w pb i y) pb j x) pb ((L.set i y).set j x) c ∧ Keep (only pb) w (put4 (put4 w pb i y) pb j x) := fun _ =>
    ⟨tbuf_put (tbuf_put hb i (List.getElem?_eq_some_iff.1 hi).1 y) j (by rw [List.length_set]; exact (List.getElem?_eq_some_iff.1 hj).1) x, (keep_put4 w pb i y).trans (keep_put4 _ pb j x)⟩
  clear hb hi hj f0
  go_enter Tryz.func246, Tryz.ntmps246
  go_wp2_with fail
  go_region
  all_goals go_end0
  exact ⟨rfl, (HP ()).1.drew, (HP ()).2.drew⟩

set_option maxRecDepth 100000 in
set_option maxHeartbeats 1000000 in
theorem swap_same (pb n c : Nat) (L : List Th) (i : Nat) (x : Th) (hi : L[i]? = some x) (w : World) (hb : TBuf w pb L c) (hin : (i : Int) < (n : Int)) :
    Calls Tryz.prog 246 #[.slice (some ⟨pb, 0, none⟩) n c, .int .i64 (i : Int), .int .i64 (i : Int)] w fun e w' => e = .returned (.tuple #[]) ∧ TBuf w' pb L c ∧ Keep (only pb) w w' := by
  obtain ⟨a0, a1, a2, a3⟩ := tbuf_get hb i x hi
  have f0 := fun p => hb.frozen p
  have fi0 := f0 (i * 4)
  have fi1 := f0 (i * 4 + 1)
  have fi2 := f0 (i * 4 + 2)
  have fi3 := f0 (i * 4 + 3)
  have hset : (L.set i x) = L := by
    refine List.ext_getElem? (fun k => ?_)
    rw [List.getElem?_set]
    split
    · rename_i h; subst h; rw [hi, if_pos (List.getElem?_eq_some_iff.1 hi).1]
    · rfl
  have HP : Unit → TBuf (put4 (put4 w pb i x) pb i x) pb L c ∧ Keep (only pb) w (put4 (put4 w pb i x) pb i x) := fun _ =>
    ⟨by
      have h1 := tbuf_put hb i (List.getElem?_eq_some_iff.1 hi).1 x
      rw [hset] at h1
      have h2 := tbuf_put h1 i (List.getElem?_eq_some_iff.1 hi).1 x
      rw [hset] at h2
      exact h2, (keep_put4 w pb i x).trans (keep_put4 _ pb i x)⟩
  clear hb hi f0 hset
  go_enter Tryz.func246, Tryz.ntmps246
  go_wp2_with fail
  go_region
  all_goals go_end0
  exact ⟨rfl, (HP ()).1.drew, (HP ()).2.drew⟩

theorem thing_info : (Tryz.prog.info? 237).map (fun i => (i.zero, i.size, i.bytes)) = some (some (.agg #[.int .i64 0, .int .i64 0, .int .i64 0, .int .i64 0]), 4, 32) := by kernel_rfl

@[go_sem] theorem assert_thing (v : Value) (w : World) : (Instr.typeAssert (.iface 237 v) 20 237 false).run Tryz.prog w = .ok v w := by kernel_rfl

/-- The thing as a value within an interface. -/
abbrev thv (t : Th) : Value := .iface 237 (.agg #[.int .i64 t.e.a, .int .i64 t.e.b, .int .i64 t.e.wt, .int .i64 t.w])

theorem step_append_new {P : Program} {ops : Array Oper} {o : Oper} {a : Act} {w : World} {K : Act → World → Prop} {Q : Exit → Act → World → Prop} {E : Prop}
    (hg : o.guard = none) (s x : Operand) (t : TypeId) (hop : o.op = Op.call { callee := Callee.builtin Builtin.append, args := #[s, x], argTypes := #[t, t] })
    (e : TypeId) (z : Value) (size bytes : Nat) (ht : P.underlying t = some (.slice e)) (hinfo : (P.info? e).map (fun i => (i.zero, i.size, i.bytes)) = some (some z, size, bytes)) (hzs : z.cells.size = size)
    (hs : a.eval s = .slice none 0 0) (ad : Addr) (m c' : Nat) (h0 : 0 < m) (hx : a.eval x = .slice (some ad) m c') (news : List Value) (hm : news.length = m * size)
    (hc : ∀ j u, news[j]? = some u → w.cell? (ad.add j) = some u) (hbytes : m * bytes ≤ 140737488355328) (h63 : m ≤ 9223372036854775807)
    (hK : ∀ k' w', VBuf w' w.heap.size e size news k' → m ≤ k' → Keep nil w w' → K (a.put o.dst (.slice (some ⟨w.heap.size, 0, none⟩) m k')) w') :
    if Region.wanted o (yielded ops a.tmps) = true then Oper.wp P o a w K Q else E := by
  have hw : Region.wanted o (yielded ops a.tmps) = true := by simp [Region.wanted, hg]
  rw [if_pos hw]
  obtain ⟨k', w', hrun, r1, r2, r3⟩ := run_append_new (P := P) w t o.type e z size bytes ht hinfo hzs ad m c' h0 news hm hc hbytes h63
  unfold Oper.wp
  simp [execOp, hop, resolve, invoke, builtin, hs, hx, hrun, Result.andThen]
  exact hK k' w' r1 r2 r3

theorem push_end {w w0 w1 : World} {hb ho pb' c' n : Nat} {cs : Array Value} {ty : TypeId} {G : Nat → Prop} {vs : List Value} (hbk : Blk w hb cs ty) (k0 : Keep nil w w0) (hk : Keep G w0 w1) (hG : ¬ G hb) (ht : VBuf w1 pb' 237 4 vs c') (hp : pb' ≠ hb) :
    Blk (w1.setCell ⟨hb, ho, none⟩ (.slice (some ⟨pb', 0, none⟩) n c')) hb (cs.setIfInBounds ho (.slice (some ⟨pb', 0, none⟩) n c')) ty ∧ VBuf (w1.setCell ⟨hb, ho, none⟩ (.slice (some ⟨pb', 0, none⟩) n c')) pb' 237 4 vs c' ∧
      Keep (fun b => b = hb ∨ G b) w (w1.setCell ⟨hb, ho, none⟩ (.slice (some ⟨pb', 0, none⟩) n c')) := by
  have ks : Keep (only hb) w1 (w1.setCell ⟨hb, ho, none⟩ (.slice (some ⟨pb', 0, none⟩) n c')) := (Keep.refl (only hb) w1).setCell (p := ⟨hb, ho, none⟩) (fun _ => rfl) _
  refine ⟨((hbk.keep k0 (fun e => e)).keep hk hG).set ho _, ht.keep ks (fun e => hp e), ?_⟩
  exact (((k0.mono (fun _ _ e => e.elim)).trans (hk.mono (ex' := fun b => b = hb ∨ G b) (fun _ _ e => Or.inr e)))).setCell (p := ⟨hb, ho, none⟩) (fun _ => Or.inl rfl) _

set_option maxRecDepth 100000 in
set_option maxHeartbeats 1000000 in
theorem push_some (hb ho : Nat) (cs : Array Value) (ty : TypeId) (pb c : Nat) (L : List Th) (t : Th) (w : World) (hbk : Blk w hb cs ty) (hcs : cs[ho]? = some (.slice (some ⟨pb, 0, none⟩) L.length c)) (hne : hb ≠ pb) (ht : TBuf w pb L c) (hlen : (L.length : Int) < 1000000) :
    Calls Tryz.prog 249 #[.pointer (some ⟨hb, ho, none⟩), thv t] w fun e w' => e = .returned (.tuple #[]) ∧ ∃ pb' c', Blk w' hb (cs.setIfInBounds ho (.slice (some ⟨pb', 0, none⟩) (L.length + 1) c')) ty ∧
      TBuf w' pb' (L ++ [t]) c' ∧ L.length + 1 ≤ c' ∧ (pb' = pb ∨ w.heap.size ≤ pb') ∧ pb' ≠ hb ∧ Keep (fun b => b = hb ∨ b = pb) w w' := by
  have h0 := (hbk.cell ho).trans hcs
  have f0 := hbk.frozen ho
  have hpl := ht.lt
  have hhl := hbk.lt
  have HB : Unit → Blk w hb cs ty ∧ TBuf w pb L c := fun _ => ⟨hbk, ht⟩
  have HL : Unit → (L.length : Int) < 1000000 := fun _ => hlen
  have HC : Unit → cs[ho]? = some (.slice (some ⟨pb, 0, none⟩) L.length c) := fun _ => hcs
  clear hbk hcs ht hlen
  go_enter Tryz.func249, Tryz.ntmps249
  go_wp2_with fail
  go_region_law (refine step_append_any rfl (.tmp 7) (.tmp 10) 170 rfl 237 (.agg #[.int .i64 0, .int .i64 0, .int .i64 0, .int .i64 0]) 4 32 Tryz.underlying170 thing_info rfl pb L.length c (by simp [Act.eval, Act.put]) (tcells L) (tcells_len L) (((HB ()).2.alloc _).drew) ⟨w.heap.size, 0, none⟩ 1 1 (by simp [Act.eval, Act.put]) (tcells [t]) rfl (At.cell (B := 0) (At.newd rfl (Nat.zero_le _))) (tcells_one _) (by have := HL (); omega) (by have := HL (); omega) ?_; intro pb' c' w1 hb1 hc1 hd1 hk1; have h1 := ((((HB ()).1.old _).drew.keep hk1 (fun e => hne e)).cell ho).trans (HC ()); have f1 := (((HB ()).1.old _).drew.keep hk1 (fun e => hne e)).frozen ho)
  all_goals
    go_end0
    have hp : pb' ≠ hb := by
      rcases hd1 with ⟨e, _⟩ | ⟨e, _⟩
      · rw [e]; exact Ne.symm hne
      · simp only [World.size_drew, World.size_alloc] at e; omega
    obtain ⟨e1, e2, e3⟩ := push_end (ho := ho) (n := L.length + 1) (HB ()).1 (((Keep.refl nil w).alloc _).drew) hk1 (fun e => hne e) hb1 hp
    rw [← tcells_append] at e2
    refine ⟨rfl, pb', c', e1, e2, hc1, ?_, hp, e3⟩
    rcases hd1 with ⟨e, _⟩ | ⟨e, _⟩
    · exact Or.inl e
    · simp only [World.size_drew, World.size_alloc] at e; exact Or.inr (by omega)

set_option maxRecDepth 100000 in
set_option maxHeartbeats 1000000 in
theorem push_nil (hb ho : Nat) (cs : Array Value) (ty : TypeId) (t : Th) (w : World) (hbk : Blk w hb cs ty) (hcs : cs[ho]? = some (.slice none 0 0)) :
    Calls Tryz.prog 249 #[.pointer (some ⟨hb, ho, none⟩), thv t] w fun e w' => e = .returned (.tuple #[]) ∧ ∃ pb' c', Blk w' hb (cs.setIfInBounds ho (.slice (some ⟨pb', 0, none⟩) 1 c')) ty ∧
      TBuf w' pb' [t] c' ∧ 1 ≤ c' ∧ w.heap.size ≤ pb' ∧ pb' ≠ hb ∧ Keep (only hb) w w' := by
  have h0 := (hbk.cell ho).trans hcs
  have f0 := hbk.frozen ho
  have hhl := hbk.lt
  have HB : Unit → Blk w hb cs ty := fun _ => hbk
  have HC : Unit → cs[ho]? = some (.slice none 0 0) := fun _ => hcs
  clear hbk hcs
  go_enter Tryz.func249, Tryz.ntmps249
  go_wp2_with fail
  go_region_law (refine step_append_new rfl (.tmp 7) (.tmp 10) 170 rfl 237 (.agg #[.int .i64 0, .int .i64 0, .int .i64 0, .int .i64 0]) 4 32 Tryz.underlying170 thing_info rfl (by simp [Act.eval, Act.put]) ⟨w.heap.size, 0, none⟩ 1 1 (by omega) (by simp [Act.eval, Act.put]) (tcells [t]) rfl (At.cell (B := 0) (At.newd rfl (Nat.zero_le _))) (by omega) (by omega) ?_; intro c' w1 hb1 hc1 hk1; have h1 := ((((HB ()).old _).drew.keep hk1 (fun e => e)).cell ho).trans (HC ()); have f1 := (((HB ()).old _).drew.keep hk1 (fun e => e)).frozen ho)
  all_goals
    go_end0
    simp only [World.size_drew, World.size_alloc] at hb1 ⊢
    obtain ⟨e1, e2, e3⟩ := push_end (ho := ho) (n := 1) (HB ()) (((Keep.refl nil w).alloc _).drew) hk1 (fun e => e) hb1 (by omega)
    exact ⟨trivial, _, c', e1, e2, hc1, by omega, by omega, e3.mono (fun _ _ e => e.elim id (fun e => e.elim))⟩

set_option maxRecDepth 100000 in
set_option maxHeartbeats 1000000 in
theorem pop_any (hb ho : Nat) (cs : Array Value) (ty : TypeId) (pb c n : Nat) (L : List Th) (t : Th) (w : World) (hbk : Blk w hb cs ty) (hcs : cs[ho]? = some (.slice (some ⟨pb, 0, none⟩) (n + 1) c)) (hne : hb ≠ pb) (ht : TBuf w pb L c) (hl : L.length = n + 1) (hnc : n + 1 ≤ c) (hlast : L[n]? = some t) (hlen : (n : Int) < 1000000) :
    Calls Tryz.prog 248 #[.pointer (some ⟨hb, ho, none⟩)] w fun e w' => e = .returned (thv t) ∧ Blk w' hb (cs.setIfInBounds ho (.slice (some ⟨pb, 0, none⟩) n c)) ty ∧
      TBuf w' pb (L.take n) c ∧ Keep (only hb) w w' := by
  have h0 := (hbk.cell ho).trans hcs
  have f0 := hbk.frozen ho
  have hhl := hbk.lt
  have hpl := ht.lt
  obtain ⟨q0, q1, q2, q3⟩ := tbuf_get ht n t hlast
  have hcI : (n : Int) ≤ (c : Int) := by omega
  have hwn : wrap64 (n : Int) = (n : Int) := by unfold wrap64; omega
  have HB : Unit → Blk w hb cs ty ∧ TBuf w pb (L.take n) c := fun _ => ⟨hbk, by
    have := ht.less (n * 4)
    have e : (tcells L).take (n * 4) = tcells (L.take n) := by
      have h1 : tcells L = tcells (L.take n) ++ tcells (L.drop n) := by rw [← tcells_append, List.take_append_drop]
      have h2 : (tcells (L.take n)).length = n * 4 := by rw [tcells_len, List.length_take]; omega
      rw [h1, ← h2, List.take_left]
    rw [e] at this
    exact this⟩
  clear hbk hcs ht hl hlast hlen
  go_enter Tryz.func248, Tryz.ntmps248
  go_wp2
  go_ret
  obtain ⟨e1, e2, e3⟩ := push_end (ho := ho) (n := n) (w1 := w) (HB ()).1 (Keep.refl nil w) (Keep.refl nil _) (fun e => e) (HB ()).2 (Ne.symm hne)
  exact ⟨rfl, e1.old _, e2.alloc _, (e3.mono (fun _ _ e => e.elim id (fun e => e.elim))).alloc _⟩
end Go.Proofs.YtlfijfodklhplaaGreat
/- Things with weights in a row, at ints (made by tools/heapi.py out of Heap1). -/
namespace Go.Proofs.YtlfijfodklhplaaGreat.HI
open Go.RowKit
set_option linter.unusedVariables false
set_option linter.unusedSimpArgs false

structure Th where
  e : Int
  w : Int
def Th.cells (t : Th) : List Value := [.int .i64 t.e, .int .i64 t.w]
def tcells (l : List Th) : List Value := l.flatMap Th.cells
theorem tcells_cons (t : Th) (l : List Th) : tcells (t :: l) = t.cells ++ tcells l := by simp [tcells]
theorem tcells_len (l : List Th) : (tcells l).length = l.length * 2 := by
  induction l with
  | nil => rfl
  | cons e t ih => rw [tcells_cons, List.length_append, ih, List.length_cons]; simp [Th.cells]; omega
theorem tcells_append (l m : List Th) : tcells (l ++ m) = tcells l ++ tcells m := by simp [tcells]
theorem tcells_one (l : List Th) : ∀ u ∈ tcells l, u.oneCell' = true := by
  intro u hu
  obtain ⟨e, _, h⟩ := List.mem_flatMap.1 hu
  simp only [Th.cells, List.mem_cons, List.not_mem_nil, or_false] at h
  rcases h with rfl | rfl <;> rfl
theorem tcells_get (l : List Th) : ∀ (k : Nat) (t : Th), l[k]? = some t → (tcells l)[k * 2]? = some (.int .i64 t.e) ∧ (tcells l)[k * 2 + 1]? = some (.int .i64 t.w) := by
  induction l with
  | nil => intro k e h; simp at h
  | cons x t ih =>
    intro k e h
    rw [tcells_cons]
    cases k with
    | zero =>
      simp at h
      subst h
      exact ⟨rfl, rfl⟩
    | succ k =>
      rw [List.getElem?_cons_succ] at h
      have := ih k e h
      have hl : x.cells.length = 2 := rfl
      rw [List.getElem?_append_right (by omega), List.getElem?_append_right (by omega), hl]
      rw [show (k + 1) * 2 - 2 = k * 2 by omega, show (k + 1) * 2 + 1 - 2 = k * 2 + 1 by omega]
      exact this
theorem tcells_set (l : List Th) : ∀ (k : Nat) (t : Th), ((tcells l).set (k * 2) (.int .i64 t.e)).set (k * 2 + 1) (.int .i64 t.w) = tcells (l.set k t) := by
  induction l with
  | nil => intro k t; simp [tcells]
  | cons x r ih =>
    intro k t
    cases k with
    | zero => simp [tcells, Th.cells]
    | succ k =>
      rw [List.set_cons_succ, tcells_cons, tcells_cons, ← ih k t]
      have hl : x.cells.length = 2 := rfl
      rw [List.set_append_right _ _ (by omega), List.set_append_right _ _ (by omega), hl]
      rw [show (k + 1) * 2 - 2 = k * 2 by omega, show (k + 1) * 2 + 1 - 2 = k * 2 + 1 by omega]
abbrev TBuf (w : World) (g : Nat) (l : List Th) (c : Nat) : Prop := VBuf w g 304 2 (tcells l) c
theorem tbuf_get {w : World} {g c : Nat} {l : List Th} (h : TBuf w g l c) (k : Nat) (t : Th) (hk : l[k]? = some t) :
    w.cell? ⟨g, k * 2, none⟩ = some (.int .i64 t.e) ∧ w.cell? ⟨g, k * 2 + 1, none⟩ = some (.int .i64 t.w) := by
  obtain ⟨h0, h1⟩ := tcells_get l k t hk
  exact ⟨h.cell _ _ h0, h.cell _ _ h1⟩
/-- A thing is written. -/
def put4 (w : World) (g k : Nat) (t : Th) : World := (w.setCell ⟨g, k * 2, none⟩ (.int .i64 t.e)).setCell ⟨g, k * 2 + 1, none⟩ (.int .i64 t.w)
theorem tbuf_put {w : World} {g c : Nat} {l : List Th} (h : TBuf w g l c) (k : Nat) (hk : k < l.length) (t : Th) : TBuf (put4 w g k t) g (l.set k t) c := by
  have hl := tcells_len l
  have h0 := VBuf.put h (k * 2) (by omega) (.int .i64 t.e)
  have h1 := VBuf.put h0 (k * 2 + 1) (by rw [List.length_set]; omega) (.int .i64 t.w)
  rw [tcells_set] at h1
  exact h1
theorem keep_put4 (w : World) (g k : Nat) (t : Th) : Keep (only g) w (put4 w g k t) :=
  ((Keep.refl (only g) w).setCell (p := ⟨g, k * 2, none⟩) (fun _ => rfl) _).setCell (p := ⟨g, k * 2 + 1, none⟩) (fun _ => rfl) _

set_option maxRecDepth 100000 in
theorem len_any (a : Option Addr) (n c : Nat) (w : World) : Calls Tryz.prog 250 #[.slice a n c] w fun e w' => e = .returned (.int .i64 (n : Int)) ∧ w = w' := by
  go_enter Tryz.func250, Tryz.ntmps250
  go_wp2
  go_ret
  exact ⟨rfl, rfl⟩

set_option maxRecDepth 100000 in
set_option maxHeartbeats 1000000 in
theorem less_any (pb n c : Nat) (L : List Th) (i j : Nat) (x y : Th) (hi : L[i]? = some x) (hj : L[j]? = some y) (w : World) (hb : TBuf w pb L c) (hin : (i : Int) < (n : Int)) (hjn : (j : Int) < (n : Int)) :
    Calls Tryz.prog 251 #[.slice (some ⟨pb, 0, none⟩) n c, .int .i64 (i : Int), .int .i64 (j : Int)] w fun e w' => e = .returned (.bool (decide (x.w < y.w))) ∧ ∃ m, w' = w.drewN m := by
  have c1 := (tbuf_get hb i x hi).2
  have c2 := (tbuf_get hb j y hj).2
  clear hb hi hj
  go_enter Tryz.func251, Tryz.ntmps251
  go_wp2_with fail
  go_quiet (fail)
  go_wp2
  go_ret
  exact ⟨rfl, nq, rfl⟩

set_option maxRecDepth 100000 in
set_option maxHeartbeats 1000000 in
theorem swap_any (pb n c : Nat) (L : List Th) (i j : Nat) (x y : Th) (hi : L[i]? = some x) (hj : L[j]? = some y) (w : World) (hb : TBuf w pb L c) (hin : (i : Int) < (n : Int)) (hjn : (j : Int) < (n : Int)) (hij : i ≠ j) :
    Calls Tryz.prog 252 #[.slice (some ⟨pb, 0, none⟩) n c, .int .i64 (i : Int), .int .i64 (j : Int)] w fun e w' => e = .returned (.tuple #[]) ∧ TBuf w' pb ((L.set i y).set j x) c ∧ Keep (only pb) w w' := by
  obtain ⟨a0, a1⟩ := tbuf_get hb i x hi
  obtain ⟨b0, b1⟩ := tbuf_get hb j y hj
  have f0 := fun p => hb.frozen p
  have fi0 := f0 (i * 2)
  have fi1 := f0 (i * 2 + 1)
  have fj0 := f0 (j * 2)
  have fj1 := f0 (j * 2 + 1)
  have HP : Unit → TBuf (put4 (put4 w pb i y) pb j x) pb ((L.set i y).set j x) c ∧ Keep (only pb) w (put4 (put4 w pb i y) pb j x) := fun _ =>
    ⟨tbuf_put (tbuf_put hb i (List.getElem?_eq_some_iff.1 hi).1 y) j (by rw [List.length_set]; exact (List.getElem?_eq_some_iff.1 hj).1) x, (keep_put4 w pb i y).trans (keep_put4 _ pb j x)⟩
  clear hb hi hj f0
  go_enter Tryz.func252, Tryz.ntmps252
  go_wp2_with fail
  go_region
  all_goals go_end0
  exact ⟨rfl, (HP ()).1.drew, (HP ()).2.drew⟩

set_option maxRecDepth 100000 in
set_option maxHeartbeats 1000000 in
theorem swap_same (pb n c : Nat) (L : List Th) (i : Nat) (x : Th) (hi : L[i]? = some x) (w : World) (hb : TBuf w pb L c) (hin : (i : Int) < (n : Int)) :
    Calls Tryz.prog 252 #[.slice (some ⟨pb, 0, none⟩) n c, .int .i64 (i : Int), .int .i64 (i : Int)] w fun e w' => e = .returned (.tuple #[]) ∧ TBuf w' pb L c ∧ Keep (only pb) w w' := by
  obtain ⟨a0, a1⟩ := tbuf_get hb i x hi
  have f0 := fun p => hb.frozen p
  have fi0 := f0 (i * 2)
  have fi1 := f0 (i * 2 + 1)
  have hset : (L.set i x) = L := by
    refine List.ext_getElem? (fun k => ?_)
    rw [List.getElem?_set]
    split
    · rename_i h; subst h; rw [hi, if_pos (List.getElem?_eq_some_iff.1 hi).1]
    · rfl
  have HP : Unit → TBuf (put4 (put4 w pb i x) pb i x) pb L c ∧ Keep (only pb) w (put4 (put4 w pb i x) pb i x) := fun _ =>
    ⟨by
      have h1 := tbuf_put hb i (List.getElem?_eq_some_iff.1 hi).1 x
      rw [hset] at h1
      have h2 := tbuf_put h1 i (List.getElem?_eq_some_iff.1 hi).1 x
      rw [hset] at h2
      exact h2, (keep_put4 w pb i x).trans (keep_put4 _ pb i x)⟩
  clear hb hi f0 hset
  go_enter Tryz.func252, Tryz.ntmps252
  go_wp2_with fail
  go_region
  all_goals go_end0
  exact ⟨rfl, (HP ()).1.drew, (HP ()).2.drew⟩

theorem thing_info : (Tryz.prog.info? 304).map (fun i => (i.zero, i.size, i.bytes)) = some (some (.agg #[.int .i64 0, .int .i64 0]), 2, 16) := by kernel_rfl

@[go_sem] theorem assert_thing (v : Value) (w : World) : (Instr.typeAssert (.iface 304 v) 20 304 false).run Tryz.prog w = .ok v w := by kernel_rfl

/-- The thing as a value within an interface. -/
abbrev thv (t : Th) : Value := .iface 304 (.agg #[.int .i64 t.e, .int .i64 t.w])

theorem push_end {w w0 w1 : World} {hb ho pb' c' n : Nat} {cs : Array Value} {ty : TypeId} {G : Nat → Prop} {vs : List Value} (hbk : Blk w hb cs ty) (k0 : Keep nil w w0) (hk : Keep G w0 w1) (hG : ¬ G hb) (ht : VBuf w1 pb' 304 2 vs c') (hp : pb' ≠ hb) :
    Blk (w1.setCell ⟨hb, ho, none⟩ (.slice (some ⟨pb', 0, none⟩) n c')) hb (cs.setIfInBounds ho (.slice (some ⟨pb', 0, none⟩) n c')) ty ∧ VBuf (w1.setCell ⟨hb, ho, none⟩ (.slice (some ⟨pb', 0, none⟩) n c')) pb' 304 2 vs c' ∧
      Keep (fun b => b = hb ∨ G b) w (w1.setCell ⟨hb, ho, none⟩ (.slice (some ⟨pb', 0, none⟩) n c')) := by
  have ks : Keep (only hb) w1 (w1.setCell ⟨hb, ho, none⟩ (.slice (some ⟨pb', 0, none⟩) n c')) := (Keep.refl (only hb) w1).setCell (p := ⟨hb, ho, none⟩) (fun _ => rfl) _
  refine ⟨((hbk.keep k0 (fun e => e)).keep hk hG).set ho _, ht.keep ks (fun e => hp e), ?_⟩
  exact (((k0.mono (fun _ _ e => e.elim)).trans (hk.mono (ex' := fun b => b = hb ∨ G b) (fun _ _ e => Or.inr e)))).setCell (p := ⟨hb, ho, none⟩) (fun _ => Or.inl rfl) _

set_option maxRecDepth 100000 in
set_option maxHeartbeats 1000000 in
theorem push_some (hb ho : Nat) (cs : Array Value) (ty : TypeId) (pb c : Nat) (L : List Th) (t : Th) (w : World) (hbk : Blk w hb cs ty) (hcs : cs[ho]? = some (.slice (some ⟨pb, 0, none⟩) L.length c)) (hne : hb ≠ pb) (ht : TBuf w pb L c) (hlen : (L.length : Int) < 1000000) :
    Calls Tryz.prog 254 #[.pointer (some ⟨hb, ho, none⟩), thv t] w fun e w' => e = .returned (.tuple #[]) ∧ ∃ pb' c', Blk w' hb (cs.setIfInBounds ho (.slice (some ⟨pb', 0, none⟩) (L.length + 1) c')) ty ∧
      TBuf w' pb' (L ++ [t]) c' ∧ L.length + 1 ≤ c' ∧ (pb' = pb ∨ w.heap.size ≤ pb') ∧ pb' ≠ hb ∧ Keep (fun b => b = hb ∨ b = pb) w w' := by
  have h0 := (hbk.cell ho).trans hcs
  have f0 := hbk.frozen ho
  have hpl := ht.lt
  have hhl := hbk.lt
  have HB : Unit → Blk w hb cs ty ∧ TBuf w pb L c := fun _ => ⟨hbk, ht⟩
  have HL : Unit → (L.length : Int) < 1000000 := fun _ => hlen
  have HC : Unit → cs[ho]? = some (.slice (some ⟨pb, 0, none⟩) L.length c) := fun _ => hcs
  clear hbk hcs ht hlen
  go_enter Tryz.func254, Tryz.ntmps254
  go_wp2_with fail
  go_region_law (refine step_append_any rfl (.tmp 7) (.tmp 10) 253 rfl 304 (.agg #[.int .i64 0, .int .i64 0]) 2 16 Tryz.underlying253 thing_info rfl pb L.length c (by simp [Act.eval, Act.put]) (tcells L) (tcells_len L) (((HB ()).2.alloc _).drew) ⟨w.heap.size, 0, none⟩ 1 1 (by simp [Act.eval, Act.put]) (tcells [t]) rfl (At.cell (B := 0) (At.newd rfl (Nat.zero_le _))) (tcells_one _) (by have := HL (); omega) (by have := HL (); omega) ?_; intro pb' c' w1 hb1 hc1 hd1 hk1; have h1 := ((((HB ()).1.old _).drew.keep hk1 (fun e => hne e)).cell ho).trans (HC ()); have f1 := (((HB ()).1.old _).drew.keep hk1 (fun e => hne e)).frozen ho)
  all_goals
    go_end0
    have hp : pb' ≠ hb := by
      rcases hd1 with ⟨e, _⟩ | ⟨e, _⟩
      · rw [e]; exact Ne.symm hne
      · simp only [World.size_drew, World.size_alloc] at e; omega
    obtain ⟨e1, e2, e3⟩ := push_end (ho := ho) (n := L.length + 1) (HB ()).1 (((Keep.refl nil w).alloc _).drew) hk1 (fun e => hne e) hb1 hp
    rw [← tcells_append] at e2
    refine ⟨rfl, pb', c', e1, e2, hc1, ?_, hp, e3⟩
    rcases hd1 with ⟨e, _⟩ | ⟨e, _⟩
    · exact Or.inl e
    · simp only [World.size_drew, World.size_alloc] at e; exact Or.inr (by omega)

set_option maxRecDepth 100000 in
set_option maxHeartbeats 1000000 in
theorem push_nil (hb ho : Nat) (cs : Array Value) (ty : TypeId) (t : Th) (w : World) (hbk : Blk w hb cs ty) (hcs : cs[ho]? = some (.slice none 0 0)) :
    Calls Tryz.prog 254 #[.pointer (some ⟨hb, ho, none⟩), thv t] w fun e w' => e = .returned (.tuple #[]) ∧ ∃ pb' c', Blk w' hb (cs.setIfInBounds ho (.slice (some ⟨pb', 0, none⟩) 1 c')) ty ∧
      TBuf w' pb' [t] c' ∧ 1 ≤ c' ∧ w.heap.size ≤ pb' ∧ pb' ≠ hb ∧ Keep (only hb) w w' := by
  have h0 := (hbk.cell ho).trans hcs
  have f0 := hbk.frozen ho
  have hhl := hbk.lt
  have HB : Unit → Blk w hb cs ty := fun _ => hbk
  have HC : Unit → cs[ho]? = some (.slice none 0 0) := fun _ => hcs
  clear hbk hcs
  go_enter Tryz.func254, Tryz.ntmps254
  go_wp2_with fail
  go_region_law (refine step_append_new rfl (.tmp 7) (.tmp 10) 253 rfl 304 (.agg #[.int .i64 0, .int .i64 0]) 2 16 Tryz.underlying253 thing_info rfl (by simp [Act.eval, Act.put]) ⟨w.heap.size, 0, none⟩ 1 1 (by omega) (by simp [Act.eval, Act.put]) (tcells [t]) rfl (At.cell (B := 0) (At.newd rfl (Nat.zero_le _))) (by omega) (by omega) ?_; intro c' w1 hb1 hc1 hk1; have h1 := ((((HB ()).old _).drew.keep hk1 (fun e => e)).cell ho).trans (HC ()); have f1 := (((HB ()).old _).drew.keep hk1 (fun e => e)).frozen ho)
  all_goals
    go_end0
    simp only [World.size_drew, World.size_alloc] at hb1 ⊢
    obtain ⟨e1, e2, e3⟩ := push_end (ho := ho) (n := 1) (HB ()) (((Keep.refl nil w).alloc _).drew) hk1 (fun e => e) hb1 (by omega)
    exact ⟨trivial, _, c', e1, e2, hc1, by omega, by omega, e3.mono (fun _ _ e => e.elim id (fun e => e.elim))⟩

set_option maxRecDepth 100000 in
set_option maxHeartbeats 1000000 in
theorem pop_any (hb ho : Nat) (cs : Array Value) (ty : TypeId) (pb c n : Nat) (L : List Th) (t : Th) (w : World) (hbk : Blk w hb cs ty) (hcs : cs[ho]? = some (.slice (some ⟨pb, 0, none⟩) (n + 1) c)) (hne : hb ≠ pb) (ht : TBuf w pb L c) (hl : L.length = n + 1) (hnc : n + 1 ≤ c) (hlast : L[n]? = some t) (hlen : (n : Int) < 1000000) :
    Calls Tryz.prog 253 #[.pointer (some ⟨hb, ho, none⟩)] w fun e w' => e = .returned (thv t) ∧ Blk w' hb (cs.setIfInBounds ho (.slice (some ⟨pb, 0, none⟩) n c)) ty ∧
      TBuf w' pb (L.take n) c ∧ Keep (only hb) w w' := by
  have h0 := (hbk.cell ho).trans hcs
  have f0 := hbk.frozen ho
  have hhl := hbk.lt
  have hpl := ht.lt
  obtain ⟨q0, q1⟩ := tbuf_get ht n t hlast
  have hcI : (n : Int) ≤ (c : Int) := by omega
  have hwn : wrap64 (n : Int) = (n : Int) := by unfold wrap64; omega
  have HB : Unit → Blk w hb cs ty ∧ TBuf w pb (L.take n) c := fun _ => ⟨hbk, by
    have := ht.less (n * 2)
    have e : (tcells L).take (n * 2) = tcells (L.take n) := by
      have h1 : tcells L = tcells (L.take n) ++ tcells (L.drop n) := by rw [← tcells_append, List.take_append_drop]
      have h2 : (tcells (L.take n)).length = n * 2 := by rw [tcells_len, List.length_take]; omega
      rw [h1, ← h2, List.take_left]
    rw [e] at this
    exact this⟩
  clear hbk hcs ht hl hlast hlen
  go_enter Tryz.func253, Tryz.ntmps253
  go_wp2
  go_ret
  obtain ⟨e1, e2, e3⟩ := push_end (ho := ho) (n := n) (w1 := w) (HB ()).1 (Keep.refl nil w) (Keep.refl nil _) (fun e => e) (HB ()).2 (Ne.symm hne)
  exact ⟨rfl, e1.old _, e2.alloc _, (e3.mono (fun _ _ e => e.elim id (fun e => e.elim))).alloc _⟩
end Go.Proofs.YtlfijfodklhplaaGreat.HI
