/- Lists that their owner writes over: four of them, each in a block of its own or in a shared one. -/
import Derived.Test.YtlfijfodklhplaaGreatBytes
import Derived.Test.YtlfijfodklhplaaGreatSign
namespace Go.Proofs.YtlfijfodklhplaaGreat
open Go.RowKit
set_option linter.unusedVariables false

/-- The first m places of block g hold the marks of list i. -/
def Marked (w : World) (g i m : Nat) : Prop := ∀ p, p < m → w.cell? ⟨g, p, none⟩ = some (bv (sgn i p))
theorem Marked.set {w : World} {g i m : Nat} (h : Marked w g i m) (g' p : Nat) : Marked (w.setCell ⟨g', p, none⟩ (bv (sgn i p))) g i m := by
  intro q hq
  by_cases he : (⟨g', p, none⟩ : Addr) = ⟨g, q, none⟩
  · rw [he]
    have hp : p = q := by injection he
    subst hp
    exact World.cell?_setCell_same _ _ _ (h p hq)
  · rw [World.cell?_setCell_other _ _ _ _ he]
    exact h q hq
theorem Marked.keep {ex : Nat → Prop} {w w' : World} {g i m : Nat} (h : Marked w g i m) (k : Keep ex w w') (hg : g < w.heap.size) (hn : ¬ ex g) : Marked w' g i m :=
  fun p hp => (k.cell g p hg hn).trans (h p hp)

/-- A list: nil, or at the head of a block: its block, its length, its room. -/
structure Lst where
  b : Option Nat
  n : Nat
  c : Nat
def Lst.val (t : Lst) : Value := match t.b with
  | none => .slice none 0 0
  | some g => .slice (some ⟨g, 0, none⟩) t.n t.c
/-- Whether it is what it says: nil has no places. -/
def Lst.ok (w : World) (t : Lst) : Prop := match t.b with
  | none => t.n = 0
  | some g => Room w g 5 t.n
def Lst.marked (w : World) (i : Nat) (t : Lst) : Prop := match t.b with
  | none => True
  | some g => Marked w g i t.n

/-- In the middle of the writing: the lists before the k-th are written. -/
structure St (W0 wr : World) (S : List Lst) (i k : Nat) : Prop where
  keep : Keep (fun b => ∃ t ∈ S, t.b = some b) W0 wr
  ok : ∀ t ∈ S, t.ok wr
  done : ∀ j t, j < k → S[j]? = some t → t.marked wr i
theorem St.set {W0 wr : World} {S : List Lst} {i k : Nat} (h : St W0 wr S i k) (g p : Nat) (hg : ∃ t ∈ S, t.b = some g) : St W0 (wr.setCell ⟨g, p, none⟩ (bv (sgn i p))) S i k := by
  refine ⟨h.keep.setCell (p := ⟨g, p, none⟩) (fun _ => hg) _, fun t ht => ?_, fun j t hj ht => ?_⟩
  · have := h.ok t ht
    unfold Lst.ok at this ⊢
    cases hb : t.b with
    | none => rw [hb] at this; exact this
    | some b => rw [hb] at this; exact this.set _ _ rfl
  · have := h.done j t hj ht
    unfold Lst.marked at this ⊢
    cases hb : t.b with
    | none => trivial
    | some b => rw [hb] at this; exact this.set _ _
theorem St.drew {W0 wr : World} {S : List Lst} {i k : Nat} (h : St W0 wr S i k) : St W0 wr.drew S i k := ⟨h.keep.drew, h.ok, h.done⟩
theorem St.next {W0 wr : World} {S : List Lst} {i k : Nat} (h : St W0 wr S i k) (t : Lst) (ht : S[k]? = some t) (hm : t.marked wr i) : St W0 wr S i (k + 1) := by
  refine ⟨h.keep, h.ok, fun j u hj hu => ?_⟩
  by_cases e : j = k
  · subst e; rw [ht] at hu; cases hu; exact hm
  · exact h.done j u (by omega) hu
theorem room_after {w w' : World} {g g1 : Nat} {e : TypeId} {m : Nat} (h : Room w g1 e m) (h' : g1 = g → Room w' g1 e m) (k : Keep (only g) w w') : Room w' g1 e m := by
  by_cases e : g1 = g
  · exact h' e
  · exact h.keep k (fun x => e x)
theorem Marked.more {w : World} {g i q : Nat} (h : Marked w g i q) (hc : ∃ v, w.cell? ⟨g, q, none⟩ = some v) : Marked (w.setCell ⟨g, q, none⟩ (bv (sgn i q))) g i (q + 1) := by
  intro p hp
  by_cases e : p = q
  · subst e
    obtain ⟨v, hv⟩ := hc
    exact World.cell?_setCell_same _ _ _ hv
  · exact h.set g q p (by omega)
end Go.Proofs.YtlfijfodklhplaaGreat
