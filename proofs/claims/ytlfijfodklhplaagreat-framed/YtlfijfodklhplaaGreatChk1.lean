/- The small questions of Check. -/
import Derived.Test.YtlfijfodklhplaaGreatLentE
namespace Go.Proofs.YtlfijfodklhplaaGreat
open Go.RowKit
set_option linter.unusedVariables false
set_option linter.unusedSimpArgs false

abbrev edv (e : Ed) : Value := .agg #[.int .i64 e.a, .int .i64 e.b, .int .i64 e.wt]
def strayB (n : Int) (e : Ed) : Bool := !(decide (0 ≤ e.a) && decide (e.a < n)) || !(decide (0 ≤ e.b) && decide (e.b < n)) || (e.a == e.b)
def heavyB (e : Ed) : Bool := decide (e.wt < 1) || decide (1000 < e.wt)
def sameWB (e f : Ed) : Bool := e.wt == f.wt
def sameEB (e f : Ed) : Bool := (e.a == f.a && e.b == f.b) || (e.a == f.b && e.b == f.a)

theorem ecells_get (l : List Ed) : ∀ (k : Nat) (e : Ed), l[k]? = some e → (ecells l)[k * 3]? = some (.int .i64 e.a) ∧ (ecells l)[k * 3 + 1]? = some (.int .i64 e.b) ∧ (ecells l)[k * 3 + 2]? = some (.int .i64 e.wt) := by
  induction l with
  | nil => intro k e h; simp at h
  | cons x t ih =>
    intro k e h
    have hc : ecells (x :: t) = x.cells ++ ecells t := by simp [ecells]
    rw [hc]
    cases k with
    | zero =>
      simp at h
      subst h
      exact ⟨rfl, rfl, rfl⟩
    | succ k =>
      rw [List.getElem?_cons_succ] at h
      have := ih k e h
      have hl : x.cells.length = 3 := rfl
      rw [List.getElem?_append_right (by omega), List.getElem?_append_right (by omega), List.getElem?_append_right (by omega), hl]
      rw [show (k + 1) * 3 - 3 = k * 3 by omega, show (k + 1) * 3 + 1 - 3 = k * 3 + 1 by omega, show (k + 1) * 3 + 2 - 3 = k * 3 + 2 by omega]
      exact this
theorem erow_get {w : World} {b o : Nat} {l : List Ed} (h : ERow w b o l) (k : Nat) (e : Ed) (hk : l[k]? = some e) :
    w.cell? ⟨b, o + k * 3, none⟩ = some (.int .i64 e.a) ∧ w.cell? ⟨b, o + k * 3 + 1, none⟩ = some (.int .i64 e.b) ∧ w.cell? ⟨b, o + k * 3 + 2, none⟩ = some (.int .i64 e.wt) := by
  obtain ⟨h0, h1, h2⟩ := ecells_get l k e hk
  exact ⟨h _ _ h0, h _ _ h1, h _ _ h2⟩
/-- A list of edges, nil or a row. -/
def ESl (w : World) (sa : Option Addr) (es : List Ed) : Prop := es = [] ∨ ∃ bb bo, sa = some ⟨bb, bo, none⟩ ∧ bb < w.heap.size ∧ ERow w bb bo es
theorem ESl.keep {w w' : World} {sa : Option Addr} {es : List Ed} (h : ESl w sa es) (k : Keep nil w w') : ESl w' sa es :=
  h.imp id (fun ⟨bb, bo, h1, h2, h3⟩ => ⟨bb, bo, h1, Nat.lt_of_lt_of_le h2 k.size, h3.keep k h2 (fun e => e)⟩)
theorem ESl.some {w : World} {sa : Option Addr} {es : List Ed} (h : ESl w sa es) {i : Nat} (hi : i < es.length) : ∃ bb bo, sa = some ⟨bb, bo, none⟩ ∧ bb < w.heap.size ∧ ERow w bb bo es := by
  rcases h with h | h
  · rw [h] at hi; simp at hi
  · exact h
theorem mem_take_succ {es : List Ed} {k : Nat} {e : Ed} (he : es[k]? = some e) {x : Ed} : x ∈ es.take (k + 1) ↔ x ∈ es.take k ∨ x = e := by
  rw [List.take_add_one, he]; simp

theorem isNode_any (k n : Int) (w : World) : Calls Tryz.prog 50 #[.int .i64 k, .int .i64 n] w fun r w' => r = .returned (.bool (decide (0 ≤ k) && decide (k < n))) ∧ w = w' := by
  go_enter Tryz.func50, Tryz.ntmps50
  go_wp2
  all_goals
    go_ret
    refine ⟨?_, rfl⟩
    simp_all <;> omega

set_option maxRecDepth 100000 in
set_option maxHeartbeats 400000 in
theorem weighsWrong_any (e : Ed) (w : World) : Calls Tryz.prog 52 #[edv e] w fun r w' => r = .returned (.bool (heavyB e)) ∧ Keep nil w w' := by
  obtain ⟨a, b, wt⟩ := e
  go_enter Tryz.func52, Tryz.ntmps52
  go_wp2
  all_goals
    go_ret
    refine ⟨?_, (Keep.refl nil w).alloc _⟩
    simp_all [heavyB]

set_option maxRecDepth 100000 in
set_option maxHeartbeats 400000 in
theorem weighAlike_any (e f : Ed) (w : World) : Calls Tryz.prog 54 #[edv e, edv f] w fun r w' => r = .returned (.bool (sameWB e f)) ∧ Keep nil w w' := by
  obtain ⟨a, b, wt⟩ := e
  obtain ⟨a2, b2, wt2⟩ := f
  go_enter Tryz.func54, Tryz.ntmps54
  go_wp2
  all_goals
    go_ret
    refine ⟨?_, ((Keep.refl nil w).alloc _).alloc _⟩
    simp_all [sameWB]

set_option maxRecDepth 100000 in
set_option maxHeartbeats 400000 in
theorem joinAlike_any (e f : Ed) (w : World) : Calls Tryz.prog 55 #[edv e, edv f] w fun r w' => r = .returned (.bool (sameEB e f)) ∧ Keep nil w w' := by
  obtain ⟨a, b, wt⟩ := e
  obtain ⟨a2, b2, wt2⟩ := f
  go_enter Tryz.func55, Tryz.ntmps55
  go_wp2
  all_goals
    go_ret
    refine ⟨?_, ((Keep.refl nil w).alloc _).alloc _⟩
    simp_all [sameEB]

set_option maxRecDepth 100000 in
set_option maxHeartbeats 400000 in
theorem strays_any (nb : Nat) (n : Int) (e : Ed) (w : World) (hn : w.cell? ⟨nb, 0, none⟩ = some (.int .i64 n)) :
    Calls Tryz.prog 49 #[edv e, .pointer (some ⟨nb, 0, none⟩)] w fun r w' => r = .returned (.bool (strayB n e)) ∧ Keep nil w w' := by
  obtain ⟨a, b, wt⟩ := e
  have hl := World.block_lt_of_cell? w _ hn
  simp only at hl
  have HI : Unit → ∀ k w, Calls Tryz.prog 50 #[.int .i64 k, .int .i64 n] w fun r w' => r = .returned (.bool (decide (0 ≤ k) && decide (k < n))) ∧ w = w' := fun _ k w => isNode_any k n w
  go_enter Tryz.func49, Tryz.ntmps49
  go_wp2_with fail
  refine (HI () _ _).mono ?_
  rintro r w' ⟨rfl, rfl⟩
  cases hA : (decide (0 ≤ a) && decide (a < n))
  · go_wp2
    go_ret
    refine ⟨?_, ((Keep.refl nil w).alloc _)⟩
    simp_all [strayB] <;> omega
  · go_wp2_with fail
    refine (HI () _ _).mono ?_
    rintro r w' ⟨rfl, rfl⟩
    cases hB : (decide (0 ≤ b) && decide (b < n))
    · go_wp2
      go_ret
      refine ⟨?_, ((Keep.refl nil w).alloc _)⟩
      simp_all [strayB] <;> omega
    · go_wp2
      all_goals
        go_ret
        refine ⟨?_, ((Keep.refl nil w).alloc _)⟩
        simp_all [strayB]
end Go.Proofs.YtlfijfodklhplaaGreat
