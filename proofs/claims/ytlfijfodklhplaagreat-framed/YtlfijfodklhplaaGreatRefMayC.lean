/- Walk of the document's 'may a message be': kinds 2. -/
import Derived.Test.YtlfijfodklhplaaGreatRefMay
namespace Go.Proofs.YtlfijfodklhplaaGreat
open Go.RowKit
set_option linter.unusedVariables false

theorem two_ways (l n : Int) (f : Bool) : (l < 0 ∧ Hid (may 2 l n f = false)) ∨ (0 ≤ l ∧ 9 < l ∧ Hid (may 2 l n f = false)) ∨ (0 ≤ l ∧ l ≤ 9 ∧ n < 0 ∧ Hid (may 2 l n f = false)) ∨ (0 ≤ l ∧ l ≤ 9 ∧ 0 ≤ n ∧ 1000 < n ∧ Hid (may 2 l n f = false)) ∨
    (0 ≤ l ∧ l ≤ 9 ∧ n = 0 ∧ Hid (may 2 l 0 f = false)) ∨ (0 ≤ l ∧ l ≤ 9 ∧ 0 < n ∧ n ≤ 1000 ∧ Hid (may 2 l n f = true)) := by
  have e1 : bL 2 = 9 := rfl
  have e2 : bm 2 = 1 := rfl
  have e3 : bM 2 = 1000 := rfl
  have no : ∀ n, ¬ (0 ≤ l ∧ l ≤ 9 ∧ 1 ≤ n ∧ n ≤ 1000) → Hid (may 2 l n f = false) := fun n h => by
    show may 2 l n f = false
    simp only [may, decide_eq_false_iff_not, e1, e2, e3]; exact fun x => h ⟨x.2.1, x.2.2.1, x.2.2.2.1, x.2.2.2.2.1⟩
  by_cases h1 : l < 0
  · exact Or.inl ⟨h1, no n (by omega)⟩
  by_cases h2 : 9 < l
  · exact Or.inr (Or.inl ⟨by omega, h2, no n (by omega)⟩)
  by_cases h3 : n < 0
  · exact Or.inr (Or.inr (Or.inl ⟨by omega, by omega, h3, no n (by omega)⟩))
  by_cases h4 : 1000 < n
  · exact Or.inr (Or.inr (Or.inr (Or.inl ⟨by omega, by omega, by omega, h4, no n (by omega)⟩)))
  by_cases h5 : n = 0
  · exact Or.inr (Or.inr (Or.inr (Or.inr (Or.inl ⟨by omega, by omega, h5, no 0 (by omega)⟩))))
  · refine Or.inr (Or.inr (Or.inr (Or.inr (Or.inr ⟨by omega, by omega, by omega, by omega, ?_⟩))))
    show may 2 l n f = true
    simp only [may, decide_eq_true_eq, e1, e2, e3]
    exact ⟨by omega, by omega, by omega, by omega, by omega, fun _ => trivial⟩

set_option maxRecDepth 100000 in
set_option maxHeartbeats 8000000 in
theorem refmay_two (l n : Int) (f : Bool) (w : World) :
    Calls Tryz.prog 125 #[.agg #[.int .i64 2, .int .i64 l, .int .i64 n, .bool f]] w fun e w' => e = .returned (.bool (may 2 l n f)) ∧ Keep nil w w' := by
  rcases two_ways l n f with ⟨g1, HM⟩ | ⟨g1, g2, HM⟩ | ⟨g1, g2, g3, HM⟩ | ⟨g1, g2, g3, g4, HM⟩ | ⟨g1, g2, rfl, HM⟩ | ⟨g1, g2, g3, g4, HM⟩
  · go_enter Tryz.func125, Tryz.ntmps125
    go_wp2
    go_ret
    exact ⟨ret_bool HM.out.symm, (Keep.refl _ _).alloc _⟩
  · go_enter Tryz.func125, Tryz.ntmps125
    go_wp2
    go_ret
    exact ⟨ret_bool HM.out.symm, (Keep.refl _ _).alloc _⟩
  · go_enter Tryz.func125, Tryz.ntmps125
    go_wp2
    go_ret
    exact ⟨ret_bool HM.out.symm, (Keep.refl _ _).alloc _⟩
  · go_enter Tryz.func125, Tryz.ntmps125
    go_wp2
    go_ret
    exact ⟨ret_bool HM.out.symm, (Keep.refl _ _).alloc _⟩
  · go_enter Tryz.func125, Tryz.ntmps125
    go_wp2
    go_ret
    exact ⟨ret_bool HM.out.symm, (Keep.refl _ _).alloc _⟩
  · have hn : (n == 0) = false := by rw [beq_eq_false_iff_ne]; omega
    cases f
    all_goals
      go_enter Tryz.func125, Tryz.ntmps125
      go_wp2
      go_ret
      exact ⟨ret_bool HM.out.symm, (Keep.refl _ _).alloc _⟩
end Go.Proofs.YtlfijfodklhplaaGreat
