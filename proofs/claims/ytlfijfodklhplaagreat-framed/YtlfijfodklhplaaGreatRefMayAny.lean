/- The document's 'may a message be', at every kind. -/
import Derived.Test.YtlfijfodklhplaaGreatRefMayA
import Derived.Test.YtlfijfodklhplaaGreatRefMayB
import Derived.Test.YtlfijfodklhplaaGreatRefMayC
namespace Go.Proofs.YtlfijfodklhplaaGreat
open Go.RowKit
set_option linter.unusedVariables false

set_option maxRecDepth 100000 in
set_option maxHeartbeats 2000000 in
theorem refmay_out (k l n : Int) (f : Bool) (hk : k < 1 ∨ 7 < k) (w : World) :
    Calls Tryz.prog 125 #[.agg #[.int .i64 k, .int .i64 l, .int .i64 n, .bool f]] w fun e w' => e = .returned (.bool false) ∧ Keep nil w w' := by
  have h1 : (k == 1) = false := beq_eq_false_iff_ne.2 (by omega)
  have h2 : (k == 2) = false := beq_eq_false_iff_ne.2 (by omega)
  have h3 : (k == 3) = false := beq_eq_false_iff_ne.2 (by omega)
  have h6 : (k == 6) = false := beq_eq_false_iff_ne.2 (by omega)
  rcases hk with hk | hk
  · go_enter Tryz.func125, Tryz.ntmps125
    go_wp2
    go_ret
    exact ⟨rfl, (Keep.refl _ _).alloc _⟩
  · have h1' : ¬ k < 1 := by omega
    go_enter Tryz.func125, Tryz.ntmps125
    go_wp2
    go_ret
    exact ⟨rfl, (Keep.refl _ _).alloc _⟩

theorem refmay_any (k l n : Int) (f : Bool) (w : World) :
    Calls Tryz.prog 125 #[.agg #[.int .i64 k, .int .i64 l, .int .i64 n, .bool f]] w fun e w' => e = .returned (.bool (may k l n f)) ∧ Keep nil w w' := by
  by_cases hk : 1 ≤ k ∧ k ≤ 7
  · by_cases h2 : k = 2
    · subst h2; exact refmay_two l n f w
    · by_cases h4 : k ≤ 4
      · exact refmay_a k l n f (by omega) w
      · exact refmay_b k l n f (by omega) w
  · have hm : may k l n f = false := by simp only [may, decide_eq_false_iff_not]; exact fun h => hk h.1
    rw [hm]
    exact refmay_out k l n f (by omega) w
end Go.Proofs.YtlfijfodklhplaaGreat
