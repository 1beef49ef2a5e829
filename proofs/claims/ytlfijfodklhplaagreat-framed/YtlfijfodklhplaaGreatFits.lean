/- Walk of fits. -/
import Derived.Test.YtlfijfodklhplaaGreatBody
namespace Go.Proofs.YtlfijfodklhplaaGreat
open Go.RowKit
set_option linter.unusedVariables false

/-- Is a message none? -/
def noMsg (k l n : Int) (f : Bool) : Bool := k == 0 && (l == 0 && (n == 0 && f == false))

set_option maxHeartbeats 1000000 in
theorem fits_data (s k l n : Int) (f : Bool) (w : World) :
    Calls Tryz.prog 176 #[.agg (fc true s k l n f)] w fun e w' => e = .returned (.bool (may k l n f)) ∧ Keep nil w w' := by
  go_enter Tryz.func176, Tryz.ntmps176
  go_wp2_with fail
  refine (mayBe_any k l n f _).mono ?_
  rintro e w1 ⟨rfl, hk1⟩
  go_wp2
  go_ret
  exact ⟨rfl, ((Keep.refl _ _).alloc _).trans hk1⟩

set_option maxHeartbeats 1000000 in
theorem fits_ack (s k l n : Int) (f : Bool) (w : World) :
    Calls Tryz.prog 176 #[.agg (fc false s k l n f)] w fun e w' => e = .returned (.bool (noMsg k l n f)) ∧ Keep nil w w' := by
  go_enter Tryz.func176, Tryz.ntmps176
  go_wp2
  all_goals
    go_ret
    exact ⟨ret_bool (by simp_all [noMsg]), (Keep.refl _ _).alloc _⟩
end Go.Proofs.YtlfijfodklhplaaGreat
