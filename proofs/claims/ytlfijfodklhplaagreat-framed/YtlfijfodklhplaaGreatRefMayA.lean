/- Walk of the document's 'may a message be': kinds 1, 3 and 4. -/
import Derived.Test.YtlfijfodklhplaaGreatRefMay
namespace Go.Proofs.YtlfijfodklhplaaGreat
open Go.RowKit
set_option linter.unusedVariables false

set_option maxRecDepth 100000 in
set_option maxHeartbeats 8000000 in
theorem refmay_a (k l n : Int) (f : Bool) (hk' : k = 1 ∨ k = 3 ∨ k = 4) (w : World) :
    Calls Tryz.prog 125 #[.agg #[.int .i64 k, .int .i64 l, .int .i64 n, .bool f]] w fun e w' => e = .returned (.bool (may k l n f)) ∧ Keep nil w w' := by
  have hw := ref_ways k l n f (by omega)
  rcases hk' with rfl | rfl | rfl
  all_goals
    rcases hw with ⟨g1, HM⟩ | ⟨g1, HM⟩ | ⟨g0, g1, g2, HM⟩ | ⟨g1, g2, g3, ⟨g4, HM⟩ | ⟨g4, HM⟩ | ⟨g4, g5, g6, g7, g8, HM⟩ | ⟨g4, g5, HM⟩ | ⟨g4, g5, g6, g7, ⟨g8, HM⟩ | ⟨g8, g9, HM⟩ | ⟨g8, g9, HM⟩⟩⟩
    all_goals first
      | (exfalso; omega)
      | (go_enter Tryz.func125, Tryz.ntmps125; go_wp2; go_ret; exact ⟨ret_bool HM.out.symm, (Keep.refl _ _).alloc _⟩)
end Go.Proofs.YtlfijfodklhplaaGreat
