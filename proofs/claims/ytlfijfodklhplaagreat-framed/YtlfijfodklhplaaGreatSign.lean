/- Walk of sign: what the owner of a list writes. -/
import Derived.Test.YtlfijfodklhplaaGreatLeaf
namespace Go.Proofs.YtlfijfodklhplaaGreat
open Go.RowKit
set_option linter.unusedVariables false

def sgn (i k : Nat) : Nat := if k % 3 = 0 then i % 256 else if k % 3 = 1 then i / 256 % 256 else 201
theorem sgn_lt (i k : Nat) : sgn i k < 256 := by unfold sgn; split; omega; split <;> omega

set_option maxRecDepth 100000 in
set_option maxHeartbeats 1000000 in
theorem sign_any (i k : Nat) (hi : (i : Int) < 4611686018427387904) (hk : (k : Int) < 4611686018427387904) (w : World) :
    Calls Tryz.prog 47 #[.int .i64 (i : Int), .int .i64 (k : Int)] w fun e w' => e = .returned (.int .u8 ((sgn i k : Nat) : Int)) ∧ w = w' := by
  have h3 : k % 3 = 0 ∨ k % 3 = 1 ∨ k % 3 = 2 := by omega
  rcases h3 with h | h | h
  · have HS : Hid (IntKind.u8.wrap (i : Int) = ((sgn i k : Nat) : Int)) := by
      show IntKind.u8.wrap (i : Int) = _
      rw [IntKind.wrap_u8', sgn, if_pos h]; omega
    have h0 : (((k : Int) % 3) == 0) = true := by rw [beq_iff_eq]; omega
    clear h
    go_enter Tryz.func47, Tryz.ntmps47
    go_wp2
    go_ret
    exact ⟨ret_int HS.out, rfl⟩
  · have HS : Hid (IntKind.u8.wrap ((i : Int) / 256) = ((sgn i k : Nat) : Int)) := by
      show IntKind.u8.wrap ((i : Int) / 256) = _
      rw [IntKind.wrap_u8', sgn, if_neg (by omega), if_pos h]; omega
    have h0 : (((k : Int) % 3) == 0) = false := by rw [beq_eq_false_iff_ne]; omega
    have h1 : (((k : Int) % 3) == 1) = true := by rw [beq_iff_eq]; omega
    clear h
    go_enter Tryz.func47, Tryz.ntmps47
    go_wp2
    go_ret
    exact ⟨ret_int HS.out, rfl⟩
  · have HS : Hid ((201 : Int) = ((sgn i k : Nat) : Int)) := by
      show (201 : Int) = _
      rw [sgn, if_neg (by omega), if_neg (by omega)]; rfl
    have h0 : (((k : Int) % 3) == 0) = false := by rw [beq_eq_false_iff_ne]; omega
    have h1 : (((k : Int) % 3) == 1) = false := by rw [beq_eq_false_iff_ne]; omega
    clear h
    go_enter Tryz.func47, Tryz.ntmps47
    go_wp2
    go_ret
    exact ⟨ret_int HS.out, rfl⟩
end Go.Proofs.YtlfijfodklhplaaGreat
