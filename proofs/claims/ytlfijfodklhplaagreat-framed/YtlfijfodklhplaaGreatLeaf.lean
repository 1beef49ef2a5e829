/- Walks of the small functions: checkStep, must, pick. -/
import Derived.Test.YtlfijfodklhplaaGreatRows
import Derived.Test.YtlfijfodklhplaaGreatKit
import Derived.Test.YtlfijfodklhplaaGreatMath
namespace Go.Proofs.YtlfijfodklhplaaGreat
open Go.RowKit
set_option linter.unusedVariables false

/-- What the reader panics with. -/
def noFrame : List PanicEntry := [{ v := .iface 279 (.agg #[]), recovered := false }]

theorem step_hi (n : Nat) (h : 32768 ≤ n) : bits .xor .u16 (IntKind.u16.wrap ((n : Int) * 2)) 4129 = ((Fr.step n : Nat) : Int) := by
  have e : IntKind.u16.wrap ((n : Int) * 2) = ((n * 2 % 65536 : Nat) : Int) := by rw [IntKind.wrap_u16]; omega
  rw [e]
  have := u16_xor_nat (n * 2 % 65536) 4129 (by omega) (by omega)
  simp only [Fr.step, if_pos h]
  exact this
theorem step_lo (n : Nat) (h : n < 32768) : (n : Int) * 2 = ((Fr.step n : Nat) : Int) := by
  simp only [Fr.step, if_neg (by omega : ¬ 32768 ≤ n)]; omega
theorem ret_bool {a b : Bool} (h : a = b) : Ending.returned (.bool a) = .returned (.bool b) := by rw [h]
theorem ret_int {k : IntKind} {a b : Int} (h : a = b) : Ending.returned (.int k a) = .returned (.int k b) := by rw [h]

set_option maxHeartbeats 400000 in
theorem checkStep_hi (n : Int) (h : 32768 ≤ n) (h1 : n < 65536) (w : World) :
    Calls Tryz.prog 208 #[.int .u16 n] w fun e w' => e = .returned (.int .u16 (bits .xor .u16 (IntKind.u16.wrap (n * 2)) 4129)) ∧ w' = w := by
  go_enter Tryz.func208, Tryz.ntmps208
  go_wp2
  go_ret
  exact ⟨rfl, rfl⟩
set_option maxHeartbeats 400000 in
theorem checkStep_lo (n : Int) (h0 : 0 ≤ n) (h : n < 32768) (w : World) :
    Calls Tryz.prog 208 #[.int .u16 n] w fun e w' => e = .returned (.int .u16 (n * 2)) ∧ w' = w := by
  go_enter Tryz.func208, Tryz.ntmps208
  go_wp2
  go_ret
  exact ⟨rfl, rfl⟩
theorem checkStep_any (n : Nat) (h1 : n < 65536) (w : World) :
    Calls Tryz.prog 208 #[.int .u16 (n : Int)] w fun e w' => e = .returned (.int .u16 ((Fr.step n : Nat) : Int)) ∧ w' = w := by
  by_cases h : 32768 ≤ n
  · rw [← step_hi n h]; exact checkStep_hi _ (by omega) (by omega) w
  · rw [← step_lo n (by omega)]; exact checkStep_lo _ (by omega) (by omega) w

theorem must_yes (w : World) :
    Calls Tryz.prog 210 #[.bool true] w fun e w' => e = .returned (.tuple #[]) ∧ w' = w := by
  go_enter Tryz.func210, Tryz.ntmps210
  go_wp2
  go_end0
  exact ⟨rfl, rfl⟩

theorem must_no (w : World) :
    Calls Tryz.prog 210 #[.bool false] w fun e w' => e = .panicked noFrame ∧ w' = w := by
  go_enter Tryz.func210, Tryz.ntmps210
  go_wp2
  exact ⟨rfl, rfl, rfl⟩

set_option maxHeartbeats 400000 in
theorem pick_any (c n : Int) (h0 : -9223372036854775808 ≤ c) (h1 : c ≤ 9223372036854775807) (h2 : 0 < n) (h3 : n < 4294967296) (w : World) :
    Calls Tryz.prog 12 #[.int .i64 c, .int .i64 n] w fun e w' => ∃ z : Nat, e = .returned (.int .i64 (z : Int)) ∧ (z : Int) < n ∧ w = w' := by
  by_cases hc : c < 0
  · go_enter Tryz.func12, Tryz.ntmps12
    go_wp2
    go_ret
    have e : (-(c + 1)).tmod n = (-(c + 1)) % n := Int.tmod_eq_emod_of_nonneg (by omega)
    have z0 := Int.emod_nonneg (-(c + 1)) (show n ≠ 0 by omega)
    have z1 := Int.emod_lt_of_pos (-(c + 1)) h2
    refine ⟨((-(c + 1)) % n).toNat, ret_int ?_, by omega, rfl⟩
    rw [← Int.neg_tmod, e]; omega
  · go_enter Tryz.func12, Tryz.ntmps12
    go_wp2
    go_ret
    have z0 := Int.emod_nonneg c (show n ≠ 0 by omega)
    have z1 := Int.emod_lt_of_pos c h2
    exact ⟨(c % n).toNat, ret_int (by omega), by omega, rfl⟩
end Go.Proofs.YtlfijfodklhplaaGreat
