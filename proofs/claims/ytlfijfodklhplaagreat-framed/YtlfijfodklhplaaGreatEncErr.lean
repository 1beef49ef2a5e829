/- What Encode refuses; Decode of nil. -/
import Derived.Test.YtlfijfodklhplaaGreatArbor
namespace Go.Proofs.YtlfijfodklhplaaGreat
open Go.RowKit
set_option linter.unusedVariables false

set_option maxRecDepth 100000 in
set_option maxHeartbeats 1000000 in
theorem encode_nine (d : Bool) (s k l n : Int) (f : Bool) (h : s < 0 ∨ 65535 < s) (w : World) :
    Calls Tryz.prog 124 #[.agg (fc d s k l n f)] w fun e w' => e = .returned (.tuple #[.slice none 0 0, .int .i64 9]) ∧ Keep nil w w' := by
  rcases h with h | h
  · go_enter Tryz.func124, Tryz.ntmps124
    go_wp2
    go_ret2
    exact ⟨rfl, (Keep.refl _ _).alloc _⟩
  · have h' : ¬ s < 0 := by omega
    go_enter Tryz.func124, Tryz.ntmps124
    go_wp2
    go_ret2
    exact ⟨rfl, (Keep.refl _ _).alloc _⟩

set_option maxRecDepth 100000 in
set_option maxHeartbeats 1000000 in
theorem encode_ten_data (s k l n : Int) (f : Bool) (h0 : 0 ≤ s) (h1 : s ≤ 65535) (hm : may k l n f = false) (w : World) :
    Calls Tryz.prog 124 #[.agg (fc true s k l n f)] w fun e w' => e = .returned (.tuple #[.slice none 0 0, .int .i64 10]) ∧ Keep nil w w' := by
  go_enter Tryz.func124, Tryz.ntmps124
  go_wp2_with fail
  refine (fits_data s k l n f _).mono ?_
  rintro e w1 ⟨rfl, hk1⟩
  go_wp2
  go_ret2
  exact ⟨rfl, ((Keep.refl _ _).alloc _).trans hk1⟩

set_option maxRecDepth 100000 in
set_option maxHeartbeats 1000000 in
theorem encode_ten_ack (s k l n : Int) (f : Bool) (h0 : 0 ≤ s) (h1 : s ≤ 65535) (hm : noMsg k l n f = false) (w : World) :
    Calls Tryz.prog 124 #[.agg (fc false s k l n f)] w fun e w' => e = .returned (.tuple #[.slice none 0 0, .int .i64 10]) ∧ Keep nil w w' := by
  go_enter Tryz.func124, Tryz.ntmps124
  go_wp2_with fail
  refine (fits_ack s k l n f _).mono ?_
  rintro e w1 ⟨rfl, hk1⟩
  go_wp2
  go_ret2
  exact ⟨rfl, ((Keep.refl _ _).alloc _).trans hk1⟩

/-- What Encode answers beside bytes. -/
def encErr (d : Bool) (s k l n : Int) (f : Bool) : Int := if s < 0 ∨ 65535 < s then 9 else if (d = true ∧ may k l n f = true) ∨ (d = false ∧ noMsg k l n f = true) then 0 else 10
theorem encErr_nine {d : Bool} {s k l n : Int} {f : Bool} (h : s < 0 ∨ 65535 < s) : encErr d s k l n f = 9 := by unfold encErr; rw [if_pos h]
theorem encErr_ten {d : Bool} {s k l n : Int} {f : Bool} (h : ¬ (s < 0 ∨ 65535 < s)) (h' : ¬ ((d = true ∧ may k l n f = true) ∨ (d = false ∧ noMsg k l n f = true))) : encErr d s k l n f = 10 := by unfold encErr; rw [if_neg h, if_neg h']

theorem encode_err (d : Bool) (s k l n : Int) (f : Bool) (h : encErr d s k l n f ≠ 0) (w : World) :
    Calls Tryz.prog 124 #[.agg (fc d s k l n f)] w fun e w' => e = .returned (.tuple #[.slice none 0 0, .int .i64 (encErr d s k l n f)]) ∧ Keep nil w w' := by
  by_cases h1 : s < 0 ∨ 65535 < s
  · rw [encErr_nine h1]; exact encode_nine d s k l n f h1 w
  · by_cases h2 : (d = true ∧ may k l n f = true) ∨ (d = false ∧ noMsg k l n f = true)
    · exact absurd (by unfold encErr; rw [if_neg h1, if_pos h2]) h
    · rw [encErr_ten h1 h2]
      have a0 : 0 ≤ s := by omega
      have a1 : s ≤ 65535 := by omega
      cases d
      · exact encode_ten_ack s k l n f a0 a1 (by cases hh : noMsg k l n f; rfl; exact absurd (Or.inr ⟨rfl, hh⟩) h2) w
      · exact encode_ten_data s k l n f a0 a1 (by cases hh : may k l n f; rfl; exact absurd (Or.inl ⟨rfl, hh⟩) h2) w

set_option maxHeartbeats 1000000 in
theorem arborEncode_err (d : Bool) (s k l n : Int) (f : Bool) (h : encErr d s k l n f ≠ 0) (w : World) :
    Calls Tryz.prog 76 #[.agg (fc d s k l n f)] w fun e w' => e = .returned (.tuple #[.slice none 0 0, .int .i64 (encErr d s k l n f)]) ∧ Keep nil w w' := by
  go_enter Tryz.func76, Tryz.ntmps76
  go_wp2_with fail
  refine (encode_err d s k l n f h _).mono ?_
  rintro e w1 ⟨rfl, hk⟩
  go_wp2
  go_ret2
  exact ⟨rfl, ((Keep.refl _ _).alloc _).trans hk⟩

/-- Where Encode refuses nothing, the frame is one that may be. -/
theorem frame_of {d : Bool} {s k l n : Int} {f : Bool} (h : encErr d s k l n f = 0) : ∃ fr : Fr.Frm, FrOk fr ∧ fv fr = fc d s k l n f := by
  unfold encErr at h
  by_cases h1 : s < 0 ∨ 65535 < s
  · rw [if_pos h1] at h; omega
  · rw [if_neg h1] at h
    by_cases h2 : (d = true ∧ may k l n f = true) ∨ (d = false ∧ noMsg k l n f = true)
    · obtain ⟨S, rfl⟩ := Int.eq_ofNat_of_zero_le (show 0 ≤ s by omega)
      rcases h2 with ⟨rfl, hm⟩ | ⟨rfl, hm⟩
      · have hm' := hm
        simp only [may, decide_eq_true_eq] at hm'
        obtain ⟨⟨a1, a2⟩, a3, a4, a5, a6, a7⟩ := hm'
        have bl : bL k ≤ 9 := by unfold bL; split <;> omega
        have b0 : 0 ≤ bm k := by unfold bm; split <;> omega
        have b1 : bM k ≤ 1000 := by unfold bM; split <;> omega
        obtain ⟨K, rfl⟩ := Int.eq_ofNat_of_zero_le (show 0 ≤ k by omega)
        obtain ⟨L, rfl⟩ := Int.eq_ofNat_of_zero_le (show 0 ≤ l by omega)
        obtain ⟨N, rfl⟩ := Int.eq_ofNat_of_zero_le (show 0 ≤ n by omega)
        exact ⟨⟨true, S, ⟨K, L, N, f⟩⟩, ⟨by show S < 65536; omega, Or.inl ⟨rfl, by show K < 256; omega, by show L < 256; omega, by show N < 65536; omega, hm⟩⟩, rfl⟩
      · simp only [noMsg, Bool.and_eq_true, beq_iff_eq] at hm
        obtain ⟨rfl, rfl, rfl, rfl⟩ := hm
        exact ⟨⟨false, S, Fr.none0⟩, ⟨by show S < 65536; omega, Or.inr ⟨rfl, rfl⟩⟩, rfl⟩
    · rw [if_neg h2] at h; omega
end Go.Proofs.YtlfijfodklhplaaGreat
