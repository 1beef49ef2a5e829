/- Walk of checkNumber. -/
import Derived.Test.YtlfijfodklhplaaGreatLeaf
namespace Go.Proofs.YtlfijfodklhplaaGreat
open Go.RowKit
set_option linter.unusedVariables false

theorem first_byte (c x : Nat) (hc : c < 65536) (hx : x < 256) : bits .xor .u16 (c : Int) ((x : Int) * 256) = ((c ^^^ (x * 256) : Nat) : Int) := by
  have e : ((x : Int) * 256) = ((x * 256 : Nat) : Int) := by omega
  rw [e]
  exact u16_xor_nat c (x * 256) hc (by omega)
theorem crc_take (l : List Nat) (k : Nat) (hk : k < l.length) : Fr.crc (l.take (k + 1)) = Fr.steps 8 (Fr.crc (l.take k) ^^^ (l[k] * 256)) := by
  rw [List.take_succ_eq_append_getElem hk, Fr.crc_snoc]; rfl
theorem take_byte {l : List Nat} (h : ∀ x ∈ l, x < 256) (k : Nat) : ∀ x ∈ l.take k, x < 256 := fun x hx => h x (List.mem_of_mem_take hx)

set_option maxHeartbeats 1000000 in
theorem checkNumber_any (bb bo cap : Nat) (l : List Nat) (w : World) (hrow : Row w bb bo l) (hlen : l.length < 140737488355328) (hb : ∀ x ∈ l, x < 256) :
    Calls Tryz.prog 179 #[.slice (some ⟨bb, bo, none⟩) l.length cap] w fun e w' => e = .returned (.int .u16 ((Fr.crc l : Nat) : Int)) ∧ w' = w := by
  go_enter Tryz.func179, Tryz.ntmps179
  go_wp2
  go_loop [3, 8] (fun n i => ∃ k : Nat, k ≤ l.length ∧ i = .int .i64 (k : Int) ∧ n = .int .u16 ((Fr.crc (l.take k) : Nat) : Int)) (fun _ i => l.length - (intOf i).toNat)
  case atStart => exact ⟨0, Nat.zero_le _, rfl, rfl⟩
  case round =>
    obtain ⟨k, hk, rfl, rfl⟩ := hrel
    by_cases hlt : k < l.length
    · have hx := hb _ (List.getElem_mem hlt)
      have hc := Fr.crc_lt (l.take k) (take_byte hb k)
      have hcell := hrow k hlt
      have HS : Hid (Fr.crc (l.take (k + 1)) = Fr.steps 8 (Fr.crc (l.take k) ^^^ (l[k] * 256))) := crc_take l k hlt
      have HX : Hid (bits .xor .u16 ((Fr.crc (l.take k) : Nat) : Int) ((l[k] : Int) * 256) = ((Fr.crc (l.take k) ^^^ (l[k] * 256) : Nat) : Int)) := first_byte _ _ hc hx
      have h16 : Fr.crc (l.take k) ^^^ (l[k] * 256) < 65536 := Fr.xor_lt hc (by omega)
      generalize Fr.crc (l.take k) = c at *
      go_wp2_with fail
      rw [HX.out]
      clear HX hcell hrow hb
      generalize c ^^^ (l[k] * 256) = q at *
      go_loop [3, 17] (fun n j => ∃ m : Nat, m ≤ 8 ∧ j = .int .i64 (m : Int) ∧ n = .int .u16 ((Fr.steps m q : Nat) : Int)) (fun _ j => 8 - (intOf j).toNat)
      case atStart => exact ⟨0, Nat.zero_le _, rfl, rfl⟩
      case round =>
        obtain ⟨m, hm, rfl, rfl⟩ := hrel
        have hq := Fr.steps_lt h16 m
        by_cases hm8 : m < 8
        · have HQ : Hid (Fr.steps (m + 1) q = Fr.step (Fr.steps m q)) := rfl
          generalize Fr.steps m q = p at *
          go_wp2_with fail
          refine (checkStep_any p hq _).mono ?_
          rintro e w1 ⟨rfl, rfl⟩
          go_wp2
          go_round
          case rel => exact ⟨m + 1, by omega, by go_num, by rw [HQ.out]⟩
          case measure => simp [intOf]; omega
        · have e8 : m = 8 := by omega
          subst e8
          go_wp2
          go_round
          case rel => exact ⟨k + 1, by omega, by go_num, by rw [HS.out]⟩
          case measure => simp [intOf]; omega
    · go_wp2
      go_ret
      exact ⟨ret_int (by rw [List.take_of_length_le (by omega)]), rfl⟩
end Go.Proofs.YtlfijfodklhplaaGreat
