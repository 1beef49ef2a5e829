/- Walk of the document's check number. -/
import Derived.Test.YtlfijfodklhplaaGreatLeaf
namespace Go.Proofs.YtlfijfodklhplaaGreat
open Go.RowKit
set_option linter.unusedVariables false

theorem i64_xor_nat (a b : Nat) (ha : a < 65536) (hb : b < 65536) : bits .xor .i64 (a : Int) (b : Int) = ((a ^^^ b : Nat) : Int) := by
  have hx := Fr.xor_lt ha hb
  show IntKind.i64.wrap ((BitVec.ofInt 64 (a : Int) ^^^ BitVec.ofInt 64 (b : Int)).toNat : Int) = _
  rw [BitVec.toNat_xor, ofInt_u64 _ (by omega), ofInt_u64 _ (by omega), IntKind.wrap_i64]
  omega
theorem ref_byte (c x : Nat) (hc : c < 65536) (hx : x < 256) : bits .xor .i64 (c : Int) (256 * (x : Int)) = ((c ^^^ (x * 256) : Nat) : Int) := by
  have e : (256 * (x : Int)) = ((x * 256 : Nat) : Int) := by omega
  rw [e]
  exact i64_xor_nat c (x * 256) hc (by omega)
theorem ref_hi (n : Nat) (h : 32768 ≤ n) : bits .xor .i64 ((2 * (n : Int)) % 65536) 4129 = ((Fr.step n : Nat) : Int) := by
  have e : ((2 * (n : Int)) % 65536) = ((n * 2 % 65536 : Nat) : Int) := by omega
  rw [e]
  have := i64_xor_nat (n * 2 % 65536) 4129 (by omega) (by omega)
  simp only [Fr.step, if_pos h]
  exact this
theorem ref_lo (n : Nat) (h : n < 32768) : (2 * (n : Int)) % 65536 = ((Fr.step n : Nat) : Int) := by
  simp only [Fr.step, if_neg (by omega : ¬ 32768 ≤ n)]; omega
theorem rcrc_take (l : List Nat) (k : Nat) (hk : k < l.length) : Fr.crc (l.take (k + 1)) = Fr.steps 8 (Fr.crc (l.take k) ^^^ (l[k] * 256)) := by
  rw [List.take_succ_eq_append_getElem hk, Fr.crc_snoc]; rfl
theorem rtake_byte {l : List Nat} (h : ∀ x ∈ l, x < 256) (k : Nat) : ∀ x ∈ l.take k, x < 256 := fun x hx => h x (List.mem_of_mem_take hx)

set_option maxHeartbeats 1000000 in
theorem refcheck_any (bb bo cap : Nat) (l : List Nat) (w : World) (hrow : Row w bb bo l) (hlen : l.length < 140737488355328) (hb : ∀ x ∈ l, x < 256) :
    Calls Tryz.prog 126 #[.slice (some ⟨bb, bo, none⟩) l.length cap] w fun e w' => e = .returned (.int .i64 ((Fr.crc l : Nat) : Int)) ∧ w = w' := by
  go_enter Tryz.func126, Tryz.ntmps126
  go_wp2
  go_loop [3, 4] (fun n i => ∃ k : Nat, k ≤ l.length ∧ i = .int .i64 (k : Int) ∧ n = .int .i64 ((Fr.crc (l.take k) : Nat) : Int)) (fun _ i => l.length - (intOf i).toNat)
  case atStart => exact ⟨0, Nat.zero_le _, rfl, rfl⟩
  case round =>
    obtain ⟨k, hk, rfl, rfl⟩ := hrel
    by_cases hlt : k < l.length
    · have hx := hb _ (List.getElem_mem hlt)
      have hc := Fr.crc_lt (l.take k) (rtake_byte hb k)
      have hcell := hrow k hlt
      have HS : Hid (Fr.crc (l.take (k + 1)) = Fr.steps 8 (Fr.crc (l.take k) ^^^ (l[k] * 256))) := rcrc_take l k hlt
      have HX : Hid (bits .xor .i64 ((Fr.crc (l.take k) : Nat) : Int) (256 * (l[k] : Int)) = ((Fr.crc (l.take k) ^^^ (l[k] * 256) : Nat) : Int)) := ref_byte _ _ hc hx
      have h16 : Fr.crc (l.take k) ^^^ (l[k] * 256) < 65536 := Fr.xor_lt hc (by omega)
      generalize Fr.crc (l.take k) = c at *
      go_wp2_with fail
      rw [HX.out]
      clear HX hcell hrow hb
      generalize c ^^^ (l[k] * 256) = q at *
      go_loop [3, 5] (fun n j => ∃ m : Nat, m ≤ 8 ∧ j = .int .i64 (m : Int) ∧ n = .int .i64 ((Fr.steps m q : Nat) : Int)) (fun _ j => 8 - (intOf j).toNat)
      case atStart => exact ⟨0, Nat.zero_le _, rfl, rfl⟩
      case round =>
        obtain ⟨m, hm, rfl, rfl⟩ := hrel
        have hq := Fr.steps_lt h16 m
        by_cases hm8 : m < 8
        · have HQ : Hid (Fr.steps (m + 1) q = Fr.step (Fr.steps m q)) := rfl
          generalize Fr.steps m q = p at *
          have hp1 : (p : Int) < 65536 := by omega
          by_cases hp : 32768 ≤ p
          · have HP : Hid (bits .xor .i64 ((2 * (p : Int)) % 65536) 4129 = ((Fr.step p : Nat) : Int)) := ref_hi p hp
            have hp2 : (32768 : Int) ≤ (p : Int) := by omega
            have hp0 : 0 ≤ (p : Int) := by omega
            clear hp hq h16
            generalize (p : Int) = P at *
            go_wp2
            go_round
            case rel => exact ⟨m + 1, by omega, by go_num, by rw [HQ.out, ← HP.out]⟩
            case measure => simp [intOf]; omega
          · have HP : Hid ((2 * (p : Int)) % 65536 = ((Fr.step p : Nat) : Int)) := ref_lo p (by omega)
            have hp2 : (p : Int) < 32768 := by omega
            have hp0 : 0 ≤ (p : Int) := by omega
            clear hp hq h16
            generalize (p : Int) = P at *
            go_wp2
            go_round
            case rel => exact ⟨m + 1, by omega, by go_num, by rw [HQ.out, ← HP.out]⟩
            case measure => simp [intOf]; omega
        · have e8 : m = 8 := by omega
          subst e8
          go_wp2
          go_round
          case rel => exact ⟨k + 1, by omega, by go_num, by rw [HS.out]⟩
          case measure => simp [intOf]; omega
    · go_wp2
      go_ret
      exact ⟨ret_int (by rw [List.take_of_length_le (by omega)]), rfl⟩
end Go.Proofs.YtlfijfodklhplaaGreat
