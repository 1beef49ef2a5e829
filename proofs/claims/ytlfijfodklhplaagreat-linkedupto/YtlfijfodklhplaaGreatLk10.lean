import Derived.Test.YtlfijfodklhplaaGreatLk01
import Derived.Test.YtlfijfodklhplaaGreatLk02
/- Walk of the document's check number. -/
namespace Go.Proofs.YtlfijfodklhplaaGreat
open Go.RowKit
set_option linter.unusedVariables false

theorem i64_xor_nat (a b : Nat) (ha : a < 65536) (hb : b < 65536) : bits .xor .i64 (a : Int) (b : Int) = ((a ^^^ b : Nat) : Int) := by
  have hx := Fr.xor_lt ha hb
  show IntKind.i64.wrap ((BitVec.ofInt 64 (a : Int) ^^^ BitVec.ofInt 64 (b : Int)).toNat : Int) = _
  rw [BitVec.toNat_xor, ofInt_u64 _ (by omega), ofInt_u64 _ (by omega), IntKind.wrap_i64]
  omega
theorem ref_byte (c x : Nat) (hc : c < 65536) (hx : x < 256) : bits .xor .i64 (c : Int) (256 * (x : Int)) = ((c ^^^ (x * 256) : Nat) : Int) := by
  have e : (256 * (x : Int)) = ((x * 256 : Nat) : Int) := by omega
  rw [e]
  exact i64_xor_nat c (x * 256) hc (by omega)
theorem ref_hi (n : Nat) (h : 32768 ≤ n) : bits .xor .i64 ((2 * (n : Int)) % 65536) 4129 = ((Fr.step n : Nat) : Int) := by
  have e : ((2 * (n : Int)) % 65536) = ((n * 2 % 65536 : Nat) : Int) := by omega
  rw [e]
  have := i64_xor_nat (n * 2 % 65536) 4129 (by omega) (by omega)
  simp only [Fr.step, if_pos h]
  exact this
theorem ref_lo (n : Nat) (h : n < 32768) : (2 * (n : Int)) % 65536 = ((Fr.step n : Nat) : Int) := by
  simp only [Fr.step, if_neg (by omega : ¬ 32768 ≤ n)]; omega
theorem rcrc_take (l : List Nat) (k : Nat) (hk : k < l.length) : Fr.crc (l.take (k + 1)) = Fr.steps 8 (Fr.crc (l.take k) ^^^ (l[k] * 256)) := by
  rw [List.take_succ_eq_append_getElem hk, Fr.crc_snoc]; rfl
theorem rtake_byte {l : List Nat} (h : ∀ x ∈ l, x < 256) (k : Nat) : ∀ x ∈ l.take k, x < 256 := fun x hx => h x (List.mem_of_mem_take hx)

set_option maxHeartbeats 1000000 in
theorem refcheck_any (bb bo cap : Nat) (l : List Nat) (w : World) (hrow : Row w bb bo l) (hlen : l.length < 140737488355328) (hb : ∀ x ∈ l, x < 256) :
    Calls Tryz.prog 126 #[.slice (some ⟨bb, bo, none⟩) l.length cap] w fun e w' => e = .returned (.int .i64 ((Fr.crc l : Nat) : Int)) ∧ w = w' := by
  go_enter Tryz.func126, Tryz.ntmps126
  go_wp2
  go_loop [3, 4] (fun n i => ∃ k : Nat, k ≤ l.length ∧ i = .int .i64 (k : Int) ∧ n = .int .i64 ((Fr.crc (l.take k) : Nat) : Int)) (fun _ i => l.length - (intOf i).toNat)
  case atStart => exact ⟨0, Nat.zero_le _, rfl, rfl⟩
  case round =>
    obtain ⟨k, hk, rfl, rfl⟩ := hrel
    by_cases hlt : k < l.length
    · have hx := hb _ (List.getElem_mem hlt)
      have hc := Fr.crc_lt (l.take k) (rtake_byte hb k)
      have hcell := hrow k hlt
      have HS : Hid (Fr.crc (l.take (k + 1)) = Fr.steps 8 (Fr.crc (l.take k) ^^^ (l[k] * 256))) := rcrc_take l k hlt
      have HX : Hid (bits .xor .i64 ((Fr.crc (l.take k) : Nat) : Int) (256 * (l[k] : Int)) = ((Fr.crc (l.take k) ^^^ (l[k] * 256) : Nat) : Int)) := ref_byte _ _ hc hx
      have h16 : Fr.crc (l.take k) ^^^ (l[k] * 256) < 65536 := Fr.xor_lt hc (by omega)
      generalize Fr.crc (l.take k) = c at *
      go_wp2_with fail
      rw [HX.out]
      clear HX hcell hrow hb
      generalize c ^^^ (l[k] * 256) = q at *
      go_loop [3, 5] (fun n j => ∃ m : Nat, m ≤ 8 ∧ j = .int .i64 (m : Int) ∧ n = .int .i64 ((Fr.steps m q : Nat) : Int)) (fun _ j => 8 - (intOf j).toNat)
      case atStart => exact ⟨0, Nat.zero_le _, rfl, rfl⟩
      case round =>
        obtain ⟨m, hm, rfl, rfl⟩ := hrel
        have hq := Fr.steps_lt h16 m
        by_cases hm8 : m < 8
        · have HQ : Hid (Fr.steps (m + 1) q = Fr.step (Fr.steps m q)) := rfl
          generalize Fr.steps m q = p at *
          have hp1 : (p : Int) < 65536 := by omega
          by_cases hp : 32768 ≤ p
          · have HP : Hid (bits .xor .i64 ((2 * (p : Int)) % 65536) 4129 = ((Fr.step p : Nat) : Int)) := ref_hi p hp
            have hp2 : (32768 : Int) ≤ (p : Int) := by omega
            have hp0 : 0 ≤ (p : Int) := by omega
            clear hp hq h16
            generalize (p : Int) = P at *
            go_wp2
            go_round
            case rel => exact ⟨m + 1, by omega, by go_num, by rw [HQ.out, ← HP.out]⟩
            case measure => simp [intOf]; omega
          · have HP : Hid ((2 * (p : Int)) % 65536 = ((Fr.step p : Nat) : Int)) := ref_lo p (by omega)
            have hp2 : (p : Int) < 32768 := by omega
            have hp0 : 0 ≤ (p : Int) := by omega
            clear hp hq h16
            generalize (p : Int) = P at *
            go_wp2
            go_round
            case rel => exact ⟨m + 1, by omega, by go_num, by rw [HQ.out, ← HP.out]⟩
            case measure => simp [intOf]; omega
        · have e8 : m = 8 := by omega
          subst e8
          go_wp2
          go_round
          case rel => exact ⟨k + 1, by omega, by go_num, by rw [HS.out]⟩
          case measure => simp [intOf]; omega
    · go_wp2
      go_ret
      exact ⟨ret_int (by rw [List.take_of_length_le (by omega)]), rfl⟩
end Go.Proofs.YtlfijfodklhplaaGreat
/- Walk of the document's 'may a message be'. -/
namespace Go.Proofs.YtlfijfodklhplaaGreat
open Go.RowKit
set_option linter.unusedVariables false

theorem ref_ways (k l n : Int) (f : Bool) (hk : 1 ≤ k ∧ k ≤ 7) :
    (l < 0 ∧ Hid (may k l n f = false)) ∨ (9 < l ∧ Hid (may k l n f = false)) ∨ (3 < k ∧ 0 < l ∧ l ≤ 9 ∧ Hid (may k l n f = false)) ∨
    (0 ≤ l ∧ l ≤ 9 ∧ (3 < k → l = 0) ∧
      ((n < 0 ∧ Hid (may k l n f = false)) ∨ (1000 < n ∧ Hid (may k l n f = false)) ∨ (k ≠ 2 ∧ k ≠ 3 ∧ k ≠ 6 ∧ 0 < n ∧ n ≤ 1000 ∧ Hid (may k l n f = false)) ∨ (k = 2 ∧ n = 0 ∧ Hid (may k l n f = false)) ∨
        (0 ≤ n ∧ n ≤ 1000 ∧ (k ≠ 2 → k ≠ 3 → k ≠ 6 → n = 0) ∧ (k = 2 → 0 < n) ∧ ((f = false ∧ Hid (may k l n f = true)) ∨ (f = true ∧ k = 2 ∧ Hid (may k l n f = true)) ∨ (f = true ∧ k ≠ 2 ∧ Hid (may k l n f = false)))))) := by
  have no : ∀ b : Bool, (b = true → False) → b = false := fun b h => by cases b; rfl; exact (h rfl).elim
  have lo : ∀ p : Prop, (may k l n f = true → p) → (¬ p) → Hid (may k l n f = false) := fun p h hp => no _ (fun e => hp (h e))
  have ex : may k l n f = true → (0 ≤ l ∧ l ≤ bL k ∧ bm k ≤ n ∧ n ≤ bM k ∧ (f = true → k = 2)) := fun h => by
    simp only [may, decide_eq_true_eq] at h; exact h.2
  have yes : 0 ≤ l → l ≤ bL k → bm k ≤ n → n ≤ bM k → (f = true → k = 2) → Hid (may k l n f = true) := fun a b c d e => by
    show may k l n f = true
    simp only [may, decide_eq_true_eq]; exact ⟨hk, a, b, c, d, e⟩
  have eL : bL k = if k ≤ 3 then 9 else 0 := by unfold bL; split <;> split <;> omega
  have em : bm k = if k = 2 then 1 else 0 := rfl
  have eM : bM k = if k = 2 ∨ k = 3 ∨ k = 6 then 1000 else 0 := rfl
  by_cases h1 : l < 0
  · exact Or.inl ⟨h1, lo _ (fun h => (ex h).1) (by omega)⟩
  by_cases h2 : 9 < l
  · exact Or.inr (Or.inl ⟨h2, lo _ (fun h => (ex h).2.1) (by rw [eL]; split <;> omega)⟩)
  by_cases h3 : 3 < k ∧ 0 < l
  · exact Or.inr (Or.inr (Or.inl ⟨h3.1, h3.2, by omega, lo _ (fun h => (ex h).2.1) (by rw [eL]; split <;> omega)⟩))
  have gl : l ≤ bL k := by rw [eL]; split <;> omega
  refine Or.inr (Or.inr (Or.inr ⟨by omega, by omega, fun _ => by omega, ?_⟩))
  by_cases h4 : n < 0
  · exact Or.inl ⟨h4, lo _ (fun h => (ex h).2.2.1) (by rw [em]; split <;> omega)⟩
  by_cases h5 : 1000 < n
  · exact Or.inr (Or.inl ⟨h5, lo _ (fun h => (ex h).2.2.2.1) (by rw [eM]; split <;> omega)⟩)
  by_cases h6 : k ≠ 2 ∧ k ≠ 3 ∧ k ≠ 6 ∧ 0 < n
  · exact Or.inr (Or.inr (Or.inl ⟨h6.1, h6.2.1, h6.2.2.1, h6.2.2.2, by omega, lo _ (fun h => (ex h).2.2.2.1) (by rw [eM, if_neg (by omega)]; omega)⟩))
  by_cases h7 : k = 2 ∧ n = 0
  · exact Or.inr (Or.inr (Or.inr (Or.inl ⟨h7.1, h7.2, lo _ (fun h => (ex h).2.2.1) (by rw [em, if_pos h7.1]; omega)⟩)))
  have gm : bm k ≤ n := by rw [em]; split <;> omega
  have gM : n ≤ bM k := by rw [eM]; split <;> omega
  refine Or.inr (Or.inr (Or.inr (Or.inr ⟨by omega, by omega, fun a b c => by omega, fun a => by omega, ?_⟩)))
  cases f
  · exact Or.inl ⟨rfl, yes (by omega) gl gm gM (fun e => by cases e)⟩
  · by_cases h8 : k = 2
    · exact Or.inr (Or.inl ⟨rfl, h8, yes (by omega) gl gm gM (fun _ => h8)⟩)
    · exact Or.inr (Or.inr ⟨rfl, h8, lo _ (fun h => (ex h).2.2.2.2 rfl) h8⟩)

end Go.Proofs.YtlfijfodklhplaaGreat
