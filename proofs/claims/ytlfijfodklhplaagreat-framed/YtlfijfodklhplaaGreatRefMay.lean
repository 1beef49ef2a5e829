/- Walk of the document's 'may a message be'. -/
import Derived.Test.YtlfijfodklhplaaGreatMay
namespace Go.Proofs.YtlfijfodklhplaaGreat
open Go.RowKit
set_option linter.unusedVariables false

theorem ref_ways (k l n : Int) (f : Bool) (hk : 1 ≤ k ∧ k ≤ 7) :
    (l < 0 ∧ Hid (may k l n f = false)) ∨ (9 < l ∧ Hid (may k l n f = false)) ∨ (3 < k ∧ 0 < l ∧ l ≤ 9 ∧ Hid (may k l n f = false)) ∨
    (0 ≤ l ∧ l ≤ 9 ∧ (3 < k → l = 0) ∧
      ((n < 0 ∧ Hid (may k l n f = false)) ∨ (1000 < n ∧ Hid (may k l n f = false)) ∨ (k ≠ 2 ∧ k ≠ 3 ∧ k ≠ 6 ∧ 0 < n ∧ n ≤ 1000 ∧ Hid (may k l n f = false)) ∨ (k = 2 ∧ n = 0 ∧ Hid (may k l n f = false)) ∨
        (0 ≤ n ∧ n ≤ 1000 ∧ (k ≠ 2 → k ≠ 3 → k ≠ 6 → n = 0) ∧ (k = 2 → 0 < n) ∧ ((f = false ∧ Hid (may k l n f = true)) ∨ (f = true ∧ k = 2 ∧ Hid (may k l n f = true)) ∨ (f = true ∧ k ≠ 2 ∧ Hid (may k l n f = false)))))) := by
  have no : ∀ b : Bool, (b = true → False) → b = false := fun b h => by cases b; rfl; exact (h rfl).elim
  have lo : ∀ p : Prop, (may k l n f = true → p) → (¬ p) → Hid (may k l n f = false) := fun p h hp => no _ (fun e => hp (h e))
  have ex : may k l n f = true → (0 ≤ l ∧ l ≤ bL k ∧ bm k ≤ n ∧ n ≤ bM k ∧ (f = true → k = 2)) := fun h => by
    simp only [may, decide_eq_true_eq] at h; exact h.2
  have yes : 0 ≤ l → l ≤ bL k → bm k ≤ n → n ≤ bM k → (f = true → k = 2) → Hid (may k l n f = true) := fun a b c d e => by
    show may k l n f = true
    simp only [may, decide_eq_true_eq]; exact ⟨hk, a, b, c, d, e⟩
  have eL : bL k = if k ≤ 3 then 9 else 0 := by unfold bL; split <;> split <;> omega
  have em : bm k = if k = 2 then 1 else 0 := rfl
  have eM : bM k = if k = 2 ∨ k = 3 ∨ k = 6 then 1000 else 0 := rfl
  by_cases h1 : l < 0
  · exact Or.inl ⟨h1, lo _ (fun h => (ex h).1) (by omega)⟩
  by_cases h2 : 9 < l
  · exact Or.inr (Or.inl ⟨h2, lo _ (fun h => (ex h).2.1) (by rw [eL]; split <;> omega)⟩)
  by_cases h3 : 3 < k ∧ 0 < l
  · exact Or.inr (Or.inr (Or.inl ⟨h3.1, h3.2, by omega, lo _ (fun h => (ex h).2.1) (by rw [eL]; split <;> omega)⟩))
  have gl : l ≤ bL k := by rw [eL]; split <;> omega
  refine Or.inr (Or.inr (Or.inr ⟨by omega, by omega, fun _ => by omega, ?_⟩))
  by_cases h4 : n < 0
  · exact Or.inl ⟨h4, lo _ (fun h => (ex h).2.2.1) (by rw [em]; split <;> omega)⟩
  by_cases h5 : 1000 < n
  · exact Or.inr (Or.inl ⟨h5, lo _ (fun h => (ex h).2.2.2.1) (by rw [eM]; split <;> omega)⟩)
  by_cases h6 : k ≠ 2 ∧ k ≠ 3 ∧ k ≠ 6 ∧ 0 < n
  · exact Or.inr (Or.inr (Or.inl ⟨h6.1, h6.2.1, h6.2.2.1, h6.2.2.2, by omega, lo _ (fun h => (ex h).2.2.2.1) (by rw [eM, if_neg (by omega)]; omega)⟩))
  by_cases h7 : k = 2 ∧ n = 0
  · exact Or.inr (Or.inr (Or.inr (Or.inl ⟨h7.1, h7.2, lo _ (fun h => (ex h).2.2.1) (by rw [em, if_pos h7.1]; omega)⟩)))
  have gm : bm k ≤ n := by rw [em]; split <;> omega
  have gM : n ≤ bM k := by rw [eM]; split <;> omega
  refine Or.inr (Or.inr (Or.inr (Or.inr ⟨by omega, by omega, fun a b c => by omega, fun a => by omega, ?_⟩)))
  cases f
  · exact Or.inl ⟨rfl, yes (by omega) gl gm gM (fun e => by cases e)⟩
  · by_cases h8 : k = 2
    · exact Or.inr (Or.inl ⟨rfl, h8, yes (by omega) gl gm gM (fun _ => h8)⟩)
    · exact Or.inr (Or.inr ⟨rfl, h8, lo _ (fun h => (ex h).2.2.2.2 rfl) h8⟩)

end Go.Proofs.YtlfijfodklhplaaGreat
