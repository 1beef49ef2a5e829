/- Walks of boundsOf and mayBe. -/
import Derived.Test.YtlfijfodklhplaaGreatLeaf
namespace Go.Proofs.YtlfijfodklhplaaGreat
open Go.RowKit
set_option linter.unusedVariables false

def bL (k : Int) : Int := if k = 1 ∨ k = 2 ∨ k = 3 then 9 else 0
def bm (k : Int) : Int := if k = 2 then 1 else 0
def bM (k : Int) : Int := if k = 2 ∨ k = 3 ∨ k = 6 then 1000 else 0
def bF (k : Int) : Bool := decide (k = 2)
def bK (k : Int) : Bool := decide (1 ≤ k ∧ k ≤ 7)
/-- May a message be? -/
def may (k l n : Int) (f : Bool) : Bool := decide ((1 ≤ k ∧ k ≤ 7) ∧ 0 ≤ l ∧ l ≤ bL k ∧ bm k ≤ n ∧ n ≤ bM k ∧ (f = true → k = 2))

set_option maxHeartbeats 1000000 in
theorem boundsOf_any (k : Int) (w : World) :
    Calls Tryz.prog 192 #[.int .i64 k] w fun e w' => e = .returned (.tuple #[.agg #[.int .i64 (bL k), .int .i64 (bm k), .int .i64 (bM k), .bool (bF k)], .bool (bK k)]) ∧ Keep nil w w' := by
  by_cases h : 1 ≤ k ∧ k ≤ 7
  · have hk : k = 1 ∨ k = 2 ∨ k = 3 ∨ k = 4 ∨ k = 5 ∨ k = 6 ∨ k = 7 := by omega
    rcases hk with rfl | rfl | rfl | rfl | rfl | rfl | rfl
    all_goals
      go_enter Tryz.func192, Tryz.ntmps192
      go_wp2
      refine bodyPost_ret (v := .tuple #[.agg #[.int .i64 _, .int .i64 _, .int .i64 _, .bool _], .bool true]) (by simp [results, Tryz.results192, go_sem, bL, bm, bM, bF]) rfl ⟨rfl, (Keep.refl _ _).alloc _⟩
  · have h1 : (k == 1) = false := beq_eq_false_iff_ne.2 (by omega)
    have h2 : (k == 2) = false := beq_eq_false_iff_ne.2 (by omega)
    have h3 : (k == 3) = false := beq_eq_false_iff_ne.2 (by omega)
    have h4 : (k == 4) = false := beq_eq_false_iff_ne.2 (by omega)
    have h5 : (k == 5) = false := beq_eq_false_iff_ne.2 (by omega)
    have h6 : (k == 6) = false := beq_eq_false_iff_ne.2 (by omega)
    have h7 : (k == 7) = false := beq_eq_false_iff_ne.2 (by omega)
    have e1 : bL k = 0 := by unfold bL; rw [if_neg (by omega)]
    have e2 : bm k = 0 := by unfold bm; rw [if_neg (by omega)]
    have e3 : bM k = 0 := by unfold bM; rw [if_neg (by omega)]
    have e4 : bF k = false := by simp [bF]; omega
    have e5 : bK k = false := by simp [bK]; omega
    rw [e1, e2, e3, e4, e5]
    clear e1 e2 e3 e4 e5 h
    go_enter Tryz.func192, Tryz.ntmps192
    go_wp2
    refine bodyPost_ret (v := .tuple #[.agg #[.int .i64 0, .int .i64 0, .int .i64 0, .bool false], .bool false]) (by simp [results, Tryz.results192, go_sem]) rfl ⟨rfl, (Keep.refl _ _).alloc _⟩

theorem may_yes {k l n : Int} {f : Bool} (h1 : bK k = true) (h2 : 0 ≤ l) (h3 : l ≤ bL k) (h4 : bm k ≤ n) (h5 : n ≤ bM k) (h6 : f = true → bF k = true) : may k l n f = true := by
  simp only [bK, bF, decide_eq_true_eq] at h1 h6
  simp only [may, decide_eq_true_eq]
  exact ⟨h1, h2, h3, h4, h5, h6⟩
theorem may_no {k l n : Int} {f : Bool} (h : ¬ (bK k = true ∧ 0 ≤ l ∧ l ≤ bL k ∧ bm k ≤ n ∧ n ≤ bM k ∧ (f = true → bF k = true))) : may k l n f = false := by
  simp only [bK, bF, decide_eq_true_eq] at h
  simp only [may, decide_eq_false_iff_not]
  exact h

theorem may_ways (k l n : Int) (f : Bool) :
    (bK k = false ∧ Hid (may k l n f = false)) ∨ (bK k = true ∧ l < 0 ∧ Hid (may k l n f = false)) ∨ (bK k = true ∧ 0 ≤ l ∧ bL k < l ∧ Hid (may k l n f = false)) ∨
    (bK k = true ∧ 0 ≤ l ∧ l ≤ bL k ∧ n < bm k ∧ Hid (may k l n f = false)) ∨ (bK k = true ∧ 0 ≤ l ∧ l ≤ bL k ∧ bm k ≤ n ∧ bM k < n ∧ Hid (may k l n f = false)) ∨
    (bK k = true ∧ 0 ≤ l ∧ l ≤ bL k ∧ bm k ≤ n ∧ n ≤ bM k ∧ bF k = true ∧ Hid (may k l n f = true)) ∨
    (bK k = true ∧ 0 ≤ l ∧ l ≤ bL k ∧ bm k ≤ n ∧ n ≤ bM k ∧ bF k = false ∧ f = false ∧ Hid (may k l n f = true)) ∨
    (bK k = true ∧ 0 ≤ l ∧ l ≤ bL k ∧ bm k ≤ n ∧ n ≤ bM k ∧ bF k = false ∧ f = true ∧ Hid (may k l n f = false)) := by
  by_cases g1 : bK k = true
  · by_cases g2 : 0 ≤ l
    · by_cases g3 : l ≤ bL k
      · by_cases g4 : bm k ≤ n
        · by_cases g5 : n ≤ bM k
          · by_cases g6 : bF k = true
            · exact Or.inr (Or.inr (Or.inr (Or.inr (Or.inr (Or.inl ⟨g1, g2, g3, g4, g5, g6, may_yes g1 g2 g3 g4 g5 (fun _ => g6)⟩)))))
            · by_cases g7 : f = true
              · exact Or.inr (Or.inr (Or.inr (Or.inr (Or.inr (Or.inr (Or.inr ⟨g1, g2, g3, g4, g5, by simpa using g6, g7, may_no (fun h => g6 (h.2.2.2.2.2 g7))⟩))))))
              · exact Or.inr (Or.inr (Or.inr (Or.inr (Or.inr (Or.inr (Or.inl ⟨g1, g2, g3, g4, g5, by simpa using g6, by simpa using g7, may_yes g1 g2 g3 g4 g5 (fun e => absurd e g7)⟩))))))
          · exact Or.inr (Or.inr (Or.inr (Or.inr (Or.inl ⟨g1, g2, g3, g4, by omega, may_no (fun h => g5 h.2.2.2.2.1)⟩))))
        · exact Or.inr (Or.inr (Or.inr (Or.inl ⟨g1, g2, g3, by omega, may_no (fun h => g4 h.2.2.2.1)⟩)))
      · exact Or.inr (Or.inr (Or.inl ⟨g1, g2, by omega, may_no (fun h => g3 h.2.2.1)⟩))
    · exact Or.inr (Or.inl ⟨g1, by omega, may_no (fun h => g2 h.2.1)⟩)
  · exact Or.inl ⟨by simpa using g1, may_no (fun h => g1 h.1)⟩

set_option maxHeartbeats 1000000 in
theorem mayBe_any (k l n : Int) (f : Bool) (w : World) :
    Calls Tryz.prog 161 #[.agg #[.int .i64 k, .int .i64 l, .int .i64 n, .bool f]] w fun e w' => e = .returned (.bool (may k l n f)) ∧ Keep nil w w' := by
  go_enter Tryz.func161, Tryz.ntmps161
  go_wp2_with fail
  refine (boundsOf_any k _).mono ?_
  rintro e w1 ⟨rfl, hk1⟩
  have hs : w.heap.size < w1.heap.size := by have := hk1.size; simp at this; omega
  have c0 := fun i => hk1.cell w.heap.size i (by simp) (fun e => e)
  simp only [World.cell?_alloc_new] at c0
  rcases may_ways k l n f with ⟨g1, HM⟩ | ⟨g1, g2, HM⟩ | ⟨g1, g2, g3, HM⟩ | ⟨g1, g2, g3, g4, HM⟩ | ⟨g1, g2, g3, g4, g5, HM⟩ | ⟨g1, g2, g3, g4, g5, g6, HM⟩ | ⟨g1, g2, g3, g4, g5, g6, g7, HM⟩ | ⟨g1, g2, g3, g4, g5, g6, g7, HM⟩
  all_goals
    go_wp2
    go_ret
    exact ⟨ret_bool HM.out.symm, (((Keep.refl _ _).alloc _).trans hk1).alloc _⟩
end Go.Proofs.YtlfijfodklhplaaGreat
