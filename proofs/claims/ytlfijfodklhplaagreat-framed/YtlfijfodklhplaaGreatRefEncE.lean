/- Walk of the document's Encode where it refuses. -/
import Derived.Test.YtlfijfodklhplaaGreatRefEncM
import Derived.Test.YtlfijfodklhplaaGreatEncErr
namespace Go.Proofs.YtlfijfodklhplaaGreat
open Go.RowKit
set_option linter.unusedVariables false

set_option maxRecDepth 100000 in
set_option maxHeartbeats 2000000 in
theorem refenc_nine (d : Bool) (s k l n : Int) (f : Bool) (h : s < 0 ∨ 65535 < s) (w : World) :
    Calls Tryz.prog 77 #[.agg (fc d s k l n f)] w fun e w' => e = .returned (.tuple #[.slice none 0 0, .int .i64 9]) ∧ Keep nil w w' := by
  rcases h with h | h
  · go_enter Tryz.func77, Tryz.ntmps77
    go_wp2
    go_ret2
    exact ⟨rfl, (Keep.refl _ _).alloc _⟩
  · have h' : ¬ s < 0 := by omega
    have h2 : 65536 ≤ s := by omega
    clear h
    go_enter Tryz.func77, Tryz.ntmps77
    go_wp2
    go_ret2
    exact ⟨rfl, (Keep.refl _ _).alloc _⟩

theorem msg_ways (k l n : Int) (f : Bool) : ((k == 0) = false ∧ Hid (noMsg k l n f = false)) ∨ (k = 0 ∧ (l == 0) = false ∧ Hid (noMsg 0 l n f = false)) ∨ (k = 0 ∧ l = 0 ∧ (n == 0) = false ∧ Hid (noMsg 0 0 n f = false)) ∨ (k = 0 ∧ l = 0 ∧ n = 0) := by
  by_cases h1 : k = 0
  · subst h1
    by_cases h2 : l = 0
    · subst h2
      by_cases h3 : n = 0
      · exact Or.inr (Or.inr (Or.inr ⟨rfl, rfl, h3⟩))
      · exact Or.inr (Or.inr (Or.inl ⟨rfl, rfl, by simpa using h3, by show noMsg 0 0 n f = false; simp [noMsg, h3]⟩))
    · exact Or.inr (Or.inl ⟨rfl, by simpa using h2, by show noMsg 0 l n f = false; simp [noMsg, h2]⟩)
  · exact Or.inl ⟨by simpa using h1, by show noMsg k l n f = false; simp [noMsg, h1]⟩

set_option maxRecDepth 100000 in
set_option maxHeartbeats 4000000 in
theorem refenc_ten_data (s k l n : Int) (f : Bool) (h0 : 0 ≤ s) (h1 : s < 65536) (hm : may k l n f = false) (w : World) :
    Calls Tryz.prog 77 #[.agg (fc true s k l n f)] w fun e w' => e = .returned (.tuple #[.slice none 0 0, .int .i64 10]) ∧ Keep nil w w' := by
  rcases msg_ways k l n f with ⟨g1, _⟩ | ⟨rfl, g1, _⟩ | ⟨rfl, rfl, g1, _⟩ | ⟨rfl, rfl, rfl⟩
  all_goals
    go_enter Tryz.func77, Tryz.ntmps77
    go_wp2_with fail
    refine (refmay_any _ _ _ f _).mono ?_
    rintro e w1 ⟨rfl, hkp1⟩
    have hz : w.heap.size < w1.heap.size := by have := hkp1.size; simp at this; omega
    have c0 := fun i => hkp1.cell w.heap.size i (by simp) (fun e => e)
    simp only [World.cell?_alloc_new] at c0
    go_wp2
    go_ret2
    exact ⟨rfl, ((Keep.refl _ _).alloc _).trans hkp1⟩

set_option maxRecDepth 100000 in
set_option maxHeartbeats 4000000 in
theorem refenc_ten_ack (s k l n : Int) (f : Bool) (h0 : 0 ≤ s) (h1 : s < 65536) (hm : noMsg k l n f = false) (w : World) :
    Calls Tryz.prog 77 #[.agg (fc false s k l n f)] w fun e w' => e = .returned (.tuple #[.slice none 0 0, .int .i64 10]) ∧ Keep nil w w' := by
  rcases msg_ways k l n f with ⟨g1, _⟩ | ⟨rfl, g1, _⟩ | ⟨rfl, rfl, g1, _⟩ | ⟨rfl, rfl, rfl⟩
  · clear hm
    go_enter Tryz.func77, Tryz.ntmps77
    go_wp2_with fail
    refine (refmay_any _ _ _ f _).mono ?_
    rintro e w1 ⟨rfl, hkp1⟩
    have hz : w.heap.size < w1.heap.size := by have := hkp1.size; simp at this; omega
    have c0 := fun i => hkp1.cell w.heap.size i (by simp) (fun e => e)
    simp only [World.cell?_alloc_new] at c0
    go_wp2
    go_ret2
    exact ⟨rfl, ((Keep.refl _ _).alloc _).trans hkp1⟩
  · clear hm
    go_enter Tryz.func77, Tryz.ntmps77
    go_wp2_with fail
    refine (refmay_any _ _ _ f _).mono ?_
    rintro e w1 ⟨rfl, hkp1⟩
    have hz : w.heap.size < w1.heap.size := by have := hkp1.size; simp at this; omega
    have c0 := fun i => hkp1.cell w.heap.size i (by simp) (fun e => e)
    simp only [World.cell?_alloc_new] at c0
    go_wp2
    go_ret2
    exact ⟨rfl, ((Keep.refl _ _).alloc _).trans hkp1⟩
  · clear hm
    go_enter Tryz.func77, Tryz.ntmps77
    go_wp2_with fail
    refine (refmay_any _ _ _ f _).mono ?_
    rintro e w1 ⟨rfl, hkp1⟩
    have hz : w.heap.size < w1.heap.size := by have := hkp1.size; simp at this; omega
    have c0 := fun i => hkp1.cell w.heap.size i (by simp) (fun e => e)
    simp only [World.cell?_alloc_new] at c0
    go_wp2
    go_ret2
    exact ⟨rfl, ((Keep.refl _ _).alloc _).trans hkp1⟩
  · have hf : f = true := by cases f; simp [noMsg] at hm; rfl
    subst hf
    clear hm
    go_enter Tryz.func77, Tryz.ntmps77
    go_wp2_with fail
    refine (refmay_any _ _ _ true _).mono ?_
    rintro e w1 ⟨rfl, hkp1⟩
    have hz : w.heap.size < w1.heap.size := by have := hkp1.size; simp at this; omega
    have c0 := fun i => hkp1.cell w.heap.size i (by simp) (fun e => e)
    simp only [World.cell?_alloc_new] at c0
    go_wp2
    go_ret2
    exact ⟨rfl, ((Keep.refl _ _).alloc _).trans hkp1⟩

theorem refenc_err (d : Bool) (s k l n : Int) (f : Bool) (h : encErr d s k l n f ≠ 0) (w : World) :
    Calls Tryz.prog 77 #[.agg (fc d s k l n f)] w fun e w' => e = .returned (.tuple #[.slice none 0 0, .int .i64 (encErr d s k l n f)]) ∧ Keep nil w w' := by
  by_cases h1 : s < 0 ∨ 65535 < s
  · rw [encErr_nine h1]; exact refenc_nine d s k l n f h1 w
  · by_cases h2 : (d = true ∧ may k l n f = true) ∨ (d = false ∧ noMsg k l n f = true)
    · exact absurd (by unfold encErr; rw [if_neg h1, if_pos h2]) h
    · rw [encErr_ten h1 h2]
      have a0 : 0 ≤ s := by omega
      have a1 : s < 65536 := by omega
      cases d
      · exact refenc_ten_ack s k l n f a0 a1 (by cases hh : noMsg k l n f; rfl; exact absurd (Or.inr ⟨rfl, hh⟩) h2) w
      · exact refenc_ten_data s k l n f a0 a1 (by cases hh : may k l n f; rfl; exact absurd (Or.inl ⟨rfl, hh⟩) h2) w
end Go.Proofs.YtlfijfodklhplaaGreat
