/- Walks of the reader's steps: two, flag. -/
import Derived.Test.YtlfijfodklhplaaGreatOne
namespace Go.Proofs.YtlfijfodklhplaaGreat
open Go.RowKit
set_option linter.unusedVariables false


set_option maxHeartbeats 400000 in
theorem two_yes (rb bb bo cap : Nat) (l : List Nat) (k : Nat) (w : World) (hr : Rd w rb bb bo cap l k) (hk : k + 1 < l.length) :
    Calls Tryz.prog 211 #[.pointer (some ⟨rb, 0, none⟩)] w fun e w' => e = .returned (.int .i64 ((l[k] * 256 + l[k + 1] : Nat) : Int)) ∧ Rd w' rb bb bo cap l (k + 2) ∧ Keep (only rb) w w' := by
  have hx := hr.byte _ (List.getElem_mem (show k < l.length by omega))
  have hy := hr.byte _ (List.getElem_mem hk)
  go_enter Tryz.func211, Tryz.ntmps211
  go_wp2_with fail
  refine (one_yes rb bb bo cap l k _ hr (by omega)).mono ?_
  rintro e w1 ⟨rfl, hr1, hk1⟩
  go_wp2_with fail
  refine (one_yes rb bb bo cap l (k + 1) _ hr1 hk).mono ?_
  rintro e w2 ⟨rfl, hr2, hk2⟩
  go_wp2
  go_ret
  exact ⟨ret_int (Fr.or_bytes _ _ hx hy), hr2, hk1.trans hk2⟩

set_option maxHeartbeats 400000 in
theorem two_no (rb bb bo cap : Nat) (l : List Nat) (k : Nat) (w : World) (hr : Rd w rb bb bo cap l k) (hk : l.length ≤ k + 1) :
    Calls Tryz.prog 211 #[.pointer (some ⟨rb, 0, none⟩)] w fun e w' => e = .panicked noFrame ∧ Keep (only rb) w w' := by
  by_cases h : k < l.length
  · go_enter Tryz.func211, Tryz.ntmps211
    go_wp2_with fail
    refine (one_yes rb bb bo cap l k _ hr h).mono ?_
    rintro e w1 ⟨rfl, hr1, hk1⟩
    go_wp2_with fail
    refine (one_no rb bb bo cap l (k + 1) _ hr1 hk).mono ?_
    rintro e w2 ⟨rfl, hk2⟩
    exact ⟨rfl, rfl, hk1.trans hk2⟩
  · go_enter Tryz.func211, Tryz.ntmps211
    go_wp2_with fail
    refine (one_no rb bb bo cap l k _ hr (by omega)).mono ?_
    rintro e w1 ⟨rfl, hk1⟩
    exact ⟨rfl, rfl, hk1⟩

set_option maxHeartbeats 400000 in
theorem flag_yes (rb bb bo cap : Nat) (l : List Nat) (k : Nat) (w : World) (hr : Rd w rb bb bo cap l k) (hk : k < l.length) (h1 : l[k] ≤ 1) :
    Calls Tryz.prog 227 #[.pointer (some ⟨rb, 0, none⟩)] w fun e w' => e = .returned (.bool (l[k] == 1)) ∧ Rd w' rb bb bo cap l (k + 1) ∧ Keep (only rb) w w' := by
  go_enter Tryz.func227, Tryz.ntmps227
  go_wp2_with fail
  refine (one_yes rb bb bo cap l k _ hr hk).mono ?_
  rintro e w1 ⟨rfl, hr1, hk1⟩
  have hd : decide ((l[k] : Int) ≤ 1) = true := by simp; omega
  go_wp2_with fail
  refine (must_yes _).mono ?_
  rintro e w2 ⟨rfl, rfl⟩
  go_wp2
  go_ret
  exact ⟨ret_bool (by rw [Bool.eq_iff_iff, beq_iff_eq, beq_iff_eq]; omega), hr1, hk1⟩

set_option maxHeartbeats 400000 in
theorem flag_no (rb bb bo cap : Nat) (l : List Nat) (k : Nat) (w : World) (hr : Rd w rb bb bo cap l k) (hk : ∀ h : k < l.length, ¬ l[k] ≤ 1) :
    Calls Tryz.prog 227 #[.pointer (some ⟨rb, 0, none⟩)] w fun e w' => e = .panicked noFrame ∧ Keep (only rb) w w' := by
  by_cases h : k < l.length
  · have hx := hk h
    clear hk
    go_enter Tryz.func227, Tryz.ntmps227
    go_wp2_with fail
    refine (one_yes rb bb bo cap l k _ hr h).mono ?_
    rintro e w1 ⟨rfl, hr1, hk1⟩
    generalize l[k] = x at *
    have hd : decide ((x : Int) ≤ 1) = false := by simp; omega
    go_wp2_with fail
    refine (must_no _).mono ?_
    rintro e w2 ⟨rfl, rfl⟩
    exact ⟨rfl, rfl, hk1⟩
  · clear hk
    go_enter Tryz.func227, Tryz.ntmps227
    go_wp2_with fail
    refine (one_no rb bb bo cap l k _ hr (by omega)).mono ?_
    rintro e w1 ⟨rfl, hk1⟩
    exact ⟨rfl, rfl, hk1⟩

theorem one_at (rb bb bo cap : Nat) (l : List Nat) (k : Nat) (w : World) (hr : Rd w rb bb bo cap l k) (x : Nat) (hx : l[k]? = some x) :
    Calls Tryz.prog 225 #[.pointer (some ⟨rb, 0, none⟩)] w fun e w' => e = .returned (.int .i64 (x : Int)) ∧ Rd w' rb bb bo cap l (k + 1) ∧ Keep (only rb) w w' := by
  obtain ⟨h, e⟩ := List.getElem?_eq_some_iff.1 hx
  subst e
  exact one_yes rb bb bo cap l k w hr h
theorem two_at (rb bb bo cap : Nat) (l : List Nat) (k : Nat) (w : World) (hr : Rd w rb bb bo cap l k) (x y : Nat) (hx : l[k]? = some x) (hy : l[k + 1]? = some y) :
    Calls Tryz.prog 211 #[.pointer (some ⟨rb, 0, none⟩)] w fun e w' => e = .returned (.int .i64 ((x : Int) * 256 + (y : Int))) ∧ Rd w' rb bb bo cap l (k + 2) ∧ Keep (only rb) w w' := by
  obtain ⟨h, e⟩ := List.getElem?_eq_some_iff.1 hx
  obtain ⟨h', e'⟩ := List.getElem?_eq_some_iff.1 hy
  subst e e'
  have := two_yes rb bb bo cap l k w hr h'
  have c : ((l[k] * 256 + l[k + 1] : Nat) : Int) = (l[k] : Int) * 256 + (l[k + 1] : Int) := by omega
  rw [c] at this
  exact this
theorem flag_at (rb bb bo cap : Nat) (l : List Nat) (k : Nat) (w : World) (hr : Rd w rb bb bo cap l k) (x : Nat) (hx : l[k]? = some x) (h1 : x ≤ 1) :
    Calls Tryz.prog 227 #[.pointer (some ⟨rb, 0, none⟩)] w fun e w' => e = .returned (.bool (x == 1)) ∧ Rd w' rb bb bo cap l (k + 1) ∧ Keep (only rb) w w' := by
  obtain ⟨h, e⟩ := List.getElem?_eq_some_iff.1 hx
  subst e
  exact flag_yes rb bb bo cap l k w hr h h1
end Go.Proofs.YtlfijfodklhplaaGreat
