import Derived.Test.YtlfijfodklhplaaGreatLk01
/- Walks of the reader's steps: one, two, flag. -/
namespace Go.Proofs.YtlfijfodklhplaaGreat
open Go.RowKit
set_option linter.unusedVariables false

/-- The reader lies in block rb; it goes through a slice that is 'l', and stands at 'at'. -/
structure Rd (w : World) (rb : Nat) (bb bo cap : Nat) (l : List Nat) (k : Nat) : Prop where
  blk : Blk w rb #[.slice (some ⟨bb, bo, none⟩) l.length cap, .int .i64 (k : Int)] 330
  row : Row w bb bo l
  ne : bb ≠ rb
  bb : bb < w.heap.size
  len : l.length < 140737488355328
  byte : ∀ x ∈ l, x < 256

theorem Rd.keep {ex : Nat → Prop} {w w' : World} {rb bb bo cap : Nat} {l : List Nat} {k : Nat} (h : Rd w rb bb bo cap l k) (g : Keep ex w w') (h1 : ¬ ex rb) (h2 : ¬ ex bb) : Rd w' rb bb bo cap l k :=
  ⟨h.blk.keep g h1, h.row.keep g h.bb h2, h.ne, Nat.lt_of_lt_of_le h.bb g.size, h.len, h.byte⟩
theorem Rd.next {w : World} {rb bb bo cap : Nat} {l : List Nat} {k : Nat} (h : Rd w rb bb bo cap l k) : Rd (w.setCell ⟨rb, 1, none⟩ (.int .i64 ((k : Int) + 1))) rb bb bo cap l (k + 1) := by
  have hk : Keep (only rb) w (w.setCell ⟨rb, 1, none⟩ (.int .i64 ((k : Int) + 1))) := (Keep.refl (only rb) w).setCell (p := ⟨rb, 1, none⟩) (fun _ => rfl) _
  exact ⟨by simpa using h.blk.set 1 (.int .i64 ((k : Int) + 1)), h.row.keep hk h.bb h.ne, h.ne, by simpa using h.bb, h.len, h.byte⟩
theorem Rd.drewN {w : World} {rb bb bo cap : Nat} {l : List Nat} {k : Nat} (h : Rd w rb bb bo cap l k) (n : Nat) : Rd (w.drewN n) rb bb bo cap l k :=
  h.keep ((Keep.refl nil w).drewN n) (fun e => e) (fun e => e)

theorem Rd.alloc {w : World} {rb bb bo cap : Nat} {l : List Nat} {k : Nat} (h : Rd w rb bb bo cap l k) (o : Obj) : Rd (w.alloc o) rb bb bo cap l k :=
  h.keep ((Keep.refl nil w).alloc o) (fun e => e) (fun e => e)
theorem Rd.setCell {w : World} {rb bb bo cap : Nat} {l : List Nat} {k : Nat} (h : Rd w rb bb bo cap l k) (p : Addr) (v : Value) (h1 : p.block ≠ rb) (h2 : p.block ≠ bb) : Rd (w.setCell p v) rb bb bo cap l k :=
  h.keep ((Keep.refl (only p.block) w).setCell (fun _ => rfl) v) (fun e => h1 e.symm) (fun e => h2 e.symm)
theorem Rd.lt {w : World} {rb bb bo cap : Nat} {l : List Nat} {k : Nat} (h : Rd w rb bb bo cap l k) : rb < w.heap.size := h.blk.lt

set_option maxHeartbeats 400000 in
theorem one_yes (rb bb bo cap : Nat) (l : List Nat) (k : Nat) (w : World) (hr : Rd w rb bb bo cap l k) (hk : k < l.length) :
    Calls Tryz.prog 225 #[.pointer (some ⟨rb, 0, none⟩)] w fun e w' => e = .returned (.int .i64 ((l[k] : Nat) : Int)) ∧ Rd w' rb bb bo cap l (k + 1) ∧ Keep (only rb) w w' := by
  have c0 := hr.blk.cell 0
  have c1 := hr.blk.cell 1
  have f1 := hr.blk.frozen 1
  simp at c0 c1
  have hlen := hr.len
  have hx := hr.byte _ (List.getElem_mem hk)
  have hne := hr.ne
  have hrow : ∀ n, ((w.drewN n).setCell ⟨rb, 1, none⟩ (.int .i64 ((k : Int) + 1))).cell? ⟨bb, bo + k, none⟩ = some (.int .u8 ((l[k] : Nat) : Int)) := fun n => (hr.drewN n).next.row k hk
  go_enter Tryz.func225, Tryz.ntmps225
  go_wp2
  go_quiet ((go_at_call 210; exact Calls.quiet_of_same (must_yes _)))
  go_wp2
  go_quiet (fail)
  go_wp2
  go_ret
  exact ⟨rfl, (hr.drewN _).next.drewN _, (((Keep.refl (only rb) w).drewN _).setCell (p := ⟨rb, 1, none⟩) (fun _ => rfl) _).drewN _⟩

set_option maxHeartbeats 400000 in
theorem one_no (rb bb bo cap : Nat) (l : List Nat) (k : Nat) (w : World) (hr : Rd w rb bb bo cap l k) (hk : l.length ≤ k) :
    Calls Tryz.prog 225 #[.pointer (some ⟨rb, 0, none⟩)] w fun e w' => e = .panicked noFrame ∧ Keep (only rb) w w' := by
  have c0 := hr.blk.cell 0
  have c1 := hr.blk.cell 1
  simp at c0 c1
  have hd : decide (k < l.length) = false := by simpa using hk
  go_enter Tryz.func225, Tryz.ntmps225
  go_wp2
  go_region_dies
  all_goals
    refine (must_no _).mono ?_
    rintro e w' ⟨rfl, rfl⟩
    exact ⟨rfl, rfl, (Keep.refl _ _).drew⟩
end Go.Proofs.YtlfijfodklhplaaGreat
/- Walks of the reader's steps: two, flag. -/
namespace Go.Proofs.YtlfijfodklhplaaGreat
open Go.RowKit
set_option linter.unusedVariables false


set_option maxHeartbeats 400000 in
theorem two_yes (rb bb bo cap : Nat) (l : List Nat) (k : Nat) (w : World) (hr : Rd w rb bb bo cap l k) (hk : k + 1 < l.length) :
    Calls Tryz.prog 211 #[.pointer (some ⟨rb, 0, none⟩)] w fun e w' => e = .returned (.int .i64 ((l[k] * 256 + l[k + 1] : Nat) : Int)) ∧ Rd w' rb bb bo cap l (k + 2) ∧ Keep (only rb) w w' := by
  have hx := hr.byte _ (List.getElem_mem (show k < l.length by omega))
  have hy := hr.byte _ (List.getElem_mem hk)
  go_enter Tryz.func211, Tryz.ntmps211
  go_wp2_with fail
  refine (one_yes rb bb bo cap l k _ hr (by omega)).mono ?_
  rintro e w1 ⟨rfl, hr1, hk1⟩
  go_wp2_with fail
  refine (one_yes rb bb bo cap l (k + 1) _ hr1 hk).mono ?_
  rintro e w2 ⟨rfl, hr2, hk2⟩
  go_wp2
  go_ret
  exact ⟨ret_int (Fr.or_bytes _ _ hx hy), hr2, hk1.trans hk2⟩

set_option maxHeartbeats 400000 in
theorem two_no (rb bb bo cap : Nat) (l : List Nat) (k : Nat) (w : World) (hr : Rd w rb bb bo cap l k) (hk : l.length ≤ k + 1) :
    Calls Tryz.prog 211 #[.pointer (some ⟨rb, 0, none⟩)] w fun e w' => e = .panicked noFrame ∧ Keep (only rb) w w' := by
  by_cases h : k < l.length
  · go_enter Tryz.func211, Tryz.ntmps211
    go_wp2_with fail
    refine (one_yes rb bb bo cap l k _ hr h).mono ?_
    rintro e w1 ⟨rfl, hr1, hk1⟩
    go_wp2_with fail
    refine (one_no rb bb bo cap l (k + 1) _ hr1 hk).mono ?_
    rintro e w2 ⟨rfl, hk2⟩
    exact ⟨rfl, rfl, hk1.trans hk2⟩
  · go_enter Tryz.func211, Tryz.ntmps211
    go_wp2_with fail
    refine (one_no rb bb bo cap l k _ hr (by omega)).mono ?_
    rintro e w1 ⟨rfl, hk1⟩
    exact ⟨rfl, rfl, hk1⟩

set_option maxHeartbeats 400000 in
theorem flag_yes (rb bb bo cap : Nat) (l : List Nat) (k : Nat) (w : World) (hr : Rd w rb bb bo cap l k) (hk : k < l.length) (h1 : l[k] ≤ 1) :
    Calls Tryz.prog 227 #[.pointer (some ⟨rb, 0, none⟩)] w fun e w' => e = .returned (.bool (l[k] == 1)) ∧ Rd w' rb bb bo cap l (k + 1) ∧ Keep (only rb) w w' := by
  go_enter Tryz.func227, Tryz.ntmps227
  go_wp2_with fail
  refine (one_yes rb bb bo cap l k _ hr hk).mono ?_
  rintro e w1 ⟨rfl, hr1, hk1⟩
  have hd : decide ((l[k] : Int) ≤ 1) = true := by simp; omega
  go_wp2_with fail
  refine (must_yes _).mono ?_
  rintro e w2 ⟨rfl, rfl⟩
  go_wp2
  go_ret
  exact ⟨ret_bool (by rw [Bool.eq_iff_iff, beq_iff_eq, beq_iff_eq]; omega), hr1, hk1⟩

set_option maxHeartbeats 400000 in
theorem flag_no (rb bb bo cap : Nat) (l : List Nat) (k : Nat) (w : World) (hr : Rd w rb bb bo cap l k) (hk : ∀ h : k < l.length, ¬ l[k] ≤ 1) :
    Calls Tryz.prog 227 #[.pointer (some ⟨rb, 0, none⟩)] w fun e w' => e = .panicked noFrame ∧ Keep (only rb) w w' := by
  by_cases h : k < l.length
  · have hx := hk h
    clear hk
    go_enter Tryz.func227, Tryz.ntmps227
    go_wp2_with fail
    refine (one_yes rb bb bo cap l k _ hr h).mono ?_
    rintro e w1 ⟨rfl, hr1, hk1⟩
    generalize l[k] = x at *
    have hd : decide ((x : Int) ≤ 1) = false := by simp; omega
    go_wp2_with fail
    refine (must_no _).mono ?_
    rintro e w2 ⟨rfl, rfl⟩
    exact ⟨rfl, rfl, hk1⟩
  · clear hk
    go_enter Tryz.func227, Tryz.ntmps227
    go_wp2_with fail
    refine (one_no rb bb bo cap l k _ hr (by omega)).mono ?_
    rintro e w1 ⟨rfl, hk1⟩
    exact ⟨rfl, rfl, hk1⟩

theorem one_at (rb bb bo cap : Nat) (l : List Nat) (k : Nat) (w : World) (hr : Rd w rb bb bo cap l k) (x : Nat) (hx : l[k]? = some x) :
    Calls Tryz.prog 225 #[.pointer (some ⟨rb, 0, none⟩)] w fun e w' => e = .returned (.int .i64 (x : Int)) ∧ Rd w' rb bb bo cap l (k + 1) ∧ Keep (only rb) w w' := by
  obtain ⟨h, e⟩ := List.getElem?_eq_some_iff.1 hx
  subst e
  exact one_yes rb bb bo cap l k w hr h
theorem two_at (rb bb bo cap : Nat) (l : List Nat) (k : Nat) (w : World) (hr : Rd w rb bb bo cap l k) (x y : Nat) (hx : l[k]? = some x) (hy : l[k + 1]? = some y) :
    Calls Tryz.prog 211 #[.pointer (some ⟨rb, 0, none⟩)] w fun e w' => e = .returned (.int .i64 ((x : Int) * 256 + (y : Int))) ∧ Rd w' rb bb bo cap l (k + 2) ∧ Keep (only rb) w w' := by
  obtain ⟨h, e⟩ := List.getElem?_eq_some_iff.1 hx
  obtain ⟨h', e'⟩ := List.getElem?_eq_some_iff.1 hy
  subst e e'
  have := two_yes rb bb bo cap l k w hr h'
  have c : ((l[k] * 256 + l[k + 1] : Nat) : Int) = (l[k] : Int) * 256 + (l[k + 1] : Int) := by omega
  rw [c] at this
  exact this
theorem flag_at (rb bb bo cap : Nat) (l : List Nat) (k : Nat) (w : World) (hr : Rd w rb bb bo cap l k) (x : Nat) (hx : l[k]? = some x) (h1 : x ≤ 1) :
    Calls Tryz.prog 227 #[.pointer (some ⟨rb, 0, none⟩)] w fun e w' => e = .returned (.bool (x == 1)) ∧ Rd w' rb bb bo cap l (k + 1) ∧ Keep (only rb) w w' := by
  obtain ⟨h, e⟩ := List.getElem?_eq_some_iff.1 hx
  subst e
  exact flag_yes rb bb bo cap l k w hr h h1
end Go.Proofs.YtlfijfodklhplaaGreat
/- Walks of boundsOf and mayBe. -/
namespace Go.Proofs.YtlfijfodklhplaaGreat
open Go.RowKit
set_option linter.unusedVariables false

def bL (k : Int) : Int := if k = 1 ∨ k = 2 ∨ k = 3 then 9 else 0
def bm (k : Int) : Int := if k = 2 then 1 else 0
def bM (k : Int) : Int := if k = 2 ∨ k = 3 ∨ k = 6 then 1000 else 0
def bF (k : Int) : Bool := decide (k = 2)
def bK (k : Int) : Bool := decide (1 ≤ k ∧ k ≤ 7)
/-- May a message be? -/
def may (k l n : Int) (f : Bool) : Bool := decide ((1 ≤ k ∧ k ≤ 7) ∧ 0 ≤ l ∧ l ≤ bL k ∧ bm k ≤ n ∧ n ≤ bM k ∧ (f = true → k = 2))

set_option maxHeartbeats 1000000 in
theorem boundsOf_any (k : Int) (w : World) :
    Calls Tryz.prog 192 #[.int .i64 k] w fun e w' => e = .returned (.tuple #[.agg #[.int .i64 (bL k), .int .i64 (bm k), .int .i64 (bM k), .bool (bF k)], .bool (bK k)]) ∧ Keep nil w w' := by
  by_cases h : 1 ≤ k ∧ k ≤ 7
  · have hk : k = 1 ∨ k = 2 ∨ k = 3 ∨ k = 4 ∨ k = 5 ∨ k = 6 ∨ k = 7 := by omega
    rcases hk with rfl | rfl | rfl | rfl | rfl | rfl | rfl
    all_goals
      go_enter Tryz.func192, Tryz.ntmps192
      go_wp2
      refine bodyPost_ret (v := .tuple #[.agg #[.int .i64 _, .int .i64 _, .int .i64 _, .bool _], .bool true]) (by simp [results, Tryz.results192, go_sem, bL, bm, bM, bF]) rfl ⟨rfl, (Keep.refl _ _).alloc _⟩
  · have h1 : (k == 1) = false := beq_eq_false_iff_ne.2 (by omega)
    have h2 : (k == 2) = false := beq_eq_false_iff_ne.2 (by omega)
    have h3 : (k == 3) = false := beq_eq_false_iff_ne.2 (by omega)
    have h4 : (k == 4) = false := beq_eq_false_iff_ne.2 (by omega)
    have h5 : (k == 5) = false := beq_eq_false_iff_ne.2 (by omega)
    have h6 : (k == 6) = false := beq_eq_false_iff_ne.2 (by omega)
    have h7 : (k == 7) = false := beq_eq_false_iff_ne.2 (by omega)
    have e1 : bL k = 0 := by unfold bL; rw [if_neg (by omega)]
    have e2 : bm k = 0 := by unfold bm; rw [if_neg (by omega)]
    have e3 : bM k = 0 := by unfold bM; rw [if_neg (by omega)]
    have e4 : bF k = false := by simp [bF]; omega
    have e5 : bK k = false := by simp [bK]; omega
    rw [e1, e2, e3, e4, e5]
    clear e1 e2 e3 e4 e5 h
    go_enter Tryz.func192, Tryz.ntmps192
    go_wp2
    refine bodyPost_ret (v := .tuple #[.agg #[.int .i64 0, .int .i64 0, .int .i64 0, .bool false], .bool false]) (by simp [results, Tryz.results192, go_sem]) rfl ⟨rfl, (Keep.refl _ _).alloc _⟩

theorem may_yes {k l n : Int} {f : Bool} (h1 : bK k = true) (h2 : 0 ≤ l) (h3 : l ≤ bL k) (h4 : bm k ≤ n) (h5 : n ≤ bM k) (h6 : f = true → bF k = true) : may k l n f = true := by
  simp only [bK, bF, decide_eq_true_eq] at h1 h6
  simp only [may, decide_eq_true_eq]
  exact ⟨h1, h2, h3, h4, h5, h6⟩
theorem may_no {k l n : Int} {f : Bool} (h : ¬ (bK k = true ∧ 0 ≤ l ∧ l ≤ bL k ∧ bm k ≤ n ∧ n ≤ bM k ∧ (f = true → bF k = true))) : may k l n f = false := by
  simp only [bK, bF, decide_eq_true_eq] at h
  simp only [may, decide_eq_false_iff_not]
  exact h

theorem may_ways (k l n : Int) (f : Bool) :
    (bK k = false ∧ Hid (may k l n f = false)) ∨ (bK k = true ∧ l < 0 ∧ Hid (may k l n f = false)) ∨ (bK k = true ∧ 0 ≤ l ∧ bL k < l ∧ Hid (may k l n f = false)) ∨
    (bK k = true ∧ 0 ≤ l ∧ l ≤ bL k ∧ n < bm k ∧ Hid (may k l n f = false)) ∨ (bK k = true ∧ 0 ≤ l ∧ l ≤ bL k ∧ bm k ≤ n ∧ bM k < n ∧ Hid (may k l n f = false)) ∨
    (bK k = true ∧ 0 ≤ l ∧ l ≤ bL k ∧ bm k ≤ n ∧ n ≤ bM k ∧ bF k = true ∧ Hid (may k l n f = true)) ∨
    (bK k = true ∧ 0 ≤ l ∧ l ≤ bL k ∧ bm k ≤ n ∧ n ≤ bM k ∧ bF k = false ∧ f = false ∧ Hid (may k l n f = true)) ∨
    (bK k = true ∧ 0 ≤ l ∧ l ≤ bL k ∧ bm k ≤ n ∧ n ≤ bM k ∧ bF k = false ∧ f = true ∧ Hid (may k l n f = false)) := by
  by_cases g1 : bK k = true
  · by_cases g2 : 0 ≤ l
    · by_cases g3 : l ≤ bL k
      · by_cases g4 : bm k ≤ n
        · by_cases g5 : n ≤ bM k
          · by_cases g6 : bF k = true
            · exact Or.inr (Or.inr (Or.inr (Or.inr (Or.inr (Or.inl ⟨g1, g2, g3, g4, g5, g6, may_yes g1 g2 g3 g4 g5 (fun _ => g6)⟩)))))
            · by_cases g7 : f = true
              · exact Or.inr (Or.inr (Or.inr (Or.inr (Or.inr (Or.inr (Or.inr ⟨g1, g2, g3, g4, g5, by simpa using g6, g7, may_no (fun h => g6 (h.2.2.2.2.2 g7))⟩))))))
              · exact Or.inr (Or.inr (Or.inr (Or.inr (Or.inr (Or.inr (Or.inl ⟨g1, g2, g3, g4, g5, by simpa using g6, by simpa using g7, may_yes g1 g2 g3 g4 g5 (fun e => absurd e g7)⟩))))))
          · exact Or.inr (Or.inr (Or.inr (Or.inr (Or.inl ⟨g1, g2, g3, g4, by omega, may_no (fun h => g5 h.2.2.2.2.1)⟩))))
        · exact Or.inr (Or.inr (Or.inr (Or.inl ⟨g1, g2, g3, by omega, may_no (fun h => g4 h.2.2.2.1)⟩)))
      · exact Or.inr (Or.inr (Or.inl ⟨g1, g2, by omega, may_no (fun h => g3 h.2.2.1)⟩))
    · exact Or.inr (Or.inl ⟨g1, by omega, may_no (fun h => g2 h.2.1)⟩)
  · exact Or.inl ⟨by simpa using g1, may_no (fun h => g1 h.1)⟩

set_option maxHeartbeats 1000000 in
theorem mayBe_any (k l n : Int) (f : Bool) (w : World) :
    Calls Tryz.prog 161 #[.agg #[.int .i64 k, .int .i64 l, .int .i64 n, .bool f]] w fun e w' => e = .returned (.bool (may k l n f)) ∧ Keep nil w w' := by
  go_enter Tryz.func161, Tryz.ntmps161
  go_wp2_with fail
  refine (boundsOf_any k _).mono ?_
  rintro e w1 ⟨rfl, hk1⟩
  have hs : w.heap.size < w1.heap.size := by have := hk1.size; simp at this; omega
  have c0 := fun i => hk1.cell w.heap.size i (by simp) (fun e => e)
  simp only [World.cell?_alloc_new] at c0
  rcases may_ways k l n f with ⟨g1, HM⟩ | ⟨g1, g2, HM⟩ | ⟨g1, g2, g3, HM⟩ | ⟨g1, g2, g3, g4, HM⟩ | ⟨g1, g2, g3, g4, g5, HM⟩ | ⟨g1, g2, g3, g4, g5, g6, HM⟩ | ⟨g1, g2, g3, g4, g5, g6, g7, HM⟩ | ⟨g1, g2, g3, g4, g5, g6, g7, HM⟩
  all_goals
    go_wp2
    go_ret
    exact ⟨ret_bool HM.out.symm, (((Keep.refl _ _).alloc _).trans hk1).alloc _⟩
end Go.Proofs.YtlfijfodklhplaaGreat
