/- Walks of what an end has sent: next, shown, add, drop, frame. -/
import Derived.Test.YtlfijfodklhplaaEndM
namespace Go.Proofs.Ytlfijfodklhplaa
open Go.RowKit
set_option linter.unusedVariables false

set_option maxHeartbeats 1000000 in
theorem next_any (b o n l wc : Nat) (wa : Option Addr) (w : World) (h0 : w.cell? ⟨b, o, none⟩ = some (.int .i64 (n : Int))) (h1 : w.cell? ⟨b, o + 1, none⟩ = some (.slice wa l wc)) (hm : (n : Int) + (l : Int) ≤ 65536) :
    Calls Try.prog 28 #[.pointer (some ⟨b, o, none⟩)] w fun e w' => e = .returned (.int .i64 ((n : Int) + (l : Int))) ∧ Keep nil w w' := by
  go_enter Try.func28, Try.ntmps28
  go_wp2_with fail
  go_quiet (fail)
  all_goals
    go_wp2
    go_ret
    exact ⟨rfl, Keep.refl _ _ |>.drewN _⟩

set_option maxHeartbeats 1000000 in
theorem shown_any (b o l wc : Nat) (wa : Option Addr) (w : World) (h1 : w.cell? ⟨b, o + 1, none⟩ = some (.slice wa l wc)) (hm : (l : Int) ≤ 65536) :
    Calls Try.prog 29 #[.pointer (some ⟨b, o, none⟩)] w fun e w' => e = .returned (.int .i64 ((min l 4 : Nat) : Int)) ∧ w = w' := by
  go_enter Try.func29, Try.ntmps29
  go_wp2
  all_goals
    go_ret
    exact ⟨ret_int (by omega), rfl⟩

abbrev mv (m : Fr.Msg) : Value := .agg #[.int .i64 (m.kind : Int), .int .i64 (m.level : Int), .int .i64 (m.name : Int), .bool m.finding]

set_option maxHeartbeats 1000000 in
theorem add_any (b o n l wc : Nat) (wa : Option Addr) (vs : List Value) (m : Fr.Msg) (w : World) (h1 : w.cell? ⟨b, o + 1, none⟩ = some (.slice wa l wc)) (hf : w.frozen? ⟨b, o + 1, none⟩ = false) (hr : RV w 24 4 wa l wc vs) (hb : ¬ inB wa b) (hm : (l : Int) ≤ 65536) :
    Calls Try.prog 30 #[.pointer (some ⟨b, o, none⟩), mv m] w fun e w' => e = .returned (.tuple #[]) ∧ ∃ a' c' w1, RV w1 24 4 a' (l + 1) c' (vs ++ mcell m) ∧ (∀ g, inB a' g → inB wa g ∨ w.heap.size ≤ g) ∧ Keep (inB wa) w w1 ∧ w' = w1.setCell ⟨b, o + 1, none⟩ (.slice a' (l + 1) c') := by
  have hbl : b < w.heap.size := World.block_lt_of_cell? w _ h1
  go_enter Try.func30, Try.ntmps30
  go_wp2_with fail
  go_region_law (refine step_append_rv rfl (.tmp 8) (.tmp 10) 45 rfl 24 (.agg #[.int .i64 0, .int .i64 0, .int .i64 0, .bool false]) 4 32 Try.underlying45 msg_info rfl wa l wc rfl vs ((hr.alloc _).drew.alloc _) ⟨w.heap.size + 1, 0, none⟩ 1 1 (by omega) rfl (mcell m) rfl (cells_list (w.alloc (.cells (mcell m).toArray 24)).drew (mcell m) 24 _ (by simp)) (by simpa [mcells] using mcells_one [m]) (by omega) (by omega) ?_; intro a' c' w1 hr1 hg1 hk1; have hk2 : Keep (inB wa) w w1 := ((((Keep.refl _ w).alloc _).drew).alloc _).trans hk1; have q1 := (hk2.cell b (o + 1) hbl hb).trans h1; have q2 := (hk2.frozen b (o + 1) hbl hb).trans hf)
  all_goals
    go_wp2
    go_end0
    exact ⟨rfl, a', c', w1, hr1, fun g hg => (hg1 g hg).imp id (fun e => by rw [e]; simp; omega), hk2, rfl⟩

set_option maxHeartbeats 1000000 in
theorem drop_any (b o g wo n k l wc : Nat) (w : World) (h0 : w.cell? ⟨b, o, none⟩ = some (.int .i64 (n : Int))) (h1 : w.cell? ⟨b, o + 1, none⟩ = some (.slice (some ⟨g, wo, none⟩) l wc)) (hf0 : w.frozen? ⟨b, o, none⟩ = false) (hf : w.frozen? ⟨b, o + 1, none⟩ = false) (hn : (n : Int) ≤ 65536) (hk : k ≤ l) (hl : l ≤ wc) (hl' : (l : Int) ≤ 65536) :
    Calls Try.prog 43 #[.pointer (some ⟨b, o, none⟩), .int .i64 (k : Int)] w fun e w' => e = .returned (.tuple #[]) ∧ ∃ wo', (wo' = wo + k * 4 ∨ (wc = k ∧ wo' = wo)) ∧ w' = (w.setCell ⟨b, o, none⟩ (.int .i64 ((n : Int) + (k : Int)))).setCell ⟨b, o + 1, none⟩ (.slice (some ⟨g, wo', none⟩) (l - k) (wc - k)) := by
  by_cases hc : wc = k
  · subst hc
    go_enter Try.func43, Try.ntmps43
    have hlw : l = wc := by omega
    subst hlw
    go_wp2
    go_end0
    exact ⟨rfl, wo, Or.inr ⟨trivial, rfl⟩, by simp⟩
  · have hc' : ¬ wc - k = 0 := by omega
    go_enter Try.func43, Try.ntmps43
    go_wp2
    go_end0
    exact ⟨rfl, wo + k * 4, Or.inl rfl, rfl⟩

set_option maxHeartbeats 1000000 in
theorem frame_any (b o g wo n k l wc : Nat) (m : Fr.Msg) (w : World) (h0 : w.cell? ⟨b, o, none⟩ = some (.int .i64 (n : Int))) (h1 : w.cell? ⟨b, o + 1, none⟩ = some (.slice (some ⟨g, wo, none⟩) l wc)) (hn : (n : Int) ≤ 65536) (hk : k < l) (hl : (l : Int) ≤ 65536)
    (hm : ∀ j u, (mcell m)[j]? = some u → w.cell? ⟨g, wo + k * 4 + j, none⟩ = some u) :
    Calls Try.prog 40 #[.pointer (some ⟨b, o, none⟩), .int .i64 (k : Int)] w fun e w' => e = .returned (.agg (fc true ((n : Int) + (k : Int)) (m.kind : Int) (m.level : Int) (m.name : Int) m.finding)) ∧ Keep nil w w' := by
  have hbl : b < w.heap.size := World.block_lt_of_cell? w _ h1
  have m0 := hm 0 _ rfl
  have m1 := hm 1 _ rfl
  have m2 := hm 2 _ rfl
  have m3 := hm 3 _ rfl
  have hgl : g < w.heap.size := World.block_lt_of_cell? w _ m0
  rw [Nat.add_zero] at m0
  clear hm
  go_enter Try.func40, Try.ntmps40
  go_wp2_with fail
  go_region
  all_goals
    go_wp2
    refine bodyPost_ret (v := .agg (fc true ((n : Int) + (k : Int)) (m.kind : Int) (m.level : Int) (m.name : Int) m.finding)) ?_ rfl ⟨rfl, ?_⟩
    · simp [results, Try.results40, go_sem]
    · exact ((Keep.refl _ _).alloc _).drew
end Go.Proofs.Ytlfijfodklhplaa
