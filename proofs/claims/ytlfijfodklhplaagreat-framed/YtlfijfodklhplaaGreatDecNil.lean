/- Decode of nil. -/
import Derived.Test.YtlfijfodklhplaaGreatArbor
namespace Go.Proofs.YtlfijfodklhplaaGreat
open Go.RowKit
set_option linter.unusedVariables false

set_option maxHeartbeats 400000 in
theorem one_nil (rb : Nat) (w : World) (hr : Blk w rb #[.slice none 0 0, .int .i64 0] 330) :
    Calls Tryz.prog 225 #[.pointer (some ⟨rb, 0, none⟩)] w fun e w' => e = .panicked noFrame ∧ Keep nil w w' := by
  have c0 := hr.cell 0
  have c1 := hr.cell 1
  simp at c0 c1
  go_enter Tryz.func225, Tryz.ntmps225
  go_wp2
  go_region_dies
  all_goals
    refine (must_no _).mono ?_
    rintro e w' ⟨rfl, rfl⟩
    exact ⟨rfl, rfl, (Keep.refl _ _).drew⟩

set_option maxHeartbeats 400000 in
theorem body_nil (rb : Nat) (w : World) (hr : Blk w rb #[.slice none 0 0, .int .i64 0] 330) :
    Calls Tryz.prog 209 #[.pointer (some ⟨rb, 0, none⟩)] w fun e w' => e = .panicked noFrame ∧ Keep nil w w' := by
  have hr1 := hr.old (.cells (fc false 0 0 0 0 false) 78)
  go_enter Tryz.func209, Tryz.ntmps209
  go_wp2_with fail
  refine (one_nil rb _ hr1).mono ?_
  rintro e w1 ⟨rfl, hk1⟩
  exact ⟨rfl, rfl, ((Keep.refl _ _).alloc _).trans hk1⟩

set_option maxHeartbeats 400000 in
theorem read_nil (w : World) :
    Calls Tryz.prog 181 #[.slice none 0 0] w fun e w' => e = .panicked noFrame ∧ Keep nil w w' := by
  have hr1 := Blk.new' (w.alloc (.cells (fc false 0 0 0 0 false) 78)) #[.slice none 0 0, .int .i64 0] 330 (w.heap.size + 1) (by simp)
  go_enter Tryz.func181, Tryz.ntmps181
  go_wp2_with fail
  refine (body_nil (w.heap.size + 1) _ hr1).mono ?_
  rintro e w1 ⟨rfl, hk1⟩
  exact ⟨rfl, rfl, (((Keep.refl _ _).alloc _).alloc _).trans hk1⟩

set_option maxHeartbeats 1000000 in
theorem decode_nil (w : World) :
    Calls Tryz.prog 128 #[.slice none 0 0] w fun e w' => e = .returned (.tuple #[.agg (fc false 0 0 0 0 false), .int .i64 9]) ∧ Keep nil w w' := by
  have hmf : ∀ (fn : Fn) (first cap : Array Value) (w : World), (Instr.makeFunc fn first cap).run Tryz.prog w = .ok (.func fn first cap) w := fun _ _ _ _ => rfl
  go_enter_defers Tryz.func128, Tryz.ntmps128
  go_wp2_with fail
  refine (read_nil _).mono ?_
  rintro e w1 ⟨rfl, hk1⟩
  have b1 := ((Blk.new w (fc false 0 0 0 0 false) 78).old (.cells #[.int .i64 0] 32)).keep hk1 (fun e => e)
  have b2 := (Blk.new' (w.alloc (.cells (fc false 0 0 0 0 false) 78)) #[.int .i64 0] 32 (w.heap.size + 1) (by simp)).keep hk1 (fun e => e)
  refine leaves_cons (f := 180) (args := #[.pointer (some ⟨w.heap.size, 0, none⟩), .pointer (some ⟨w.heap.size + 1, 0, none⟩)]) (by simp) (by simp [go_sem]) ?_
  refine (catch_panicking w.heap.size (w.heap.size + 1) Six.zero 0 _ b1 b2 (by omega) (by omega)).mono ?_
  rintro e u' w2 ⟨rfl, rfl, d1, d2, hk2⟩
  have z0 := d1.cell 0
  have z1 := d1.cell 1
  have z2 := d1.cell 2
  have z3 := d1.cell 3
  have z4 := d1.cell 4
  have z5 := d1.cell 5
  have z6 := d2.cell 0
  simp at z0 z1 z2 z3 z4 z5 z6
  refine ⟨.tuple #[.agg (fc false 0 0 0 0 false), .int .i64 9], ?_, rfl, ?_⟩
  · simp [results, Tryz.results128, go_sem, z0, z1, z2, z3, z4, z5, z6]
  · exact ((((Keep.refl nil w).alloc _).alloc _).trans hk1).trans' hk2 (fun i hi e => by rcases e with e | e <;> omega)

set_option maxHeartbeats 1000000 in
theorem arborDecode_nil (w : World) :
    Calls Tryz.prog 80 #[.slice none 0 0] w fun e w' => e = .returned (.tuple #[.agg (fc false 0 0 0 0 false), .int .i64 9]) ∧ Keep nil w w' := by
  go_enter Tryz.func80, Tryz.ntmps80
  go_wp2_with fail
  refine (decode_nil _).mono ?_
  rintro e w1 ⟨rfl, hk1⟩
  have b1 := (Blk.new w (fc false 0 0 0 0 false) 78).keep hk1 (fun e => e)
  have q0 := b1.cell 0
  have q1 := b1.cell 1
  have q2 := b1.cell 2
  have q3 := b1.cell 3
  have q4 := b1.cell 4
  have q5 := b1.cell 5
  have q6 := fun i => b1.frozen i
  simp at q0 q1 q2 q3 q4 q5
  go_wp2
  have d1 := b1.put6 false 0 0 0 0 false
  have kk : Keep nil w (put6 w1 w.heap.size false 0 0 0 0 false) := (((Keep.refl nil w).alloc _).trans hk1).put6 w.heap.size (fun h => by omega) false 0 0 0 0 false
  have z0 := d1.cell 0
  have z1 := d1.cell 1
  have z2 := d1.cell 2
  have z3 := d1.cell 3
  have z4 := d1.cell 4
  have z5 := d1.cell 5
  simp only [List.getElem?_toArray] at z0 z1 z2 z3 z4 z5
  exact bodyPost_ret (v := .tuple #[.agg (fc false 0 0 0 0 false), .int .i64 9]) (by simp [results, Tryz.results80, go_sem, z0, z1, z2, z3, z4, z5]) rfl ⟨rfl, kk⟩
end Go.Proofs.YtlfijfodklhplaaGreat
