/- Walk of frame.Decode. -/
import Derived.Test.YtlfijfodklhplaaGreatCatch
namespace Go.Proofs.YtlfijfodklhplaaGreat
open Go.RowKit
set_option linter.unusedVariables false

theorem read_ok (bb bo cap : Nat) (l : List Nat) (w : World) (hrow : Row w bb bo l) (hbb : bb < w.heap.size) (hcap : l.length ≤ cap) (hlen : l.length < 140737488355328) (hb : ∀ x ∈ l, x < 256) (x : Six) (hx : ReadOk l x) :
    Calls Tryz.prog 181 #[.slice (some ⟨bb, bo, none⟩) l.length cap] w fun e w' => e = .returned (.agg (fc x.d x.s x.k x.l x.n x.f)) ∧ Keep nil w w' := by
  obtain ⟨k, c1, c2, hx, h1, h2, hc, hl⟩ := hx
  exact read_yes bb bo cap l w hrow hbb hcap hlen hb k x hx c1 c2 h1 h2 hc hl

set_option maxHeartbeats 1000000 in
theorem decode_yes (bb bo cap : Nat) (l : List Nat) (w : World) (hrow : Row w bb bo l) (hbb : bb < w.heap.size) (hcap : l.length ≤ cap) (hlen : l.length < 140737488355328) (hb : ∀ x ∈ l, x < 256) (x : Six) (hx : ReadOk l x) :
    Calls Tryz.prog 128 #[.slice (some ⟨bb, bo, none⟩) l.length cap] w fun e w' => e = .returned (.tuple #[.agg (fc x.d x.s x.k x.l x.n x.f), .int .i64 0]) ∧ Keep nil w w' := by
  have hmf : ∀ (fn : Fn) (first cap : Array Value) (w : World), (Instr.makeFunc fn first cap).run Tryz.prog w = .ok (.func fn first cap) w := fun _ _ _ _ => rfl
  go_enter_defers Tryz.func128, Tryz.ntmps128
  go_wp2_with fail
  have r1 := (hrow.keep ((Keep.refl nil w).alloc (.cells (fc false 0 0 0 0 false) 78)) hbb (fun e => e)).keep ((Keep.refl nil _).alloc (.cells #[.int .i64 0] 32)) (by simp; omega) (fun e => e)
  refine (read_ok bb bo cap l _ r1 (by simp; omega) hcap hlen hb x hx).mono ?_
  rintro e w1 ⟨rfl, hk1⟩
  have b1 := ((Blk.new w (fc false 0 0 0 0 false) 78).old (.cells #[.int .i64 0] 32)).keep hk1 (fun e => e)
  have b2 := (Blk.new' (w.alloc (.cells (fc false 0 0 0 0 false) 78)) #[.int .i64 0] 32 (w.heap.size + 1) (by simp)).keep hk1 (fun e => e)
  have q0 := b1.cell 0
  have q1 := b1.cell 1
  have q2 := b1.cell 2
  have q3 := b1.cell 3
  have q4 := b1.cell 4
  have q5 := b1.cell 5
  have q6 := fun i => b1.frozen i
  have q7 := b2.cell 0
  have q8 := fun i => b2.frozen i
  simp at q0 q1 q2 q3 q4 q5 q7
  clear hx hrow hb r1
  go_wp2
  have k1 : Keep (only w.heap.size) w1 (put6 w1 w.heap.size x.d x.s x.k x.l x.n x.f) := (Keep.refl (only w.heap.size) w1).put6 w.heap.size (fun _ => rfl) x.d x.s x.k x.l x.n x.f
  have k2 : Keep (only (w.heap.size + 1)) (put6 w1 w.heap.size x.d x.s x.k x.l x.n x.f) ((put6 w1 w.heap.size x.d x.s x.k x.l x.n x.f).setCell ⟨w.heap.size + 1, 0, none⟩ (.int .i64 0)) := (Keep.refl (only (w.heap.size + 1)) _).setCell (p := ⟨w.heap.size + 1, 0, none⟩) (fun _ => rfl) _
  have d1 := (b1.put6 x.d x.s x.k x.l x.n x.f).keep k2 (by simp only [only]; omega)
  have d2 : Blk _ (w.heap.size + 1) #[.int .i64 0] 32 := (b2.keep k1 (by simp only [only]; omega)).set 0 (.int .i64 0)
  have kk : Keep nil w ((put6 w1 w.heap.size x.d x.s x.k x.l x.n x.f).setCell ⟨w.heap.size + 1, 0, none⟩ (.int .i64 0)) :=
    (((((Keep.refl nil w).alloc _).alloc _).trans hk1).put6 w.heap.size (fun h => by omega) x.d x.s x.k x.l x.n x.f).setCell (p := ⟨w.heap.size + 1, 0, none⟩) (fun h => by simp only at h; omega) _
  have z0 := d1.cell 0
  have z1 := d1.cell 1
  have z2 := d1.cell 2
  have z3 := d1.cell 3
  have z4 := d1.cell 4
  have z5 := d1.cell 5
  have z6 := d2.cell 0
  simp only [List.getElem?_toArray] at z0 z1 z2 z3 z4 z5 z6
  clear q0 q1 q2 q3 q4 q5 q6 q7 q8 k1 k2 d1 d2 b1 b2 hk1
  refine leaves_cons (f := 180) (args := #[.pointer (some ⟨w.heap.size, 0, none⟩), .pointer (some ⟨w.heap.size + 1, 0, none⟩)]) (by simp) (by simp [go_sem]) ?_
  refine (catch_idle _ _ _).mono ?_
  rintro e u' w'' ⟨rfl, rfl, rfl⟩
  refine ⟨.tuple #[.agg (fc x.d x.s x.k x.l x.n x.f), .int .i64 0], ?_, rfl, kk⟩
  simp [results, Tryz.results128, go_sem, z0, z1, z2, z3, z4, z5, z6]

set_option maxHeartbeats 1000000 in
theorem decode_no (bb bo cap : Nat) (l : List Nat) (w : World) (hrow : Row w bb bo l) (hbb : bb < w.heap.size) (hcap : l.length ≤ cap) (hlen : l.length < 140737488355328) (hb : ∀ x ∈ l, x < 256) (hno : ∀ x, ¬ ReadOk l x) :
    Calls Tryz.prog 128 #[.slice (some ⟨bb, bo, none⟩) l.length cap] w fun e w' => e = .returned (.tuple #[.agg (fc false 0 0 0 0 false), .int .i64 9]) ∧ Keep nil w w' := by
  have hmf : ∀ (fn : Fn) (first cap : Array Value) (w : World), (Instr.makeFunc fn first cap).run Tryz.prog w = .ok (.func fn first cap) w := fun _ _ _ _ => rfl
  have HN : Hid (∀ x, ¬ ReadOk l x) := hno
  clear hno
  go_enter_defers Tryz.func128, Tryz.ntmps128
  go_wp2_with fail
  have r1 := (hrow.keep ((Keep.refl nil w).alloc (.cells (fc false 0 0 0 0 false) 78)) hbb (fun e => e)).keep ((Keep.refl nil _).alloc (.cells #[.int .i64 0] 32)) (by simp; omega) (fun e => e)
  refine (read_no bb bo cap l _ r1 (by simp; omega) hcap hlen hb HN.out).mono ?_
  rintro e w1 ⟨rfl, hk1⟩
  have b1 := ((Blk.new w (fc false 0 0 0 0 false) 78).old (.cells #[.int .i64 0] 32)).keep hk1 (fun e => e)
  have b2 := (Blk.new' (w.alloc (.cells (fc false 0 0 0 0 false) 78)) #[.int .i64 0] 32 (w.heap.size + 1) (by simp)).keep hk1 (fun e => e)
  clear HN hrow hb r1
  refine leaves_cons (f := 180) (args := #[.pointer (some ⟨w.heap.size, 0, none⟩), .pointer (some ⟨w.heap.size + 1, 0, none⟩)]) (by simp) (by simp [go_sem]) ?_
  refine (catch_panicking w.heap.size (w.heap.size + 1) Six.zero 0 _ b1 b2 (by omega) (by omega)).mono ?_
  rintro e u' w2 ⟨rfl, rfl, d1, d2, hk2⟩
  have z0 := d1.cell 0
  have z1 := d1.cell 1
  have z2 := d1.cell 2
  have z3 := d1.cell 3
  have z4 := d1.cell 4
  have z5 := d1.cell 5
  have z6 := d2.cell 0
  simp at z0 z1 z2 z3 z4 z5 z6
  refine ⟨.tuple #[.agg (fc false 0 0 0 0 false), .int .i64 9], ?_, rfl, ?_⟩
  · simp [results, Tryz.results128, go_sem, z0, z1, z2, z3, z4, z5, z6]
  · exact ((((Keep.refl nil w).alloc _).alloc _).trans hk1).trans' hk2 (fun i hi e => by rcases e with e | e <;> omega)
end Go.Proofs.YtlfijfodklhplaaGreat
