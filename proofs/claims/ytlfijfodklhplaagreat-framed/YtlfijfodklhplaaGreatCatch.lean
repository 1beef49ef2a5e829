/- The deferred closure of frame.Decode: it catches the reader's panic, or finds none. -/
import Derived.Test.YtlfijfodklhplaaGreatRead
import Derived.Defers
import Derived.Recover
import Derived.LaidEql
namespace Go.Proofs.YtlfijfodklhplaaGreat
open Go.RowKit
set_option linter.unusedVariables false

theorem assert_own (w : World) : (Instr.typeAssert (.iface 279 (.agg #[])) 20 279 true).run Tryz.prog w = .ok (.tuple #[.agg #[], .bool true]) w := by kernel_rfl
theorem frame_own (a b : Value) : #[a, b] ++ Array.replicate (Tryz.f180.ntmps - #[a, b].size) undef = #[a, b, undef, undef, undef, undef, undef, undef, undef, undef, undef, undef, undef, undef, undef, undef, undef] := by rw [Tryz.ntmps180]; rfl

set_option maxHeartbeats 400000 in
theorem catch_idle (pf pe : Addr) (w : World) :
    CallsD Tryz.prog 180 #[.pointer (some pf), .pointer (some pe)] .returning w fun e u' w' => e = .returned (.tuple #[]) ∧ u' = .returning ∧ w' = w := by
  refine callsD_of_wpS Tryz.func180 rfl fun c₀ cs hu => ?_
  rw [frame_own]
  apply wpS_seq
  apply wpS_region
  simp [wpOpsS, go_sem, recoverD, hu, Exit.thenS]
  refine wpS_of_wp ?_
  go_wp2
  exact ⟨rfl, _, by rw [← hu], .tuple #[], by simp [results, Tryz.results180, go_sem], rfl, rfl, rfl⟩

set_option maxHeartbeats 1000000 in
theorem catch_panicking (bf be : Nat) (x : Six) (n : Int) (w : World) (hf : Blk w bf (fc x.d x.s x.k x.l x.n x.f) 78) (he : Blk w be #[.int .i64 n] 32) (hne : ¬ be = bf) (hne' : ¬ bf = be) :
    CallsD Tryz.prog 180 #[.pointer (some ⟨bf, 0, none⟩), .pointer (some ⟨be, 0, none⟩)] (.panicking noFrame) w fun e u' w' =>
      e = .returned (.tuple #[]) ∧ u' = .panicking [{ v := .iface 279 (.agg #[]), recovered := true }] ∧ Blk w' bf (fc false 0 0 0 0 false) 78 ∧ Blk w' be #[.int .i64 9] 32 ∧ Keep (fun k => k = bf ∨ k = be) w w' := by
  unfold noFrame
  have hta := assert_own
  refine callsD_of_wpS Tryz.func180 rfl fun c₀ cs hu => ?_
  rw [frame_own]
  apply wpS_seq
  apply wpS_region
  simp [wpOpsS, go_sem, recoverD, hu, Exit.thenS]
  refine wpS_of_wp ?_
  clear hu
  have q0 := hf.cell 0
  have q1 := hf.cell 1
  have q2 := hf.cell 2
  have q3 := hf.cell 3
  have q4 := hf.cell 4
  have q5 := hf.cell 5
  have q6 := fun i => hf.frozen i
  have q7 := he.cell 0
  have q8 := fun i => he.frozen i
  have q9 := hf.lt
  have q10 := he.lt
  simp at q0 q1 q2 q3 q4 q5 q7
  go_wp2
  have k1 : Keep (only bf) w (put6 w bf false 0 0 0 0 false) := (Keep.refl (only bf) w).put6 bf (fun _ => rfl) false 0 0 0 0 false
  have k2 : Keep (only be) (put6 w bf false 0 0 0 0 false) ((put6 w bf false 0 0 0 0 false).setCell ⟨be, 0, none⟩ (.int .i64 9)) := (Keep.refl (only be) _).setCell (p := ⟨be, 0, none⟩) (fun _ => rfl) _
  have b1 : Blk _ be #[.int .i64 9] 32 := (he.keep k1 (fun e => hne e)).set 0 (.int .i64 9)
  have b2 := (hf.put6 false 0 0 0 0 false).keep k2 (fun e => hne' e)
  refine ⟨rfl, _, rfl, .tuple #[], by simp [results, Tryz.results180, go_sem], rfl, rfl, b2.old _, b1.old _, ?_⟩
  exact (((Keep.refl (fun k => k = bf ∨ k = be) w).put6 bf (fun _ => Or.inl rfl) false 0 0 0 0 false).setCell (p := ⟨be, 0, none⟩) (fun _ => Or.inr rfl) _).alloc _
end Go.Proofs.YtlfijfodklhplaaGreat
