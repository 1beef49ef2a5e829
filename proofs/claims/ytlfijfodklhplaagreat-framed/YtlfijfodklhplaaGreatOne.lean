/- Walks of the reader's steps: one, two, flag. -/
import Derived.Test.YtlfijfodklhplaaGreatLeaf
namespace Go.Proofs.YtlfijfodklhplaaGreat
open Go.RowKit
set_option linter.unusedVariables false

/-- The reader lies in block rb; it goes through a slice that is 'l', and stands at 'at'. -/
structure Rd (w : World) (rb : Nat) (bb bo cap : Nat) (l : List Nat) (k : Nat) : Prop where
  blk : Blk w rb #[.slice (some ⟨bb, bo, none⟩) l.length cap, .int .i64 (k : Int)] 330
  row : Row w bb bo l
  ne : bb ≠ rb
  bb : bb < w.heap.size
  len : l.length < 140737488355328
  byte : ∀ x ∈ l, x < 256

theorem Rd.keep {ex : Nat → Prop} {w w' : World} {rb bb bo cap : Nat} {l : List Nat} {k : Nat} (h : Rd w rb bb bo cap l k) (g : Keep ex w w') (h1 : ¬ ex rb) (h2 : ¬ ex bb) : Rd w' rb bb bo cap l k :=
  ⟨h.blk.keep g h1, h.row.keep g h.bb h2, h.ne, Nat.lt_of_lt_of_le h.bb g.size, h.len, h.byte⟩
theorem Rd.next {w : World} {rb bb bo cap : Nat} {l : List Nat} {k : Nat} (h : Rd w rb bb bo cap l k) : Rd (w.setCell ⟨rb, 1, none⟩ (.int .i64 ((k : Int) + 1))) rb bb bo cap l (k + 1) := by
  have hk : Keep (only rb) w (w.setCell ⟨rb, 1, none⟩ (.int .i64 ((k : Int) + 1))) := (Keep.refl (only rb) w).setCell (p := ⟨rb, 1, none⟩) (fun _ => rfl) _
  exact ⟨by simpa using h.blk.set 1 (.int .i64 ((k : Int) + 1)), h.row.keep hk h.bb h.ne, h.ne, by simpa using h.bb, h.len, h.byte⟩
theorem Rd.drewN {w : World} {rb bb bo cap : Nat} {l : List Nat} {k : Nat} (h : Rd w rb bb bo cap l k) (n : Nat) : Rd (w.drewN n) rb bb bo cap l k :=
  h.keep ((Keep.refl nil w).drewN n) (fun e => e) (fun e => e)

theorem Rd.alloc {w : World} {rb bb bo cap : Nat} {l : List Nat} {k : Nat} (h : Rd w rb bb bo cap l k) (o : Obj) : Rd (w.alloc o) rb bb bo cap l k :=
  h.keep ((Keep.refl nil w).alloc o) (fun e => e) (fun e => e)
theorem Rd.setCell {w : World} {rb bb bo cap : Nat} {l : List Nat} {k : Nat} (h : Rd w rb bb bo cap l k) (p : Addr) (v : Value) (h1 : p.block ≠ rb) (h2 : p.block ≠ bb) : Rd (w.setCell p v) rb bb bo cap l k :=
  h.keep ((Keep.refl (only p.block) w).setCell (fun _ => rfl) v) (fun e => h1 e.symm) (fun e => h2 e.symm)
theorem Rd.lt {w : World} {rb bb bo cap : Nat} {l : List Nat} {k : Nat} (h : Rd w rb bb bo cap l k) : rb < w.heap.size := h.blk.lt

set_option maxHeartbeats 400000 in
theorem one_yes (rb bb bo cap : Nat) (l : List Nat) (k : Nat) (w : World) (hr : Rd w rb bb bo cap l k) (hk : k < l.length) :
    Calls Tryz.prog 225 #[.pointer (some ⟨rb, 0, none⟩)] w fun e w' => e = .returned (.int .i64 ((l[k] : Nat) : Int)) ∧ Rd w' rb bb bo cap l (k + 1) ∧ Keep (only rb) w w' := by
  have c0 := hr.blk.cell 0
  have c1 := hr.blk.cell 1
  have f1 := hr.blk.frozen 1
  simp at c0 c1
  have hlen := hr.len
  have hx := hr.byte _ (List.getElem_mem hk)
  have hne := hr.ne
  have hrow : ∀ n, ((w.drewN n).setCell ⟨rb, 1, none⟩ (.int .i64 ((k : Int) + 1))).cell? ⟨bb, bo + k, none⟩ = some (.int .u8 ((l[k] : Nat) : Int)) := fun n => (hr.drewN n).next.row k hk
  go_enter Tryz.func225, Tryz.ntmps225
  go_wp2
  go_quiet ((go_at_call 210; exact Calls.quiet_of_same (must_yes _)))
  go_wp2
  go_quiet (fail)
  go_wp2
  go_ret
  exact ⟨rfl, (hr.drewN _).next.drewN _, (((Keep.refl (only rb) w).drewN _).setCell (p := ⟨rb, 1, none⟩) (fun _ => rfl) _).drewN _⟩

set_option maxHeartbeats 400000 in
theorem one_no (rb bb bo cap : Nat) (l : List Nat) (k : Nat) (w : World) (hr : Rd w rb bb bo cap l k) (hk : l.length ≤ k) :
    Calls Tryz.prog 225 #[.pointer (some ⟨rb, 0, none⟩)] w fun e w' => e = .panicked noFrame ∧ Keep (only rb) w w' := by
  have c0 := hr.blk.cell 0
  have c1 := hr.blk.cell 1
  simp at c0 c1
  have hd : decide (k < l.length) = false := by simpa using hk
  go_enter Tryz.func225, Tryz.ntmps225
  go_wp2
  go_region_dies
  all_goals
    refine (must_no _).mono ?_
    rintro e w' ⟨rfl, rfl⟩
    exact ⟨rfl, rfl, (Keep.refl _ _).drew⟩
end Go.Proofs.YtlfijfodklhplaaGreat
