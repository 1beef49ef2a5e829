/- Bytes come: walks of In of package link, and of the calls of package arbor that hand on to it. -/
import Derived.Test.YtlfijfodklhplaaEndC
namespace Go.Proofs.Ytlfijfodklhplaa
open Go.RowKit
set_option linter.unusedVariables false

/-- Bytes that lie in memory. -/
structure Lies (w : World) (bb bo cap : Nat) (l : List Nat) : Prop where
  row : Row w bb bo l
  lt : bb < w.heap.size
  cap : l.length ≤ cap
  len : l.length < 140737488355328
  byte : ∀ x ∈ l, x < 256
theorem Lies.keep {ex : Nat → Prop} {w w' : World} {bb bo cap : Nat} {l : List Nat} (h : Lies w bb bo cap l) (k : Keep ex w w') (hn : ¬ ex bb) : Lies w' bb bo cap l := ⟨h.row.keep k h.lt hn, Nat.lt_of_lt_of_le h.lt k.size, h.cap, h.len, h.byte⟩

set_option maxHeartbeats 2000000 in
theorem linkIn_no (b o bb bo cap : Nat) (l : List Nat) (w : World) (hl : Lies w bb bo cap l) (hno : ∀ x, ¬ ReadOk l x) :
    Calls Try.prog 19 #[.pointer (some ⟨b, o, none⟩), .slice (some ⟨bb, bo, none⟩) l.length cap] w fun r w' => r = .returned (.slice none 0 0) ∧ Keep nil w w' := by
  have HD : Unit → _ := fun _ => decode_no bb bo cap l w hl.row hl.lt hl.cap hl.len hl.byte hno
  clear hl hno
  go_enter Try.func19, Try.ntmps19
  go_wp2_with fail
  refine (HD ()).mono ?_
  rintro r w1 ⟨rfl, hk1⟩
  clear HD
  go_wp2
  go_ret
  exact ⟨rfl, hk1.alloc _⟩

set_option maxHeartbeats 2000000 in
theorem linkIn_ack (c : Array Value) (t : TypeId) (b o : Nat) (e : En) (p : Pl) (bb bo cap n : Nat) (l : List Nat) (w : World) (h : Rep w c t b o e p) (hl : Lies w bb bo cap l) (hx : ReadOk l (six ⟨false, n, Fr.none0⟩)) (hn : (n : Int) < 65536) (ho : (e.out.length : Int) < 1099511627000) :
    Calls Try.prog 19 #[.pointer (some ⟨b, o, none⟩), .slice (some ⟨bb, bo, none⟩) l.length cap] w fun r w' => r = .returned (.slice none 0 0) ∧ ∃ p', Rep w' c t b o (e.ack n) p' ∧ Step w w' b p p' := by
  have HD : Unit → _ := fun _ => decode_yes bb bo cap l w hl.row hl.lt hl.cap hl.len hl.byte _ hx
  have HR : Unit → _ := fun _ => h
  have HO : Unit → (e.out.length : Int) < 1099511627000 := fun _ => ho
  clear h hl hx ho
  go_enter Try.func19, Try.ntmps19
  go_wp2_with fail
  refine (HD ()).mono ?_
  rintro r w1 ⟨rfl, hk1⟩
  clear HD
  simp only [six]
  go_wp2_with fail
  have hk2 : Keep nil w (w1.alloc (.cells (fc false (n : Int) 0 0 0 false) 26)) := hk1.alloc _
  refine (acked_any c t b o e p n _ ((HR ()).keep hk2 (fun _ _ x => x)) (by omega) (HO ())).mono ?_
  rintro r w2 ⟨rfl, p2, hr2, hs2⟩
  go_wp2
  go_ret
  exact ⟨rfl, p2, hr2, (Step.of_keep b p hk2).trans hs2⟩

set_option maxHeartbeats 2000000 in
theorem linkIn_msg (c : Array Value) (t : TypeId) (b o : Nat) (e : En) (p : Pl) (bb bo cap n : Nat) (m : Fr.Msg) (l : List Nat) (w : World) (h : Rep w c t b o e p) (hl : Lies w bb bo cap l) (hx : ReadOk l (six ⟨true, n, m⟩)) (hn : (n : Int) < 65536) (ho : (e.out.length : Int) < 1099511627000) :
    Calls Try.prog 19 #[.pointer (some ⟨b, o, none⟩), .slice (some ⟨bb, bo, none⟩) l.length cap] w fun r w' => ∃ v p', r = .returned v ∧ Told w w' b p' v (e.told n m) ∧ Rep w' c t b o (e.came n m) p' ∧ Step w w' b p p' := by
  have HD : Unit → _ := fun _ => decode_yes bb bo cap l w hl.row hl.lt hl.cap hl.len hl.byte _ hx
  have HR : Unit → _ := fun _ => h
  have HO : Unit → (e.out.length : Int) < 1099511627000 := fun _ => ho
  clear h hl hx ho
  go_enter Try.func19, Try.ntmps19
  go_wp2_with fail
  refine (HD ()).mono ?_
  rintro r w1 ⟨rfl, hk1⟩
  clear HD
  simp only [six]
  go_wp2_with fail
  have hk2 : Keep nil w (w1.alloc (.cells (fc true (n : Int) (m.kind : Int) (m.level : Int) (m.name : Int) m.finding) 26)) := hk1.alloc _
  refine (came_any c t b o e p n m _ ((HR ()).keep hk2 (fun _ _ x => x)) hn (HO ())).mono ?_
  rintro r w2 ⟨v, p2, rfl, ⟨ta, tc, rfl, hrv, hta⟩, hr2, hs2⟩
  go_wp2
  go_ret
  exact ⟨_, p2, rfl, ⟨ta, tc, rfl, hrv, fun g hg => ⟨Nat.le_trans hk2.size (hta g hg).1, (hta g hg).2⟩⟩, hr2, (Step.of_keep b p hk2).trans hs2⟩
end Go.Proofs.Ytlfijfodklhplaa
