/- The ends of package arbor: NewEnd, Send, In, Tick, Out. -/
import Derived.Test.YtlfijfodklhplaaEndI
namespace Go.Proofs.Ytlfijfodklhplaa
open Go.RowKit
set_option linter.unusedVariables false

def Pl.new : Pl := ⟨none, 0, none, 0, []⟩
abbrev zero24 : Array Value := #[.int .i64 0, .slice none 0 0, .int .i64 0, .int .i64 0, .int .i64 0, .int .i64 0, .bool false, .bool false, .int .i64 0, .int .i64 0, .int .i64 0, .bool false, .bool false, .int .i64 0, .int .i64 0, .int .i64 0, .bool false, .bool false, .int .i64 0, .int .i64 0, .int .i64 0, .bool false, .bool false, .slice none 0 0]
theorem cells_new : En.new.cells Pl.new = zero24.toList := rfl

set_option maxHeartbeats 1000000 in
theorem newEnd_any (w : World) :
    Calls Try.prog 8 #[] w fun r w' => r = .returned (.pointer (some ⟨w.heap.size, 0, none⟩)) ∧ Rep w' zero24 62 w.heap.size 0 En.new Pl.new ∧ Keep nil w w' := by
  go_enter Try.func8, Try.ntmps8
  go_wp2
  go_ret
  refine ⟨rfl, ?_, (Keep.refl nil w).alloc _⟩
  refine { blk := ?_, fit := by simp, four := rfl, wrow := RV.nil _ _ _, orow := RV.nil _ _ _, gl := rfl, bufs := fun i g f hg => by simp [Pl.new] at hg, wb := inB_none _, ob := inB_none _, wo := fun k hk => (inB_none k hk).elim, gw := fun k hk => by simp [Pl.new] at hk, gn := List.nodup_nil, wok := fun m hm => by simp [En.new] at hm, most := by simp [En.new], awt := by simp [En.new], kn := ?_, fok := fun f hf => by simp [En.new] at hf }
  · rw [put_self _ _ (by rw [cells_new]; rfl), cells_new]
    exact Blk.new w zero24 62
  · intro i m hm
    match i, hm with
    | 0, hm => simp [En.new] at hm
    | 1, hm => simp [En.new] at hm
    | 2, hm => simp [En.new] at hm
    | 3, hm => simp [En.new] at hm
    | i + 4, hm => simp [En.new] at hm

set_option maxHeartbeats 1000000 in
theorem tick_any (c : Array Value) (t : TypeId) (b o : Nat) (e : En) (p : Pl) (w : World) (h : Rep w c t b o e p) (hn : (e.out.length : Int) < 1099511627000) :
    Calls Try.prog 11 #[.pointer (some ⟨b, o, none⟩)] w fun r w' => r = .returned (.tuple #[]) ∧ ∃ p', Rep w' c t b o e.tick p' ∧ Step w w' b p p' := by
  have HR : Unit → _ := fun _ => h
  clear h
  go_enter Try.func11, Try.ntmps11
  go_wp2_with fail
  refine (linkTick_any c t b o e p w (HR ()) hn).mono ?_
  rintro r w2 ⟨rfl, p2, hr2, hs2⟩
  go_wp2
  go_end0
  exact ⟨rfl, p2, hr2, hs2⟩

set_option maxHeartbeats 1000000 in
theorem out_any (c : Array Value) (t : TypeId) (b o : Nat) (e : En) (p : Pl) (w : World) (h : Rep w c t b o e p) :
    Calls Try.prog 14 #[.pointer (some ⟨b, o, none⟩)] w fun r w' => r = .returned (.slice p.oa e.out.length p.oc) ∧ Rep w' c t b o e.outs { p with oa := none, oc := 0, gs := [] } ∧ Keep (only b) w w' := by
  have HR : Unit → _ := fun _ => h
  clear h
  go_enter Try.func14, Try.ntmps14
  go_wp2_with fail
  refine (linkOut_any c t b o e p w (HR ())).mono ?_
  rintro r w2 ⟨rfl, hr2, hk2⟩
  go_wp2
  go_ret
  exact ⟨rfl, hr2, hk2⟩

set_option maxHeartbeats 1000000 in
theorem in_no (b o bb bo cap : Nat) (l : List Nat) (w : World) (hl : Lies w bb bo cap l) (hno : ∀ x, ¬ ReadOk l x) :
    Calls Try.prog 12 #[.pointer (some ⟨b, o, none⟩), .slice (some ⟨bb, bo, none⟩) l.length cap] w fun r w' => r = .returned (.slice none 0 0) ∧ Keep nil w w' := by
  have HD : Unit → _ := fun _ => linkIn_no b o bb bo cap l w hl hno
  clear hl hno
  go_enter Try.func12, Try.ntmps12
  go_wp2_with fail
  refine (HD ()).mono ?_
  rintro r w1 ⟨rfl, hk1⟩
  go_wp2
  go_ret
  exact ⟨rfl, hk1⟩

set_option maxHeartbeats 1000000 in
theorem in_ack (c : Array Value) (t : TypeId) (b o : Nat) (e : En) (p : Pl) (bb bo cap n : Nat) (l : List Nat) (w : World) (h : Rep w c t b o e p) (hl : Lies w bb bo cap l) (hx : ReadOk l (six ⟨false, n, Fr.none0⟩)) (hn : (n : Int) < 65536) (ho : (e.out.length : Int) < 1099511627000) :
    Calls Try.prog 12 #[.pointer (some ⟨b, o, none⟩), .slice (some ⟨bb, bo, none⟩) l.length cap] w fun r w' => r = .returned (.slice none 0 0) ∧ ∃ p', Rep w' c t b o (e.ack n) p' ∧ Step w w' b p p' := by
  have HD : Unit → _ := fun _ => linkIn_ack c t b o e p bb bo cap n l w h hl hx hn ho
  clear h hl hx hn ho
  go_enter Try.func12, Try.ntmps12
  go_wp2_with fail
  refine (HD ()).mono ?_
  rintro r w1 ⟨rfl, hk1⟩
  go_wp2
  go_ret
  exact ⟨rfl, hk1⟩

set_option maxHeartbeats 1000000 in
theorem in_msg (c : Array Value) (t : TypeId) (b o : Nat) (e : En) (p : Pl) (bb bo cap n : Nat) (m : Fr.Msg) (l : List Nat) (w : World) (h : Rep w c t b o e p) (hl : Lies w bb bo cap l) (hx : ReadOk l (six ⟨true, n, m⟩)) (hn : (n : Int) < 65536) (ho : (e.out.length : Int) < 1099511627000) :
    Calls Try.prog 12 #[.pointer (some ⟨b, o, none⟩), .slice (some ⟨bb, bo, none⟩) l.length cap] w fun r w' => ∃ v p', r = .returned v ∧ Told w w' b p' v (e.told n m) ∧ Rep w' c t b o (e.came n m) p' ∧ Step w w' b p p' := by
  have HD : Unit → _ := fun _ => linkIn_msg c t b o e p bb bo cap n m l w h hl hx hn ho
  clear h hl hx hn ho
  go_enter Try.func12, Try.ntmps12
  go_wp2_with fail
  refine (HD ()).mono ?_
  rintro r w1 ⟨v, p2, rfl, h2⟩
  go_wp2
  go_ret
  exact ⟨_, p2, rfl, h2⟩

set_option maxHeartbeats 1000000 in
theorem send_no (b o : Nat) (k l n : Int) (f : Bool) (hm : may k l n f = false) (w : World) :
    Calls Try.prog 9 #[.pointer (some ⟨b, o, none⟩), .agg #[.int .i64 k, .int .i64 l, .int .i64 n, .bool f]] w fun r w' => r = .returned (.int .i64 10) ∧ Keep nil w w' := by
  go_enter Try.func9, Try.ntmps9
  go_wp2_with fail
  go_region_with (go_at_call 17; refine (linkSend_no b o k l n f hm _).mono ?_; rintro r w1 ⟨rfl, hk1⟩)
  all_goals
    go_wp2
    go_ret
    exact ⟨rfl, (((Keep.refl nil w).alloc _).drew).trans hk1⟩

set_option maxHeartbeats 1000000 in
theorem send_full (c : Array Value) (t : TypeId) (b o : Nat) (e : En) (p : Pl) (m : Fr.Msg) (hm : MOk m) (w : World) (h : Rep w c t b o e p) (hf : e.first + e.wait.length = 65536) :
    Calls Try.prog 9 #[.pointer (some ⟨b, o, none⟩), mv m] w fun r w' => r = .returned (.int .i64 1) ∧ Keep nil w w' := by
  have HS : Unit → ∀ w0, Keep nil w w0 → _ := fun _ w0 k0 => linkSend_full c t b o e p m hm w0 (h.keep k0 (fun _ _ x => x)) hf
  clear hm h hf
  go_enter Try.func9, Try.ntmps9
  go_wp2_with fail
  go_region_with (go_at_call 17; refine (HS () _ (((Keep.refl nil w).alloc _).drew)).mono ?_; rintro r w1 ⟨rfl, hk1⟩)
  all_goals
    go_wp2
    go_ret
    exact ⟨rfl, (((Keep.refl nil w).alloc _).drew).trans hk1⟩

set_option maxHeartbeats 1000000 in
theorem send_yes (c : Array Value) (t : TypeId) (b o : Nat) (e : En) (p : Pl) (m : Fr.Msg) (hm : MOk m) (w : World) (h : Rep w c t b o e p) (hf : e.first + e.wait.length < 65536) (hn : (e.out.length : Int) < 1099511627000) :
    Calls Try.prog 9 #[.pointer (some ⟨b, o, none⟩), mv m] w fun r w' => r = .returned (.int .i64 0) ∧ ∃ p', Rep w' c t b o (e.send m) p' ∧ Step w w' b p p' := by
  have HS : Unit → ∀ w0, Keep nil w w0 → _ := fun _ w0 k0 => linkSend_yes c t b o e p m hm w0 (h.keep k0 (fun _ _ x => x)) hf hn
  clear hm h hf hn
  go_enter Try.func9, Try.ntmps9
  go_wp2_with fail
  go_region_with (go_at_call 17; refine (HS () _ (((Keep.refl nil w).alloc _).drew)).mono ?_; rintro r w1 ⟨rfl, p1, hr1, hs1⟩)
  all_goals
    go_wp2
    go_ret
    exact ⟨rfl, p1, hr1, (Step.of_keep b p (((Keep.refl nil w).alloc _).drew)).trans hs1⟩
end Go.Proofs.Ytlfijfodklhplaa
