/- A message came, an acknowledgement came, bytes came: walks of messageCame and In. -/
import Derived.Test.YtlfijfodklhplaaEndT
namespace Go.Proofs.Ytlfijfodklhplaa
open Go.RowKit
set_option linter.unusedVariables false

/-- Messages that are told: a row of the caller's own. -/
def Told (w w' : World) (b : Nat) (p' : Pl) (v : Value) (l : List Fr.Msg) : Prop := ∃ ta tc, v = .slice ta l.length tc ∧ RV w' 24 4 ta l.length tc (mcells l) ∧ ∀ g, inB ta g → w.heap.size ≤ g ∧ ¬ Mine b p' g

theorem take_await (e : En) (h : e.take.await < 65536) : e.take.answer = { e.take with out := e.take.out ++ [⟨false, e.take.await, Fr.none0⟩] } := by
  unfold En.answer; rw [if_pos h]
theorem take_await_no (e : En) (h : ¬ e.take.await < 65536) : e.take.answer = e.take := by
  unfold En.answer; rw [if_neg h]

theorem keep_out (e : En) (n : Nat) (m : Fr.Msg) : (e.keep n m).take.out = e.out := by
  unfold En.keep En.take
  split
  · split <;> rfl
  · rfl

set_option maxHeartbeats 2000000 in
theorem came_any (c : Array Value) (t : TypeId) (b o : Nat) (e : En) (p : Pl) (n : Nat) (m : Fr.Msg) (w : World) (h : Rep w c t b o e p) (hn : (n : Int) < 65536) (ho : (e.out.length : Int) < 1099511627000) :
    Calls Try.prog 32 #[.pointer (some ⟨b, o, none⟩), .agg (fc true (n : Int) (m.kind : Int) (m.level : Int) (m.name : Int) m.finding)] w fun r w' => ∃ v p', r = .returned v ∧ Told w w' b p' v (e.told n m) ∧ Rep w' c t b o (e.came n m) p' ∧ Step w w' b p p' := by
  have hbl := h.blk.lt
  have HR : Unit → Rep w c t b o e p := fun _ => h
  have HO : Unit → (e.out.length : Int) < 1099511627000 := fun _ => ho
  have HOUT : Unit → ((e.keep n m).take.out.length : Int) < 1099511627776 := fun _ => by rw [keep_out]; omega
  have HKEEP : Unit → ∀ w0, Keep nil w w0 → _ := fun _ w0 k0 => keep_any c t b o e p n m w0 (h.keep k0 (fun _ _ x => x)) hn
  clear h ho
  go_enter Try.func32, Try.ntmps32
  go_wp2_with fail
  go_region_with (go_at_call 41; refine (HKEEP () _ (((Keep.refl nil w).alloc _).drew)).mono ?_; rintro r w1 ⟨rfl, hr1, hs1⟩)
  all_goals
    have HS1 : Unit → _ := fun _ => (⟨hr1, hs1⟩ : _ ∧ _)
    clear hr1 hs1 HKEEP
    go_wp2_with fail
    refine (take_any c t b o (e.keep n m) p w1 (HS1 ()).1).mono ?_
    rintro r w2 ⟨ta, tc, rfl, hrv, hta, hr2, hs2⟩
    have q2 := hr2.c2
    have haw : ((e.keep n m).take.await : Int) ≤ 65536 := by have := hr2.awt; omega
    have HS2 : Unit → _ := fun _ => (⟨hrv, hta, hr2, hs2⟩ : _ ∧ _ ∧ _ ∧ _)
    clear hrv hta hr2 hs2
    by_cases hlt : (e.keep n m).take.await < 65536
    · have hltI : ((e.keep n m).take.await : Int) < 65536 := by omega
      have HL : Unit → (e.keep n m).take.await < 65536 := fun _ => hlt
      clear hlt
      obtain ⟨aw, hawe⟩ : ∃ aw, aw = (e.keep n m).take.await := ⟨_, rfl⟩
      rw [← hawe] at q2 hltI
      have HA : Unit → aw = (e.keep n m).take.await := fun _ => hawe
      clear hawe haw
      go_wp2_with fail
      have hf : FrOk ⟨false, aw, Fr.none0⟩ := ⟨by have := HL (); have := HA (); simp only; omega, Or.inr ⟨rfl, rfl⟩⟩
      refine (goesOut_any c t b o (e.keep n m).take p ⟨false, aw, Fr.none0⟩ hf w2 (HS2 ()).2.2.1 (HOUT ())).mono ?_
      rintro r w3 ⟨rfl, p3, hr3, hs3⟩
      have HS3 : Unit → _ := fun _ => (⟨hr3, hs3⟩ : _ ∧ _)
      clear hr3 hs3
      go_wp2
      go_ret
      obtain ⟨hrv, hta, hr2, hs2⟩ := HS2 ()
      obtain ⟨hr3, hs3⟩ := HS3 ()
      have hs0 : Step w w1 b p p := (Step.of_keep b p (((Keep.refl nil w).alloc _).drew)).trans (HS1 ()).2
      refine ⟨_, p3, rfl, ⟨ta, tc, rfl, hrv.keep hs3.keep (fun g hg x => (hta g hg).2 x.mine), fun g hg => ⟨Nat.le_trans hs0.keep.size (hta g hg).1, fun x => (hs3.mine g x).elim (hta g hg).2 (fun y => by have := hrv.lt g hg; omega)⟩⟩, ?_, (hs0.trans hs2).trans hs3⟩
      unfold En.came
      rw [take_await _ (HL ()), ← HA ()]
      exact hr3
    · have hltI : ((e.keep n m).take.await : Int) = 65536 := by omega
      have HL : Unit → ¬ (e.keep n m).take.await < 65536 := fun _ => hlt
      rw [hltI] at q2
      clear hlt haw hltI
      go_wp2
      go_ret
      obtain ⟨hrv, hta, hr2, hs2⟩ := HS2 ()
      have hs0 : Step w w1 b p p := (Step.of_keep b p (((Keep.refl nil w).alloc _).drew)).trans (HS1 ()).2
      refine ⟨_, p, rfl, ⟨ta, tc, rfl, hrv, fun g hg => ⟨Nat.le_trans hs0.keep.size (hta g hg).1, (hta g hg).2⟩⟩, ?_, hs0.trans hs2⟩
      unfold En.came
      rw [take_await_no _ (HL ())]
      exact hr2
end Go.Proofs.Ytlfijfodklhplaa
