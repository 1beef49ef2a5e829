/- Frames go out for what is shown: walk of showFrom. -/
import Derived.Test.YtlfijfodklhplaaEndG
namespace Go.Proofs.Ytlfijfodklhplaa
open Go.RowKit
set_option linter.unusedVariables false

/-- What has gone out when j of the shown ones have. -/
def En.some (e : En) (k j : Nat) : En := { e with out := e.out ++ En.frames (e.first + k) (((e.wait.take 4).drop k).take j) }
theorem some_zero (e : En) (k : Nat) : e.some k 0 = e := by simp [En.some, En.frames]
theorem some_all (e : En) (k j : Nat) (h : e.shown ≤ k + j) : e.some k j = e.showFrom k := by
  unfold En.some En.showFrom
  rw [List.take_of_length_le]
  simp [En.shown] at h ⊢
  omega
theorem some_succ (e : En) (k j : Nat) (m : Fr.Msg) (h : k + j < 4) (hm : e.wait[k + j]? = some m) : { e.some k j with out := (e.some k j).out ++ [⟨true, e.first + (k + j), m⟩] } = e.some k (j + 1) := by
  unfold En.some
  have hl : k + j < e.wait.length := (List.getElem?_eq_some_iff.1 hm).1
  have h1 : ((e.wait.take 4).drop k).take (j + 1) = ((e.wait.take 4).drop k).take j ++ [m] := by
    rw [List.take_add_one, List.getElem?_drop, List.getElem?_take_of_lt h, hm]; rfl
  have h2 : (((e.wait.take 4).drop k).take j).length = j := by simp; omega
  rw [h1, frames_append, h2]
  simp [En.frames, Nat.add_assoc]

theorem some_len (e : En) (k j : Nat) : (e.some k j).out.length ≤ e.out.length + 4 := by
  simp [En.some, frames_len]; omega

set_option maxHeartbeats 1000000 in
theorem showFrom_any (c : Array Value) (t : TypeId) (b o : Nat) (e : En) (p : Pl) (k : Nat) (w : World) (h : Rep w c t b o e p) (hn : (e.out.length : Int) < 1099511627000) (hk : (k : Int) ≤ 4) :
    Calls Try.prog 31 #[.pointer (some ⟨b, o, none⟩), .int .i64 (k : Int)] w fun r w' => r = .returned (.tuple #[]) ∧ ∃ p', Rep w' c t b o (e.showFrom k) p' ∧ Step w w' b p p' := by
  have HR : Unit → Rep w c t b o e p := fun _ => h
  clear h
  go_enter Try.func31, Try.ntmps31
  go_wp2_with fail
  go_loopw [4] (fun v wr => ∃ (q j : Nat) (p1 : Pl), q = k + j ∧ q ≤ 4 ∧ v = .int .i64 (q : Int) ∧ Rep wr c t b o (e.some k j) p1 ∧ Step w wr b p p1) (fun v _ => 4 - (intOf v).toNat)
  case atStart => exact ⟨k, 0, p, rfl, by omega, rfl, by rw [some_zero]; exact HR (), Step.refl _ _ _⟩
  case round =>
    obtain ⟨q, j, p1, hq, hq4, rfl, hr, hs⟩ := hrel
    have q1 := hr.c1
    have hml : (e.wait.length : Int) ≤ 65536 := by have := (HR ()).most; omega
    have hmf : (e.first : Int) ≤ 65536 := by have := (HR ()).most; omega
    have q0 := hr.c0
    have HRR : Unit → Rep wr c t b o (e.some k j) p1 := fun _ => hr
    have HS : Unit → Step w wr b p p1 := fun _ => hs
    have ew : (e.some k j).wait = e.wait := rfl
    have ef : (e.some k j).first = e.first := rfl
    rw [ew] at q1
    rw [ef] at q0
    clear hr hs ew ef
    have HQ : Unit → q = k + j := fun _ => hq
    clear hq
    go_wp2_with fail
    refine (shown_any b o e.wait.length p1.wc p1.wa _ q1 hml).mono ?_
    rintro r w1 ⟨rfl, rfl⟩
    by_cases hlt : q < min e.wait.length 4
    · have hq5 : (q : Int) < 4 := by omega
      have hlt' : (q : Int) < ((min e.wait.length 4 : Nat) : Int) := by omega
      generalize hmin : min e.wait.length 4 = mn at *
      have HM : Unit → min e.wait.length 4 = mn := fun _ => hmin
      clear hmin
      have hql : q < e.wait.length := by have := HM (); omega
      obtain ⟨g, wo, hwa⟩ : ∃ g wo, p1.wa = some ⟨g, wo, none⟩ := by
        rcases (HRR ()).wrow.2.2 with ⟨_, h0, _⟩ | ⟨g, wo, h0, _⟩
        · have : e.wait.length = 0 := h0
          omega
        · exact ⟨g, wo, h0⟩
      have hvb : VBo wr g wo 24 4 (mcells e.wait) p1.wc := by
        rcases (HRR ()).wrow.2.2 with ⟨h0, _⟩ | ⟨g', wo', h0, hv⟩
        · rw [hwa] at h0; cases h0
        · rw [hwa] at h0; cases h0; exact hv
      rw [hwa] at q1
      have hcell : ∀ i u, (mcell e.wait[q])[i]? = some u → wr.cell? ⟨g, wo + q * 4 + i, none⟩ = some u := fun i u hu => by
        have hi : i < 4 := by have := (List.getElem?_eq_some_iff.1 hu).1; simpa [mcell] using this
        have := hvb.cell (q * 4 + i) u (by rw [mcells_get e.wait q _ (List.getElem?_eq_getElem hql) i hi]; exact hu)
        rw [← Nat.add_assoc] at this
        exact this
      obtain ⟨m, hm⟩ : ∃ m, e.wait[q] = m := ⟨_, rfl⟩
      rw [hm] at hcell
      have HMM : Unit → e.wait[q]? = some m := fun _ => by rw [List.getElem?_eq_getElem hql, hm]
      have HC : Unit → ∀ i u, (mcell m)[i]? = some u → wr.cell? ⟨g, wo + q * 4 + i, none⟩ = some u := fun _ => hcell
      clear hcell hm hvb
      go_wp2_with fail
      refine (frame_any b o g wo e.first q e.wait.length p1.wc m wr q0 q1 hmf hql hml (HC ())).mono ?_
      rintro r w1 ⟨rfl, hk1⟩
      have hfr : FrOk ⟨true, e.first + q, m⟩ := by
        have h1 := (HR ()).wok m (List.mem_of_getElem? (HMM ()))
        have h2 := (HR ()).most
        exact ⟨by simp only; omega, Or.inl ⟨rfl, h1⟩⟩
      have hr1 := (HRR ()).keep hk1 (fun _ _ x => x)
      go_wp2_with fail
      refine (goesOut_any c t b o (e.some k j) p1 ⟨true, e.first + q, m⟩ hfr w1 hr1 ?_).mono ?_
      · have := some_len e k j
        omega
      rintro r w2 ⟨rfl, p2, hr2, hs2⟩
      go_wp2
      go_roundw
      case rel =>
        refine ⟨q + 1, j + 1, p2, by have := HQ (); omega, by have := HM (); omega, by go_num, ?_, ?_⟩
        · have := some_succ e k j m (by have := HM (); have := HQ (); omega) (by rw [← HQ ()]; exact HMM ())
          rw [← HQ ()] at this
          rw [← this]
          exact hr2
        · exact (HS ()).trans ((Step.of_keep b p1 hk1).trans hs2)
      case measure => simp [intOf]; omega
    · have hge : ((min e.wait.length 4 : Nat) : Int) ≤ (q : Int) := by omega
      generalize hmin : min e.wait.length 4 = mn at *
      go_wp2
      go_end0
      refine ⟨rfl, p1, ?_, HS ()⟩
      rw [← some_all e k j (by simp only [En.shown]; have := HQ (); omega)]
      exact HRR ()
end Go.Proofs.Ytlfijfodklhplaa
