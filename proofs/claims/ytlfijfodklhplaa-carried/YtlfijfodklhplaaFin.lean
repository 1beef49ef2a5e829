/- Carried: the rounds at the end. -/
import Derived.Test.YtlfijfodklhplaaCar5
import Derived.Test.YtlfijfodklhplaaProt3
namespace Go.Proofs.Ytlfijfodklhplaa
set_option linter.unusedVariables false
set_option linter.unusedSimpArgs false

/-- Ahead of phase c of round r: d is the other one. -/
structure Fin (s : Cy) (S : Nat → Nat) (r c d : Nat) : Prop where
  both : Both (s.e c) (s.e d) (s.bag c) (s.bag d) (S c) (S d) (s.got c) (s.got d)
  sent : s.sent = S
  outc : (s.e c).out = []
  outd : (s.e d).out = []
  goal : goal (s.e c) (S c) r
  pend : pend (s.e d) (s.bag c) (S d) (r + c)
  psic : Psi (s.e c) (s.e d) (s.bag c) (s.bag d) (S c) ≤ 4000 + 4 * r
  psid : Psi (s.e d) (s.e c) (s.bag d) (s.bag c) (S d) ≤ 4000 + 4 * (r + c)
/-- In the middle of it: what is in c's bag comes to d. -/
structure Mid (s : Cy) (S : Nat → Nat) (r c d : Nat) : Prop where
  both : Both (s.e c) (s.e d) (s.bag c) (s.bag d) (S c) (S d) (s.got c) (s.got d)
  sent : s.sent = S
  outc : (s.e c).out = []
  goal : goal (s.e c) (S c) r
  pour : Pour (s.e d) (s.bag c) ((s.e c).first + (s.e c).shown) (min (r + c) (S d)) (0 < (s.e c).shown)
  psic : Psi (s.e c) (s.e d) (s.bag c) (s.bag d) (S c) ≤ 4000 + 4 * (r + 1)
  psid : Psi (s.e d) (s.e c) (s.bag d) (s.bag c) (S d) ≤ 4000 + 4 * (r + c)
theorem psi_len (ec ed : En) (bc bd : List Fr.Frm) (S S' A : Nat) (h : Psi ec ed bc bd S ≤ A) (h' : Psi ed ec bd bc S' ≤ A) : bc.length + ec.out.length ≤ 2 * A ∧ bd.length + ed.out.length ≤ 2 * A := by
  have h1 := dat_aks bc
  have h2 := dat_aks bd
  have h3 := dat_aks ec.out
  have h4 := dat_aks ed.out
  unfold Psi at h h'
  omega
/-- c has ticked, and what went out is in its bag. -/
theorem Fin.ticked {s s' : Cy} {S : Nat → Nat} {r c d : Nat} (h : Fin s S r c d) (hcd : c ≠ d) (he : s'.e = upd s.e c (s.e c).tick.outs) (hb : s'.bag = upd s.bag c (s.bag c ++ (s.e c).tick.out)) (hs : s'.sent = s.sent) (hg : s'.got = s.got) : Mid s' S r c d := by
  have e1 : s'.e c = (s.e c).tick.outs := by rw [he, upd_self]
  have e2 : s'.e d = s.e d := by rw [he, upd_other _ _ _ _ (Ne.symm hcd)]
  have e3 : s'.bag c = s.bag c ++ (s.e c).tick.out := by rw [hb, upd_self]
  have e4 : s'.bag d = s.bag d := by rw [hb, upd_other _ _ _ _ (Ne.symm hcd)]
  have hf : (s.e c).tick.outs.first + (s.e c).tick.outs.shown = (s.e c).first + (s.e c).shown := rfl
  have hsh : (s.e c).tick.outs.shown = (s.e c).shown := rfl
  refine ⟨?_, by rw [hs, h.sent], ?_, ?_, ?_, ?_, ?_⟩
  · rw [e1, e2, e3, e4, hg]
    exact h.both.tick.collect
  · rw [e1]; rfl
  · rw [e1]; exact h.goal
  · rw [e1, e2, e3, hf, hsh]
    exact Pour.start h.both h.outc h.outd h.pend
  · rw [e1, e2, e3, e4, Psi.collect]
    have := Psi.tick (s.e c) (s.e d) (s.bag c) (s.bag d) (S c)
    have := h.psic
    omega
  · rw [e1, e2, e3, e4, Psi.collect', Psi.tick']
    exact h.psid
/-- The first frame came. -/
theorem Mid.came {s s' : Cy} {S : Nat → Nat} {r c d : Nat} {f : Fr.Frm} (h : Mid s S r c d) (hcd : c ≠ d) (hS : S c < 65536) (hk : Came s s' c d 0 f) : Mid s' S r c d ∧ (s'.bag c).length + 1 = (s.bag c).length := by
  obtain ⟨rest, hr⟩ : ∃ rest, s.bag c = f :: rest := by
    have := hk.is
    cases hb : s.bag c with
    | nil => rw [hb] at this; simp at this
    | cons a l => rw [hb] at this; simp at this; subst this; exact ⟨l, rfl⟩
  have hb := h.both
  have hp := h.pour
  have h1 := h.psic
  have h2 := h.psid
  rw [hr] at hb hp h1 h2
  have e1 : s'.e c = s.e c := by rw [hk.e, upd_other _ _ _ _ hcd]
  have e2 : s'.e d = (s.e d).deliver f := by rw [hk.e, upd_self]
  have e3 : s'.bag c = rest := by rw [hk.bag, upd_self, hr]; rfl
  have e4 : s'.bag d = s.bag d := by rw [hk.bag, upd_other _ _ _ _ (Ne.symm hcd)]
  have e5 : s'.got c = s.got c + ((s.e d).heard f).length := by rw [hk.got, upd_self]
  have e6 : s'.got d = s.got d := by rw [hk.got, upd_other _ _ _ _ (Ne.symm hcd)]
  have hpsi := Psi.deliver hb
  refine ⟨⟨?_, by rw [hk.sent, h.sent], by rw [e1]; exact h.outc, by rw [e1]; exact h.goal, ?_, ?_, ?_⟩, by rw [e3, hr]; rfl⟩
  · rw [e1, e2, e3, e4, e5, e6]
    exact ((hb.deliver f (by simp)).1).bag (fun g hg => List.mem_cons_of_mem _ hg)
  · rw [e1, e2, e3]
    exact Pour.step hb hS hp
  · rw [e1, e2, e3, e4]; exact Nat.le_trans hpsi.1 h1
  · rw [e1, e2, e3, e4]; exact Nat.le_trans hpsi.2 h2
/-- c's bag is empty; what went out at d is in its bag: the next phase. -/
theorem Mid.done {s s' : Cy} {S : Nat → Nat} {r c d : Nat} (h : Mid s S r c d) (hc : c < 2) (hd : d < 2) (hcd : c ≠ d) (h0 : s.bag c = []) (he : s'.e = upd s.e d (s.e d).outs) (hb : s'.bag = upd s.bag d (s.bag d ++ (s.e d).out)) (hs : s'.sent = s.sent) (hg : s'.got = s.got) : Fin s' S (r + c) d c := by
  have hbo := h.both
  have hp := h.pour
  rw [h0] at hbo hp
  have e1 : s'.e c = s.e c := by rw [he, upd_other _ _ _ _ hcd]
  have e2 : s'.e d = (s.e d).outs := by rw [he, upd_self]
  have e3 : s'.bag c = [] := by rw [hb, upd_other _ _ _ _ hcd, h0]
  have e4 : s'.bag d = s.bag d ++ (s.e d).out := by rw [hb, upd_self]
  have h1 := h.psic
  have h2 := h.psid
  rw [h0] at h1 h2
  obtain ⟨g1, g2⟩ := Pour.stop hbo rfl hp h.goal
  have hrd : r + c + d = r + 1 := by omega
  refine ⟨?_, by rw [hs, h.sent], by rw [e2]; rfl, by rw [e1]; exact h.outc, by rw [e2]; exact g1, ?_, ?_, ?_⟩
  · rw [e1, e2, e3, e4, hg]
    exact hbo.symm.collect
  · rw [e1, e4, hrd]; exact g2
  · rw [e1, e2, e3, e4, Psi.collect]; exact h2
  · rw [e1, e2, e3, e4, Psi.collect', hrd]; exact h1
/-- The first round. -/
theorem Fin.first {s : Cy} {i : Nat} (h : Ok s (6 * i) i) (hi : i ≤ 300) (ho : ∀ c, c < 2 → (s.e c).out = []) : Fin s s.sent 0 0 1 := by
  have h1 := h.len 0 (by omega)
  have h2 := h.len 1 (by omega)
  have h3 := h.sent 0 (by omega)
  have h4 := h.sent 1 (by omega)
  have a1 := dat_aks (s.bag 0)
  have a2 := dat_aks (s.bag 1)
  have a3 := dat_aks (s.e 0).out
  have a4 := dat_aks (s.e 1).out
  refine ⟨h.both, rfl, ho 0 (by omega), ho 1 (by omega), ?_, Or.inl ?_, ?_, ?_⟩
  · unfold Go.Proofs.Ytlfijfodklhplaa.goal; omega
  · unfold Go.Proofs.Ytlfijfodklhplaa.goal; omega
  · unfold Psi; omega
  · unfold Psi; omega
end Go.Proofs.Ytlfijfodklhplaa
