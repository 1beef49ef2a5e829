/- How much is on its way: it does not grow without end; and what a phase brings. -/
import Derived.Test.YtlfijfodklhplaaProt2
namespace Go.Proofs.Ytlfijfodklhplaa
set_option linter.unusedVariables false

def dat (l : List Fr.Frm) : Nat := (l.filter (fun f => f.data)).length
def aks (l : List Fr.Frm) : Nat := (l.filter (fun f => !f.data)).length
theorem dat_append (l m : List Fr.Frm) : dat (l ++ m) = dat l + dat m := by simp [dat]
theorem aks_append (l m : List Fr.Frm) : aks (l ++ m) = aks l + aks m := by simp [aks]
theorem dat_aks (l : List Fr.Frm) : dat l + aks l = l.length := by
  induction l with
  | nil => rfl
  | cons f r ih =>
    cases hf : f.data <;> simp [dat, aks, hf] at ih ⊢ <;> omega
theorem frames_dat (n : Nat) (l : List Fr.Msg) : dat (En.frames n l) = l.length ∧ aks (En.frames n l) = 0 := by
  induction l generalizing n with
  | nil => exact ⟨rfl, rfl⟩
  | cons m r ih =>
    have := ih (n + 1)
    simp [En.frames, dat, aks] at this ⊢
    exact this
/-- What may still come of c's messages: frames of them, acknowledgements of them, and what was not shown yet. -/
def Psi (ec ed : En) (bc bd : List Fr.Frm) (S : Nat) : Nat := dat bc + dat ec.out + aks bd + aks ed.out + (S - (ec.first + ec.shown))
theorem Psi.tick (ec ed : En) (bc bd : List Fr.Frm) (S : Nat) : Psi ec.tick ed bc bd S ≤ Psi ec ed bc bd S + 4 := by
  have h := frames_dat (ec.first + 0) ((ec.wait.take 4).drop 0)
  unfold Psi
  have e1 : ec.tick.first + ec.tick.shown = ec.first + ec.shown := rfl
  have e2 : dat ec.tick.out = dat ec.out + ((ec.wait.take 4).drop 0).length := by
    show dat (ec.out ++ _) = _
    rw [dat_append, h.1]
  rw [e1, e2]
  simp; omega
theorem Psi.tick' (ec ed : En) (bc bd : List Fr.Frm) (S : Nat) : Psi ed ec.tick bd bc S = Psi ed ec bd bc S := by
  have h := frames_dat (ec.first + 0) ((ec.wait.take 4).drop 0)
  unfold Psi
  have e2 : aks ec.tick.out = aks ec.out := by
    show aks (ec.out ++ _) = _
    rw [aks_append, h.2]; omega
  rw [e2]
theorem Psi.collect (ec ed : En) (bc bd : List Fr.Frm) (S : Nat) : Psi ec.outs ed (bc ++ ec.out) bd S = Psi ec ed bc bd S := by
  unfold Psi
  have e1 : ec.outs.first + ec.outs.shown = ec.first + ec.shown := rfl
  have e2 : dat ec.outs.out = 0 := rfl
  rw [e1, e2, dat_append]; omega
theorem Psi.collect' (ec ed : En) (bc bd : List Fr.Frm) (S : Nat) : Psi ed ec.outs bd (bc ++ ec.out) S = Psi ed ec bd bc S := by
  unfold Psi
  have e2 : aks ec.outs.out = 0 := rfl
  rw [e2, aks_append]; omega
theorem came_dat (e : En) (n : Nat) (m : Fr.Msg) : dat (e.came n m).out = dat e.out ∧ aks (e.came n m).out ≤ aks e.out + 1 := by
  have h1 : (e.keep n m).take.out = e.out := by
    unfold En.keep
    split
    · split <;> rfl
    · rfl
  unfold En.came En.answer
  split
  · simp only
    rw [h1, dat_append, aks_append]
    exact ⟨by simp [dat], by simp [aks]⟩
  · rw [h1]; exact ⟨rfl, by omega⟩
theorem ack_dat (e : En) (n S : Nat) (hS : e.first + e.wait.length = S) : dat (e.ack n).out + (S - ((e.ack n).first + (e.ack n).shown)) ≤ dat e.out + (S - (e.first + e.shown)) ∧ aks (e.ack n).out = aks e.out := by
  unfold En.ack
  split
  · rename_i hc
    obtain ⟨k, hk⟩ : ∃ k, k = n - e.first := ⟨_, rfl⟩
    have hsh := shown_le e
    have h := frames_dat ((e.drop k).first + (e.shown - k)) (((e.drop k).wait.take 4).drop (e.shown - k))
    rw [← hk]
    have e1 : dat ((e.drop k).showFrom (e.shown - k)).out = dat e.out + (((e.drop k).wait.take 4).drop (e.shown - k)).length := by
      show dat (e.out ++ _) = _
      rw [dat_append, h.1]
    have e2 : aks ((e.drop k).showFrom (e.shown - k)).out = aks e.out := by
      show aks (e.out ++ _) = _
      rw [aks_append, h.2]; omega
    have e3 : ((e.drop k).showFrom (e.shown - k)).first = e.first + k := rfl
    have e4 : ((e.drop k).showFrom (e.shown - k)).shown = min (e.wait.length - k) 4 := by
      show min (e.wait.drop k).length 4 = _
      rw [List.length_drop]
    refine ⟨?_, e2⟩
    rw [e1, e3, e4]
    have e5 : (((e.drop k).wait.take 4).drop (e.shown - k)).length = min 4 (e.wait.length - k) - (e.shown - k) := by
      show (((e.wait.drop k).take 4).drop (e.shown - k)).length = _
      rw [List.length_drop, List.length_take, List.length_drop]
    rw [e5]
    unfold En.shown at hc hsh ⊢
    omega
  · exact ⟨Nat.le_refl _, rfl⟩
theorem dat_cons (f : Fr.Frm) (l : List Fr.Frm) : dat (f :: l) = (if f.data then 1 else 0) + dat l ∧ aks (f :: l) = (if f.data then 0 else 1) + aks l := by
  cases hf : f.data <;> simp [dat, aks, hf] <;> omega
/-- The first frame of c's bag comes to d: neither grows. -/
theorem Psi.deliver {ec ed : En} {f : Fr.Frm} {bc bd : List Fr.Frm} {sc sd gc gd : Nat} (hb : Both ec ed (f :: bc) bd sc sd gc gd) :
    Psi ec (ed.deliver f) bc bd sc ≤ Psi ec ed (f :: bc) bd sc ∧ Psi (ed.deliver f) ec bd bc sd ≤ Psi ed ec bd (f :: bc) sd := by
  obtain ⟨h1, h2⟩ := dat_cons f bc
  unfold Psi
  rw [h1, h2]
  obtain ⟨d, n, m⟩ := f
  cases d with
  | true =>
    have e1 : ed.deliver ⟨true, n, m⟩ = ed.came n m := rfl
    obtain ⟨h3, h4⟩ := came_dat ed n m
    obtain ⟨h5, h6⟩ := came_first ed n m
    have h7 : (ed.came n m).shown = ed.shown := by unfold En.shown; rw [h6]
    rw [e1, h3, h5, h7]
    simp only [if_true]
    omega
  | false =>
    have e1 : ed.deliver ⟨false, n, m⟩ = ed.ack n := rfl
    obtain ⟨h3, h4⟩ := ack_dat ed n sd hb.back.len
    rw [e1, h4]
    simp only [Bool.false_eq_true, if_false]
    omega

/-- So many of c's messages are acknowledged. -/
def goal (ec : En) (sc k : Nat) : Prop := min k sc ≤ ec.first
/-- .. or an acknowledgement of so many is on its way. -/
def pend (ec : En) (bd : List Fr.Frm) (sc k : Nat) : Prop := goal ec sc k ∨ ∃ f ∈ bd, f.data = false ∧ min k sc ≤ f.seq
/-- A phase begins: c has ticked, and its frames are in its bag. -/
theorem Pour.start {ec ed : En} {bc bd : List Fr.Frm} {sc sd gc gd j : Nat} (hb : Both ec ed bc bd sc sd gc gd) (ho : ec.out = []) (hod : ed.out = []) (hp : pend ed bc sd j) :
    Pour ed (bc ++ ec.tick.out) (ec.first + ec.shown) (min j sd) (0 < ec.shown) := by
  have hfr : ec.tick.out = nums ec.first (ec.first + ec.shown) := by
    show ec.out ++ En.frames (ec.first + 0) ((ec.wait.take 4).drop 0) = _
    rw [ho, List.nil_append, List.drop_zero, Nat.add_zero]
    have hl : (ec.wait.take 4).length = ec.shown := by unfold En.shown; simp; omega
    rw [frames_nums ec.first (ec.wait.take 4) (fun i m hm => hb.there.wait i m (by
      have hi := (List.getElem?_eq_some_iff.1 hm).1
      rw [List.length_take] at hi
      rw [List.getElem?_take_of_lt (by omega)] at hm
      exact hm)), hl]
  refine ⟨?_, fun hany hn => Or.inl ?_, ?_⟩
  · rw [hfr]
    exact (nums_sub _ _ _ hb.there.lo).trans (List.sublist_append_right _ _)
  · refine ⟨⟨true, ec.first, rmsg ec.first⟩, List.mem_append_right _ ?_, rfl⟩
    rw [hfr, nums_cons _ _ (by omega)]
    simp
  · rcases hp with h | ⟨f, hf, hd, hk⟩
    · exact Or.inl h
    · exact Or.inr ⟨f, List.mem_append_left _ hf, hd, hk⟩
/-- A phase ends: c's bag is empty, d's frames go into its bag. -/
theorem Pour.stop {ec ed : En} {bd : List Fr.Frm} {sc sd gc gd n j k : Nat} (hb : Both ec ed [] bd sc sd gc gd) (hn : n = ec.first + ec.shown) (h : Pour ed [] n (min j sd) (0 < ec.shown)) (hg : goal ec sc k) :
    goal ed sd j ∧ pend ec (bd ++ ed.out) sc (k + 1) := by
  refine ⟨?_, ?_⟩
  · rcases h.ack with x | ⟨f, hf, _⟩
    · exact x
    · simp at hf
  · unfold goal at hg
    have hlen := hb.there.len
    by_cases hs : 0 < ec.shown
    · have hle : n ≤ ed.await := nums_nil _ _ (List.sublist_nil.1 h.sub)
      rcases h.ans hs hle with ⟨f, hf, _⟩ | ⟨f, hf, hd, hk⟩
      · simp at hf
      · exact Or.inr ⟨f, List.mem_append_right _ hf, hd, by omega⟩
    · refine Or.inl ?_
      unfold goal
      have : ec.wait.length = 0 := by unfold En.shown at hs; omega
      omega
/-- When all rounds are over. -/
theorem all_got {ec ed : En} {bc bd : List Fr.Frm} {sc sd gc gd R : Nat} (hb : Both ec ed bc bd sc sd gc gd) (hR : sc ≤ R) (hRd : sd ≤ R) (hg : goal ec sc R) (hp : pend ed bc sd R) : gc = sc ∧ gd = sd ∧ ec.wait = [] := by
  have h1 := hb.there.got
  have h2 := hb.back.got
  have h3 := hb.there.lo
  have h4 := hb.there.hi
  have h5 := hb.there.len
  have h6 := shown_le ec
  have h7 := hb.back.hi
  have h8 := hb.back.len
  have h9 := shown_le ed
  unfold goal at hg
  have hw : ec.wait.length = 0 := by omega
  refine ⟨by omega, ?_, List.eq_nil_of_length_eq_zero hw⟩
  rcases hp with h | ⟨f, hf, hd, hk⟩
  · unfold goal at h
    have := hb.back.lo
    omega
  · have := hb.back.acks f (Or.inl hf) hd
    omega
end Go.Proofs.Ytlfijfodklhplaa
