/- Two ends, and frames on their way between them: what stays true, whatever comes. -/
import Derived.Test.YtlfijfodklhplaaEndM
namespace Go.Proofs.Ytlfijfodklhplaa
set_option linter.unusedVariables false

def rmsg (i : Nat) : Fr.Msg := ⟨6, 0, i % 1000, false⟩
/-- Bytes of a frame come. -/
def En.deliver (e : En) (f : Fr.Frm) : En := if f.data then e.came f.seq f.m else e.ack f.seq
/-- What is told then. -/
def En.heard (e : En) (f : Fr.Frm) : List Fr.Msg := if f.data then e.told f.seq f.m else []

/-- Messages from one end to the other: 'out' what may come from the first one, 'back' what may come from the second. -/
structure Dir (s r : En) (out back : Fr.Frm → Prop) (sent got : Nat) : Prop where
  data : ∀ f, out f → f.data = true → f.m = rmsg f.seq ∧ f.seq < s.first + s.shown
  acks : ∀ f, back f → f.data = false → f.seq ≤ r.await
  lo : s.first ≤ r.await
  hi : r.await ≤ s.first + s.shown
  len : s.first + s.wait.length = sent
  wait : ∀ i m, s.wait[i]? = some m → m = rmsg (s.first + i)
  kept : ∀ i m, r.kept[i]? = some (some m) → m = rmsg (r.await + i) ∧ r.await + i < s.first + s.shown
  four : r.kept.length = 4
  got : got = r.await

theorem shown_le (e : En) : e.shown ≤ e.wait.length ∧ e.shown ≤ 4 := by unfold En.shown; omega
theorem frames_mem (n : Nat) (l : List Fr.Msg) (f : Fr.Frm) (h : f ∈ En.frames n l) : ∃ i m, l[i]? = some m ∧ f = ⟨true, n + i, m⟩ := by
  induction l generalizing n with
  | nil => simp [En.frames] at h
  | cons x r ih =>
    rcases List.mem_cons.1 h with rfl | h
    · exact ⟨0, x, rfl, rfl⟩
    · obtain ⟨i, m, hi, rfl⟩ := ih (n + 1) h
      exact ⟨i + 1, m, by simpa using hi, by rw [Nat.add_right_comm, Nat.add_assoc]⟩
theorem show_mem (e : En) (k : Nat) (f : Fr.Frm) (h : f ∈ (e.showFrom k).out) : f ∈ e.out ∨ ∃ i m, i < e.shown ∧ e.wait[i]? = some m ∧ f = ⟨true, e.first + i, m⟩ := by
  rcases List.mem_append.1 h with h | h
  · exact Or.inl h
  · obtain ⟨i, m, hi, rfl⟩ := frames_mem _ _ _ h
    rw [List.getElem?_drop] at hi
    have hlt := (List.getElem?_eq_some_iff.1 hi).1
    rw [List.length_take] at hlt
    rw [List.getElem?_take_of_lt (by omega)] at hi
    exact Or.inr ⟨k + i, m, by unfold En.shown; omega, hi, by rw [Nat.add_assoc]⟩

/-- Less may come. -/
theorem Dir.less {s r : En} {out back out' back' : Fr.Frm → Prop} {sent got : Nat} (h : Dir s r out back sent got) (ho : ∀ f, out' f → out f) (hb : ∀ f, back' f → back f) : Dir s r out' back' sent got :=
  { h with data := fun f hf => h.data f (ho f hf), acks := fun f hf => h.acks f (hb f hf) }
/-- The first one sends. -/
theorem Dir.send {s r : En} {out back out' : Fr.Frm → Prop} {sent got : Nat} (h : Dir s r out back sent got) (ho : ∀ f, out' f → out f ∨ f ∈ (s.send (rmsg sent)).out) (hs : ∀ f ∈ s.out, out f) : Dir (s.send (rmsg sent)) r out' back (sent + 1) got := by
  have hw : ∀ i m, (s.send (rmsg sent)).wait[i]? = some m → m = rmsg (s.first + i) := by
    intro i m hm
    have hm' : (s.wait ++ [rmsg sent])[i]? = some m := hm
    by_cases hi : i < s.wait.length
    · rw [List.getElem?_append_left hi] at hm'
      exact h.wait i m hm'
    · rw [List.getElem?_append_right (by omega)] at hm'
      have hj := (List.getElem?_eq_some_iff.1 hm').1
      simp at hj
      have : i - s.wait.length = 0 := by omega
      rw [this] at hm'
      simp at hm'
      rw [← hm', ← h.len]
      congr 1; omega
  have hsh : s.first + s.shown ≤ (s.send (rmsg sent)).first + (s.send (rmsg sent)).shown := by
    show s.first + s.shown ≤ s.first + min (s.wait ++ [rmsg sent]).length 4
    unfold En.shown; simp; omega
  refine { data := ?_, acks := h.acks, lo := h.lo, hi := Nat.le_trans h.hi hsh, len := ?_, wait := hw, kept := fun i m hm => ⟨(h.kept i m hm).1, Nat.lt_of_lt_of_le (h.kept i m hm).2 hsh⟩, four := h.four, got := h.got }
  · intro f hf hd
    have old : out f → f.m = rmsg f.seq ∧ f.seq < (s.send (rmsg sent)).first + (s.send (rmsg sent)).shown := fun hf => ⟨(h.data f hf hd).1, Nat.lt_of_lt_of_le (h.data f hf hd).2 hsh⟩
    rcases ho f hf with hf | hf
    · exact old hf
    · rcases show_mem (s.put (rmsg sent)) _ f hf with hf | ⟨i, m, hi, hm, rfl⟩
      · exact old (hs f hf)
      · exact ⟨hw i m hm, by show s.first + i < s.first + _; exact Nat.add_lt_add_left hi _⟩
  · show s.first + (s.wait ++ [rmsg sent]).length = sent + 1
    have := h.len
    simp; omega
/-- The first one ticks. -/
theorem Dir.tick {s r : En} {out back out' : Fr.Frm → Prop} {sent got : Nat} (h : Dir s r out back sent got) (ho : ∀ f, out' f → out f ∨ f ∈ s.tick.out) (hs : ∀ f ∈ s.out, out f) : Dir s.tick r out' back sent got := by
  refine { data := ?_, acks := h.acks, lo := h.lo, hi := h.hi, len := h.len, wait := h.wait, kept := h.kept, four := h.four, got := h.got }
  intro f hf hd
  rcases ho f hf with hf | hf
  · exact h.data f hf hd
  · rcases show_mem s 0 f hf with hf | ⟨i, m, hi, hm, rfl⟩
    · exact h.data f (hs f hf) hd
    · exact ⟨h.wait i m hm, Nat.add_lt_add_left hi _⟩
/-- An acknowledgement comes to the first one. -/
theorem Dir.ack {s r : En} {out back out' : Fr.Frm → Prop} {sent got : Nat} (h : Dir s r out back sent got) (n : Nat) (hn : n ≤ r.await) (ho : ∀ f, out' f → out f ∨ f ∈ (s.ack n).out) (hs : ∀ f ∈ s.out, out f) : Dir (s.ack n) r out' back sent got ∧ n ≤ (s.ack n).first ∧ s.first ≤ (s.ack n).first := by
  have hhi := h.hi
  by_cases hc : s.first < n ∧ n ≤ s.first + s.shown
  · have hk : n - s.first ≤ s.shown := by omega
    have hle := shown_le s
    have e1 : s.ack n = (s.drop (n - s.first)).showFrom (s.shown - (n - s.first)) := by unfold En.ack; rw [if_pos hc]
    rw [e1] at ho ⊢
    obtain ⟨k, hk'⟩ : ∃ k, k = n - s.first := ⟨_, rfl⟩
    rw [← hk'] at hk ho ⊢
    have hf : ((s.drop k).showFrom (s.shown - k)).first = s.first + k := rfl
    have hsh : s.first + s.shown ≤ (s.first + k) + (s.drop k).shown := by
      show s.first + s.shown ≤ s.first + k + min (s.wait.drop k).length 4
      unfold En.shown at hk ⊢; simp; omega
    have hw : ∀ i m, (s.wait.drop k)[i]? = some m → m = rmsg (s.first + k + i) := by
      intro i m hm
      rw [List.getElem?_drop] at hm
      rw [Nat.add_assoc]
      exact h.wait _ m hm
    refine ⟨{ data := ?_, acks := h.acks, lo := ?_, hi := Nat.le_trans h.hi hsh, len := ?_, wait := hw, kept := fun i m hm => ⟨(h.kept i m hm).1, Nat.lt_of_lt_of_le (h.kept i m hm).2 hsh⟩, four := h.four, got := h.got }, ?_, ?_⟩
    · intro f hf hd
      have old : out f → f.m = rmsg f.seq ∧ f.seq < s.first + k + (s.drop k).shown := fun hf => ⟨(h.data f hf hd).1, Nat.lt_of_lt_of_le (h.data f hf hd).2 hsh⟩
      rcases ho f hf with hf | hf
      · exact old hf
      · rcases show_mem (s.drop k) _ f hf with hf | ⟨i, m, hi, hm, rfl⟩
        · exact old (hs f hf)
        · exact ⟨hw i m hm, Nat.add_lt_add_left hi _⟩
    · show s.first + k ≤ r.await
      omega
    · show s.first + k + (s.wait.drop k).length = sent
      have := h.len
      simp; omega
    · rw [hf]; omega
    · rw [hf]; omega
  · have e1 : s.ack n = s := by unfold En.ack; rw [if_neg hc]
    rw [e1] at ho ⊢
    refine ⟨h.less (fun f hf => (ho f hf).elim id (fun x => hs f x)) (fun f hf => hf), by omega, Nat.le_refl _⟩

theorem ready_get (l : List (Option Fr.Msg)) (i : Nat) (m : Fr.Msg) (h : (En.ready l)[i]? = some m) : l[i]? = some (some m) := by
  induction l generalizing i with
  | nil => simp [En.ready] at h
  | cons x r ih =>
    cases x with
    | none => simp [En.ready] at h
    | some y =>
      cases i with
      | zero => simpa [En.ready] using h
      | succ i => simpa using ih i (by simpa [En.ready] using h)
theorem ready_len (l : List (Option Fr.Msg)) : (En.ready l).length ≤ l.length := by
  induction l with
  | nil => simp [En.ready]
  | cons x r ih => cases x <;> simp [En.ready]; exact ih
/-- A message comes to the second one. -/
theorem Dir.came {s r : En} {out back back' : Fr.Frm → Prop} {sent got : Nat} (h : Dir s r out back sent got) (n : Nat) (hn : n < s.first + s.shown) (hb : ∀ f, back' f → back f ∨ f ∈ (r.came n (rmsg n)).out) (hs : ∀ f ∈ r.out, back f) :
    Dir s (r.came n (rmsg n)) out back' sent (got + (r.told n (rmsg n)).length) ∧ (∀ i m, (r.told n (rmsg n))[i]? = some m → m = rmsg (got + i) ∧ got + i < sent) := by
  obtain ⟨k, hk⟩ : ∃ k, k = r.keep n (rmsg n) := ⟨_, rfl⟩
  have ka : k.await = r.await := by
    rw [hk]; unfold En.keep
    split
    · split <;> rfl
    · rfl
  have ko : k.out = r.out := by
    rw [hk]; unfold En.keep
    split
    · split <;> rfl
    · rfl
  have k4 : k.kept.length = 4 := by
    rw [hk]; unfold En.keep
    split
    · split
      · simp [h.four]
      · exact h.four
    · exact h.four
  have kk : ∀ i m, k.kept[i]? = some (some m) → m = rmsg (r.await + i) ∧ r.await + i < s.first + s.shown := by
    intro i m hm
    rw [hk] at hm
    unfold En.keep at hm
    by_cases h1 : r.await ≤ n
    · rw [if_pos h1] at hm
      split at hm
      · simp only [List.getElem?_set] at hm
        by_cases h2 : n - r.await = i
        · subst h2
          rw [if_pos rfl] at hm
          split at hm
          · simp at hm
            rw [← hm]
            have : r.await + (n - r.await) = n := by omega
            rw [this]; exact ⟨rfl, hn⟩
          · cases hm
        · rw [if_neg h2] at hm
          exact h.kept i m hm
      · exact h.kept i m hm
    · rw [if_neg h1] at hm
      exact h.kept i m hm
  obtain ⟨j, hj⟩ : ∃ j, j = (En.ready k.kept).length := ⟨_, rfl⟩
  have hj4 : j ≤ 4 := by have := ready_len k.kept; omega
  have ht : ∀ i m, (En.ready k.kept)[i]? = some m → m = rmsg (r.await + i) ∧ r.await + i < s.first + s.shown := fun i m hm => kk i m (ready_get _ i m hm)
  have htop : r.await + j ≤ s.first + s.shown := by
    by_cases h0 : j = 0
    · have := h.hi; omega
    · have hlast := ht (j - 1) _ (List.getElem?_eq_getElem (by omega))
      omega
  have ca : (r.came n (rmsg n)).await = r.await + j := by
    have : (k.take.answer).await = k.take.await := by unfold En.answer; split <;> rfl
    show (En.answer (En.take (r.keep n (rmsg n)))).await = _
    rw [← hk, this]
    show k.await + (En.ready k.kept).length = _
    rw [ka, hj]
  have ck : (r.came n (rmsg n)).kept = k.kept.drop j ++ List.replicate j none := by
    have : (k.take.answer).kept = k.take.kept := by unfold En.answer; split <;> rfl
    show (En.answer (En.take (r.keep n (rmsg n)))).kept = _
    rw [← hk, this, hj]; rfl
  have co : ∀ f, f ∈ (r.came n (rmsg n)).out → f ∈ r.out ∨ f = ⟨false, r.await + j, Fr.none0⟩ := by
    intro f hf
    have e1 : (r.came n (rmsg n)).out = k.take.answer.out := by rw [hk]; rfl
    rw [e1] at hf
    unfold En.answer at hf
    split at hf
    · rcases List.mem_append.1 hf with x | x
      · exact Or.inl (by rw [← ko]; exact x)
      · simp at x
        refine Or.inr ?_
        rw [x, hj, ← ka]; rfl
    · exact Or.inl (by rw [← ko]; exact hf)
  have et : r.told n (rmsg n) = En.ready k.kept := by unfold En.told; rw [hk]
  have hlen := h.len
  have hle := shown_le s
  refine ⟨{ data := h.data, acks := ?_, lo := ?_, hi := ?_, len := h.len, wait := h.wait, kept := ?_, four := ?_, got := ?_ }, ?_⟩
  · intro f hf hd
    rw [ca]
    rcases hb f hf with hf | hf
    · have := h.acks f hf hd; omega
    · rcases co f hf with hf | rfl
      · have := h.acks f (hs f hf) hd; omega
      · exact Nat.le_refl _
  · rw [ca]; have := h.lo; omega
  · rw [ca]; exact htop
  · intro i m hm
    rw [ck] at hm
    rw [ca]
    by_cases hi : i < (k.kept.drop j).length
    · rw [List.getElem?_append_left hi, List.getElem?_drop] at hm
      have := kk _ m hm
      rw [Nat.add_assoc]; exact this
    · rw [List.getElem?_append_right (by omega), List.getElem?_replicate] at hm
      split at hm <;> simp at hm
  · rw [ck]; simp; omega
  · rw [ca, et, ← hj, h.got]
  · intro i m hm
    rw [et] at hm
    have := ht i m hm
    rw [h.got]
    exact ⟨this.1, by omega⟩
end Go.Proofs.Ytlfijfodklhplaa
