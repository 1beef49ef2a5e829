/- Both ways at once; and that all comes in the end. -/
import Derived.Test.YtlfijfodklhplaaProt
namespace Go.Proofs.Ytlfijfodklhplaa
set_option linter.unusedVariables false

abbrev From (e : En) (b : List Fr.Frm) (f : Fr.Frm) : Prop := f ∈ b ∨ f ∈ e.out
structure Both (ec ed : En) (bc bd : List Fr.Frm) (sc sd gc gd : Nat) : Prop where
  there : Dir ec ed (From ec bc) (From ed bd) sc gc
  back : Dir ed ec (From ed bd) (From ec bc) sd gd
theorem Both.symm {ec ed : En} {bc bd : List Fr.Frm} {sc sd gc gd : Nat} (h : Both ec ed bc bd sc sd gc gd) : Both ed ec bd bc sd sc gd gc := ⟨h.back, h.there⟩

/-- The second one does something that does not touch what it has of the first one. -/
theorem Dir.rcv {s r r' : En} {out back out' back' : Fr.Frm → Prop} {sent got : Nat} (h : Dir s r out back sent got) (ha : r'.await = r.await) (hk : r'.kept = r.kept) (ho : ∀ f, out' f → out f) (hb : ∀ f, back' f → f.data = false → back f) : Dir s r' out' back' sent got :=
  ⟨fun f hf => h.data f (ho f hf), fun f hf hd => by rw [ha]; exact h.acks f (hb f hf hd) hd, by rw [ha]; exact h.lo, by rw [ha]; exact h.hi, h.len, h.wait, by rw [ha, hk]; exact h.kept, by rw [hk]; exact h.four, by rw [ha]; exact h.got⟩
/-- The first one does something that does not touch what it has sent. -/
theorem Dir.snd {s s' r : En} {out back out' back' : Fr.Frm → Prop} {sent got : Nat} (h : Dir s r out back sent got) (hf : s'.first = s.first) (hw : s'.wait = s.wait) (ho : ∀ f, out' f → f.data = true → out f) (hb : ∀ f, back' f → back f) : Dir s' r out' back' sent got := by
  have hs : s'.shown = s.shown := by unfold En.shown; rw [hw]
  exact ⟨fun f hf' hd => by rw [hf, hs]; exact h.data f (ho f hf' hd) hd, fun f hf' hd => h.acks f (hb f hf') hd, by rw [hf]; exact h.lo, by rw [hf, hs]; exact h.hi, by rw [hf, hw]; exact h.len, by rw [hf, hw]; exact h.wait, by rw [hf, hs]; exact h.kept, h.four, h.got⟩

theorem show_data (e : En) (k : Nat) (f : Fr.Frm) (h : f ∈ (e.showFrom k).out) (hd : f.data = false) : f ∈ e.out := by
  rcases show_mem e k f h with h | ⟨i, m, _, _, rfl⟩
  · exact h
  · cases hd
theorem Both.send {ec ed : En} {bc bd : List Fr.Frm} {sc sd gc gd : Nat} (h : Both ec ed bc bd sc sd gc gd) : Both (ec.send (rmsg sc)) ed bc bd (sc + 1) sd gc gd :=
  ⟨h.there.send (fun f hf => hf.elim (fun x => Or.inl (Or.inl x)) Or.inr) (fun f hf => Or.inr hf), h.back.rcv rfl rfl (fun f hf => hf) (fun f hf hd => hf.elim Or.inl (fun x => Or.inr (show_data (ec.put (rmsg sc)) _ f x hd)))⟩
theorem Both.tick {ec ed : En} {bc bd : List Fr.Frm} {sc sd gc gd : Nat} (h : Both ec ed bc bd sc sd gc gd) : Both ec.tick ed bc bd sc sd gc gd :=
  ⟨h.there.tick (fun f hf => hf.elim (fun x => Or.inl (Or.inl x)) Or.inr) (fun f hf => Or.inr hf), h.back.rcv rfl rfl (fun f hf => hf) (fun f hf hd => hf.elim Or.inl (fun x => Or.inr (show_data ec _ f x hd)))⟩
theorem Both.bag {ec ed : En} {bc bd bc' : List Fr.Frm} {sc sd gc gd : Nat} (h : Both ec ed bc bd sc sd gc gd) (hb : ∀ f ∈ bc', f ∈ bc) : Both ec ed bc' bd sc sd gc gd :=
  ⟨h.there.less (fun f hf => hf.imp (hb f) id) (fun f hf => hf), h.back.less (fun f hf => hf) (fun f hf => hf.imp (hb f) id)⟩
theorem Both.collect {ec ed : En} {bc bd : List Fr.Frm} {sc sd gc gd : Nat} (h : Both ec ed bc bd sc sd gc gd) : Both ec.outs ed (bc ++ ec.out) bd sc sd gc gd := by
  have hm : ∀ f, From ec.outs (bc ++ ec.out) f → From ec bc f := fun f hf => hf.elim (fun x => List.mem_append.1 x) (fun x => by simp [En.outs] at x)
  exact ⟨h.there.snd rfl rfl (fun f hf _ => hm f hf) (fun f hf => hf), h.back.rcv rfl rfl (fun f hf => hf) (fun f hf _ => hm f hf)⟩

theorem came_first (e : En) (n : Nat) (m : Fr.Msg) : (e.came n m).first = e.first ∧ (e.came n m).wait = e.wait := by
  have h1 : (e.keep n m).first = e.first ∧ (e.keep n m).wait = e.wait := by
    unfold En.keep
    split
    · split <;> exact ⟨rfl, rfl⟩
    · exact ⟨rfl, rfl⟩
  have h2 : ∀ k : En, k.answer.first = k.first ∧ k.answer.wait = k.wait := by
    intro k; unfold En.answer
    split <;> exact ⟨rfl, rfl⟩
  exact ⟨(h2 _).1.trans h1.1, (h2 _).2.trans h1.2⟩
theorem came_out (e : En) (n : Nat) (m : Fr.Msg) (f : Fr.Frm) (h : f ∈ (e.came n m).out) : f ∈ e.out ∨ f.data = false := by
  have h1 : (e.keep n m).take.out = e.out := by
    unfold En.keep
    split
    · split <;> rfl
    · rfl
  unfold En.came En.answer at h
  split at h
  · rcases List.mem_append.1 h with x | x
    · exact Or.inl (by rw [← h1]; exact x)
    · simp at x; subst x; exact Or.inr rfl
  · exact Or.inl (by rw [← h1]; exact h)
theorem ack_await (e : En) (n : Nat) : (e.ack n).await = e.await ∧ (e.ack n).kept = e.kept := by
  unfold En.ack
  split <;> exact ⟨rfl, rfl⟩
theorem ack_out (e : En) (n : Nat) (f : Fr.Frm) (h : f ∈ (e.ack n).out) (hd : f.data = false) : f ∈ e.out := by
  unfold En.ack at h
  split at h
  · exact show_data (e.drop _) _ f h hd
  · exact h

theorem Both.deliver {ec ed : En} {bc bd : List Fr.Frm} {sc sd gc gd : Nat} (h : Both ec ed bc bd sc sd gc gd) (f : Fr.Frm) (hf : f ∈ bc) :
    Both ec (ed.deliver f) bc bd sc sd (gc + (ed.heard f).length) gd ∧ (∀ i m, (ed.heard f)[i]? = some m → m = rmsg (gc + i) ∧ gc + i < sc) ∧ (f.data = false → f.seq ≤ (ed.deliver f).first) ∧ ed.first ≤ (ed.deliver f).first := by
  obtain ⟨d, n, m⟩ := f
  cases d with
  | true =>
    obtain ⟨hm, hn⟩ := h.there.data _ (Or.inl hf) rfl
    simp only at hm hn
    subst hm
    have e1 : ed.deliver ⟨true, n, rmsg n⟩ = ed.came n (rmsg n) := rfl
    have e2 : ed.heard ⟨true, n, rmsg n⟩ = ed.told n (rmsg n) := rfl
    rw [e1, e2]
    obtain ⟨h1, h2⟩ := h.there.came n hn (back' := From (ed.came n (rmsg n)) bd) (fun f hf => hf.elim (fun x => Or.inl (Or.inl x)) Or.inr) (fun f hf => Or.inr hf)
    refine ⟨⟨h1, h.back.snd (came_first _ _ _).1 (came_first _ _ _).2 (fun f hf hd => hf.elim Or.inl (fun x => (came_out _ _ _ f x).elim Or.inr (fun y => by rw [hd] at y; cases y))) (fun f hf => hf)⟩, h2, fun x => (by cases x), ?_⟩
    rw [(came_first _ _ _).1]; exact Nat.le_refl _
  | false =>
    have hn := h.back.acks _ (Or.inl hf) rfl
    simp only at hn
    have e1 : ed.deliver ⟨false, n, m⟩ = ed.ack n := rfl
    have e2 : ed.heard ⟨false, n, m⟩ = [] := rfl
    rw [e1, e2]
    obtain ⟨h1, h2, h3⟩ := h.back.ack n hn (out' := From (ed.ack n) bd) (fun f hf => hf.elim (fun x => Or.inl (Or.inl x)) Or.inr) (fun f hf => Or.inr hf)
    exact ⟨⟨h.there.rcv (ack_await _ _).1 (ack_await _ _).2 (fun f hf => hf) (fun f hf hd => hf.elim Or.inl (fun x => Or.inr (ack_out _ _ f x hd))), h1⟩, fun i m hm => by simp at hm, fun _ => h2, h3⟩

/- What a round brings. -/
def nums (a n : Nat) : List Fr.Frm := (List.range' a (n - a)).map (fun i => ⟨true, i, rmsg i⟩)
theorem nums_cons (a n : Nat) (h : a < n) : nums a n = ⟨true, a, rmsg a⟩ :: nums (a + 1) n := by
  unfold nums
  have : n - a = (n - (a + 1)) + 1 := by omega
  rw [this, List.range'_succ]; rfl
theorem nums_sub (a b n : Nat) (h : a ≤ b) : List.Sublist (nums b n) (nums a n) := by
  induction b with
  | zero => have : a = 0 := by omega
            subst this; exact List.Sublist.refl _
  | succ b ih =>
    by_cases hab : a = b + 1
    · subst hab; exact List.Sublist.refl _
    · refine List.Sublist.trans ?_ (ih (by omega))
      by_cases hb : b < n
      · rw [nums_cons b n hb]; exact List.Sublist.cons _ (List.Sublist.refl _)
      · have : nums (b + 1) n = [] := by unfold nums; rw [Nat.sub_eq_zero_of_le (by omega)]; rfl
        rw [this]; exact List.nil_sublist _
theorem nums_nil (a n : Nat) (h : nums a n = []) : n ≤ a := by
  by_cases hb : a < n
  · rw [nums_cons a n hb] at h; cases h
  · omega
theorem frames_nums (n : Nat) (l : List Fr.Msg) (h : ∀ i m, l[i]? = some m → m = rmsg (n + i)) : En.frames n l = nums n (n + l.length) := by
  induction l generalizing n with
  | nil => simp [En.frames, nums]
  | cons m r ih =>
    rw [nums_cons n _ (by simp), En.frames, h 0 m rfl, ih (n + 1) (fun i m hm => by rw [Nat.add_right_comm, Nat.add_assoc]; exact h (i + 1) m (by simpa using hm))]
    simp only [List.length_cons, Nat.add_zero]
    congr 2; omega

theorem came_await (e : En) (n : Nat) (m : Fr.Msg) : e.await ≤ (e.came n m).await := by
  have h1 : (e.keep n m).await = e.await := by
    unfold En.keep
    split
    · split <;> rfl
    · rfl
  have h2 : ∀ k : En, k.answer.await = k.await := by intro k; unfold En.answer; split <;> rfl
  show e.await ≤ (e.keep n m).take.answer.await
  rw [h2]
  show e.await ≤ (e.keep n m).await + _
  omega
theorem came_next (e : En) (m : Fr.Msg) (h4 : e.kept.length = 4) : e.await + 1 ≤ (e.came e.await m).await := by
  have h2 : ∀ k : En, k.answer.await = k.await := by intro k; unfold En.answer; split <;> rfl
  obtain ⟨x, r, hx⟩ : ∃ x r, e.kept = x :: r := by
    cases hk : e.kept with
    | nil => rw [hk] at h4; simp at h4
    | cons x r => exact ⟨x, r, rfl⟩
  have h3 : (e.keep e.await m).await = e.await ∧ ∃ y r', (e.keep e.await m).kept = some y :: r' := by
    unfold En.keep
    rw [if_pos (Nat.le_refl _), Nat.sub_self, hx]
    cases x with
    | none => exact ⟨rfl, m, r, by simp⟩
    | some y => exact ⟨rfl, y, r, by simp [hx]⟩
  obtain ⟨ha, y, r', hk⟩ := h3
  show e.await + 1 ≤ (e.keep e.await m).take.answer.await
  rw [h2]
  show e.await + 1 ≤ (e.keep e.await m).await + (En.ready (e.keep e.await m).kept).length
  rw [ha, hk]
  simp [En.ready]
theorem came_answer (e : En) (n : Nat) (m : Fr.Msg) (h : (e.came n m).await < 65536) : (⟨false, (e.came n m).await, Fr.none0⟩ : Fr.Frm) ∈ (e.came n m).out := by
  have h2 : ∀ k : En, k.answer.await = k.await := by intro k; unfold En.answer; split <;> rfl
  have h3 : (e.came n m).await = (e.keep n m).take.await := h2 _
  rw [h3] at h ⊢
  show _ ∈ (En.answer (e.keep n m).take).out
  unfold En.answer
  rw [if_pos h]
  simp

/-- While what is on its way comes, one behind the other: n is what was shown, k what must be acknowledged. -/
structure Pour (ed : En) (bc : List Fr.Frm) (n k : Nat) (any : Prop) : Prop where
  sub : List.Sublist (nums ed.await n) bc
  ans : any → n ≤ ed.await → (∃ f ∈ bc, f.data = true) ∨ ∃ f ∈ ed.out, f.data = false ∧ n ≤ f.seq
  ack : k ≤ ed.first ∨ ∃ f ∈ bc, f.data = false ∧ k ≤ f.seq
theorem Pour.step {ec ed : En} {f : Fr.Frm} {bc bd : List Fr.Frm} {sc sd gc gd n k : Nat} {any : Prop} (hb : Both ec ed (f :: bc) bd sc sd gc gd) (hs : sc < 65536) (h : Pour ed (f :: bc) n k any) : Pour (ed.deliver f) bc n k any := by
  obtain ⟨h1, h2, h3, h4⟩ := hb.deliver f (by simp)
  have ha := h1.there.hi
  have hl := h1.there.len
  have hsh := shown_le ec
  obtain ⟨d, s, m⟩ := f
  cases d with
  | true =>
    have e1 : ed.deliver ⟨true, s, m⟩ = ed.came s m := rfl
    rw [e1] at ha h3 h4 ⊢
    have hm := (hb.there.data ⟨true, s, m⟩ (Or.inl (by simp)) rfl).1
    simp only at hm
    refine ⟨?_, fun _ hn => Or.inr ⟨_, came_answer ed s m (by omega), rfl, hn⟩, ?_⟩
    · by_cases hs' : s = ed.await
      · subst hs'
        have hge := came_next ed m hb.there.four
        refine List.Sublist.trans (nums_sub (ed.await + 1) _ n hge) ?_
        by_cases hn : ed.await < n
        · have := h.sub
          rw [nums_cons _ _ hn, hm] at this
          exact this.of_cons_cons
        · have : nums (ed.await + 1) n = [] := by unfold nums; rw [Nat.sub_eq_zero_of_le (by omega)]; rfl
          rw [this]; exact List.nil_sublist _
      · refine List.Sublist.trans (nums_sub ed.await _ n (came_await ed s m)) ?_
        by_cases hn : ed.await < n
        · have := h.sub
          rw [nums_cons _ _ hn] at this ⊢
          rcases List.sublist_cons_iff.1 this with x | ⟨r, hr, _⟩
          · exact x
          · exfalso
            have := List.head_eq_of_cons_eq hr
            have := congrArg Fr.Frm.seq this
            simp at this
            exact hs' this.symm
        · have : nums ed.await n = [] := by unfold nums; rw [Nat.sub_eq_zero_of_le (by omega)]; rfl
          rw [this]; exact List.nil_sublist _
    · rcases h.ack with x | ⟨g, hg, hd, hk⟩
      · exact Or.inl (Nat.le_trans x h4)
      · rcases List.mem_cons.1 hg with rfl | hg
        · cases hd
        · exact Or.inr ⟨g, hg, hd, hk⟩
  | false =>
    have e1 : ed.deliver ⟨false, s, m⟩ = ed.ack s := rfl
    rw [e1] at ha h3 h4 ⊢
    have haw := (ack_await ed s).1
    have mono : ∀ f ∈ ed.out, f ∈ (ed.ack s).out := by
      intro f hf
      unfold En.ack
      split
      · exact List.mem_append_left _ hf
      · exact hf
    refine ⟨?_, fun hany hn => ?_, ?_⟩
    · rw [haw]
      by_cases hn : ed.await < n
      · have := h.sub
        rw [nums_cons _ _ hn] at this ⊢
        rcases List.sublist_cons_iff.1 this with x | ⟨r, hr, _⟩
        · exact x
        · exfalso
          have := List.head_eq_of_cons_eq hr
          have := congrArg Fr.Frm.data this
          simp at this
      · have : nums ed.await n = [] := by unfold nums; rw [Nat.sub_eq_zero_of_le (by omega)]; rfl
        rw [this]; exact List.nil_sublist _
    · rw [haw] at hn
      rcases h.ans hany hn with ⟨g, hg, hd⟩ | ⟨g, hg, hd, hk⟩
      · rcases List.mem_cons.1 hg with rfl | hg
        · cases hd
        · exact Or.inl ⟨g, hg, hd⟩
      · exact Or.inr ⟨g, mono g hg, hd, hk⟩
    · rcases h.ack with x | ⟨g, hg, hd, hk⟩
      · exact Or.inl (Nat.le_trans x h4)
      · rcases List.mem_cons.1 hg with rfl | hg
        · exact Or.inl (Nat.le_trans hk (h3 rfl))
        · exact Or.inr ⟨g, hg, hd, hk⟩
end Go.Proofs.Ytlfijfodklhplaa
