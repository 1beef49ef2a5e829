import Derived.Test.YtlfijfodklhplaaGreatLk44
/- The ends that are played, beside the book. -/
namespace Go.Proofs.YtlfijfodklhplaaGreat
open Go.RowKit
set_option linter.unusedVariables false
set_option linter.unusedSimpArgs false

/-- An end, the program's and the document's: where, and what is known. -/
structure Lp where
  xb : Nat
  cb : Nat
  e : En
  p : Pl
  r : Rf
  q : Rp
structure EndAt (w : World) (tag : Nat → Nat) (i : Nat) (x : Lp) : Prop where
  rep : Rep w zero24 147 x.xb 0 x.e x.p
  ref : RRep w x.cb x.r x.q
  tp : ∀ k, Mine x.xb x.p k → tag k = 20 + 4 * i
  tr : ∀ k, RMine x.cb x.q k → tag k = 21 + 4 * i
theorem EndAt.keep {ex : Nat → Prop} {w w' : World} {tag tag' : Nat → Nat} {i : Nat} {x : Lp} (h : EndAt w tag i x) (k : Keep ex w w') (hn : ∀ k, k < w.heap.size → (tag k = 20 + 4 * i ∨ tag k = 21 + 4 * i) → ¬ ex k ∧ tag' k = tag k) : EndAt w' tag' i x where
  rep := h.rep.keep k (fun j hj => (hn j (h.rep.lt j hj) (Or.inl (h.tp j hj))).1)
  ref := h.ref.keep k (fun j hj => (hn j (h.ref.lt j hj) (Or.inr (h.tr j hj))).1)
  tp := fun j hj => (hn j (h.rep.lt j hj) (Or.inl (h.tp j hj))).2.trans (h.tp j hj)
  tr := fun j hj => (hn j (h.ref.lt j hj) (Or.inr (h.tr j hj))).2.trans (h.tr j hj)
def evals (l : List Lp) : List Value := l.flatMap (fun x => [.pointer (some ⟨x.xb, 0, none⟩), .pointer (some ⟨x.cb, 0, none⟩)])
theorem evals_append (l m : List Lp) : evals (l ++ m) = evals l ++ evals m := by simp [evals]
theorem evals_len (l : List Lp) : (evals l).length = l.length * 2 := by
  induction l with
  | nil => rfl
  | cons x t ih =>
    have : evals (x :: t) = [.pointer (some ⟨x.xb, 0, none⟩), .pointer (some ⟨x.cb, 0, none⟩)] ++ evals t := by simp [evals]
    rw [this, List.length_append, ih]; simp; omega
theorem evals_get : ∀ (l : List Lp) (i : Nat) (x : Lp), l[i]? = some x → (evals l)[i * 2]? = some (.pointer (some ⟨x.xb, 0, none⟩)) ∧ (evals l)[i * 2 + 1]? = some (.pointer (some ⟨x.cb, 0, none⟩))
  | [], i, x, h => by simp at h
  | y :: t, 0, x, h => by simp at h; subst h; simp [evals]
  | y :: t, i + 1, x, h => by
    rw [List.getElem?_cons_succ] at h
    have := evals_get t i x h
    have e : evals (y :: t) = .pointer (some ⟨y.xb, 0, none⟩) :: .pointer (some ⟨y.cb, 0, none⟩) :: evals t := by simp [evals]
    rw [e, show (i + 1) * 2 = i * 2 + 1 + 1 by omega, show i * 2 + 1 + 1 + 1 = (i * 2 + 1) + 1 + 1 by omega]
    simpa using this
theorem evals_set (l : List Lp) (i : Nat) (x y : Lp) (h : l[i]? = some x) (h1 : y.xb = x.xb) (h2 : y.cb = x.cb) : evals (l.set i y) = evals l := by
  have hg : ∀ (l : List Lp) (i : Nat), l[i]? = some x → evals (l.set i y) = evals l := by
    intro l
    induction l with
    | nil => intro i h; simp at h
    | cons z t ih =>
      intro i h
      cases i with
      | zero => simp at h; subst h; simp [evals, h1, h2]
      | succ i =>
        rw [List.getElem?_cons_succ] at h
        have := ih i h
        simp only [evals, List.set_cons_succ, List.flatMap_cons] at this ⊢
        rw [this]
  exact hg l i h
structure Ends (w : World) (tag : Nat → Nat) (ea : Option Addr) (ec : Nat) (l : List Lp) : Prop where
  row : RV w 98 2 ea l.length ec (evals l)
  tr : ∀ g, inB ea g → tag g = 17
  at_ : ∀ i x, l[i]? = some x → EndAt w tag i x
theorem Ends.keep {ex : Nat → Prop} {w w' : World} {tag tag' : Nat → Nat} {ea : Option Addr} {ec : Nat} {l : List Lp} (h : Ends w tag ea ec l) (k : Keep ex w w') (hn : ∀ k, k < w.heap.size → (tag k = 17 ∨ (20 ≤ tag k ∧ tag k % 4 ≤ 1)) → ¬ ex k ∧ tag' k = tag k) : Ends w' tag' ea ec l where
  row := h.row.keep k (fun g hg => (hn g (h.row.lt g hg) (Or.inl (h.tr g hg))).1)
  tr := fun g hg => (hn g (h.row.lt g hg) (Or.inl (h.tr g hg))).2.trans (h.tr g hg)
  at_ := fun i x hx => (h.at_ i x hx).keep k (fun j hj ht => hn j hj (Or.inr (by omega)))
/-- What else is held stands while none of its blocks is written: those under way, and the nets. -/
def yt (t : Nat) : Prop := (6 ≤ t ∧ t ≤ 8) ∨ t = 18 ∨ (20 ≤ t ∧ 2 ≤ t % 4)
def zt (t : Nat) : Prop := 2 ≤ t ∧ t ≤ 5
def Yst (Y : World → (Nat → Nat) → Prop) : Prop := ∀ (ex : Nat → Prop) (w w' : World) (tag tag' : Nat → Nat), Y w tag → Keep ex w w' → (∀ k, k < w.heap.size → yt (tag k) → ¬ ex k ∧ tag' k = tag k) → Y w' tag'
def Zst (Z : World → (Nat → Nat) → Prop) : Prop := ∀ (ex : Nat → Prop) (w w' : World) (tag tag' : Nat → Nat), Z w tag → Keep ex w w' → (∀ k, k < w.heap.size → zt (tag k) → ¬ ex k ∧ tag' k = tag k) → Z w' tag'
def LX (ea : Option Addr) (ec : Nat) (l : List Lp) (Y Z : World → (Nat → Nat) → Prop) (w : World) (tag : Nat → Nat) : Prop := Ends w tag ea ec l ∧ Y w tag ∧ Z w tag
def cxL (W0 : World) (R : Nat → Rw) (ea : Option Addr) (ec : Nat) (l : List Lp) (Y Z : World → (Nat → Nat) → Prop) (hY : Yst Y) (hZ : Zst Z) : Cx where
  W0 := W0
  R := R
  X := LX ea ec l Y Z
  st := fun ex w w' tag tag' h k hx ht => by
    refine ⟨h.1.keep k (fun i hi hti => ⟨fun e => ?_, ht i hi (by omega)⟩), hY ex w w' tag tag' h.2.1 k (fun i hi hti => ⟨fun e => ?_, ht i hi (by unfold yt at hti; omega)⟩), hZ ex w w' tag tag' h.2.2 k (fun i hi hti => ⟨fun e => ?_, ht i hi (by unfold zt at hti; omega)⟩)⟩
    · have := hx i hi e; omega
    · have := hx i hi e; unfold yt at hti; omega
    · have := hx i hi e; unfold zt at hti; omega
/-- The whole state between two steps on ends. -/
structure LS (W0 w : World) (tag : Nat → Nat) (yb : Nat) (ea : Option Addr) (ec : Nat) (l : List Lp) (p1 : Value) (R : Nat → Rw) (Y Z : World → (Nat → Nat) → Prop) : Prop where
  y : Yst Y
  z : Zst Z
  b : BkT (cxL W0 R ea ec l Y Z y z) w tag yb (.slice ea l.length ec) p1 R
section
variable {W0 w w' : World} {tag : Nat → Nat} {yb : Nat} {ea : Option Addr} {ec : Nat} {l : List Lp} {p1 : Value} {R : Nat → Rw} {Y Z : World → (Nat → Nat) → Prop}
theorem LS.ends (h : LS W0 w tag yb ea ec l p1 R Y Z) : Ends w tag ea ec l := h.b.x.1
theorem LS.yy (h : LS W0 w tag yb ea ec l p1 R Y Z) : Y w tag := h.b.x.2.1
theorem LS.zz (h : LS W0 w tag yb ea ec l p1 R Y Z) : Z w tag := h.b.x.2.2
theorem LS.at (h : LS W0 w tag yb ea ec l p1 R Y Z) {i : Nat} {x : Lp} (hx : l[i]? = some x) : EndAt w tag i x := h.ends.at_ i x hx
theorem LS.same (h : LS W0 w tag yb ea ec l p1 R Y Z) (k : Keep nil w w') : LS W0 w' tag yb ea ec l p1 R Y Z := ⟨h.y, h.z, h.b.same k⟩
theorem LS.free {ex : Nat → Prop} (h : LS W0 w tag yb ea ec l p1 R Y Z) (k : Keep ex w w') (hn : ∀ i, i < w.heap.size → ex i → tag i = 0) : LS W0 w' tag yb ea ec l p1 R Y Z := ⟨h.y, h.z, h.b.free k hn⟩
theorem LS.nz (h : LS W0 w tag yb ea ec l p1 R Y Z) : ∀ k, w.heap.size ≤ k → tag k = 0 := h.b.nz
/-- One list more in the book. -/
theorem LS.add {κ : Nat} (hκ : κ < 6) {G : Nat → Prop} {ab c' : Nat} {v : Value} (h : LS W0 w tag yb ea ec l p1 R Y Z) (hG : ∀ x, x < w.heap.size → G x → tag x = 0) (a : Added κ G w w' yb (.slice ea l.length ec) p1 R ab c' v) :
    ∃ tag' R', LS W0 w' tag' yb ea ec l p1 R' Y Z ∧ (R' κ).n = (R κ).n + 1 ∧ (∀ j, j ≠ κ → R' j = R j) ∧ (∀ k, k < w.heap.size → ¬ G k → tag' k = tag k) ∧ (∀ k, k < w.heap.size → tag k ≠ 0 → tag' k = tag k) := by
  obtain ⟨tag', h1, h2, h3⟩ := h.b.add hκ hG a
  refine ⟨tag', updR R κ ⟨some ⟨ab, 0, none⟩, (R κ).n + 1, c', (R κ).V ++ [v]⟩, ⟨h.y, h.z, ?_⟩, by rw [updR_self], fun j hj => updR_other _ _ _ _ hj, h2, h3⟩
  exact ⟨h1.keep, h1.play, h1.row, h1.ty, h1.old, h1.item, h1.nz, h1.x⟩
/-- What is under way is another thing. -/
theorem LS.turn {Z' : World → (Nat → Nat) → Prop} {tag' : Nat → Nat} (h : LS W0 w tag yb ea ec l p1 R Y Z) (hZ' : Zst Z') (ht : ∀ i, i < w.heap.size → (tag i = 1 ∨ 6 ≤ tag i) → tag' i = tag i) (hz : ∀ i, w.heap.size ≤ i → tag' i = 0) (hy : Z' w tag') : LS W0 w tag' yb ea ec l p1 R Y Z' := by
  refine ⟨h.y, hZ', h.b.move (Keep.refl nil w) (fun _ _ e => e.elim) (fun i hi e => ht i hi (e.imp id (fun e => by omega))) hz ⟨?_, ?_, hy⟩ rfl⟩
  · exact h.ends.keep (Keep.refl nil w) (fun i hi hti => ⟨fun e => e, ht i hi (Or.inr (by omega))⟩)
  · exact h.y _ _ _ _ _ h.yy (Keep.refl nil w) (fun i hi hti => ⟨fun e => e, ht i hi (Or.inr (by unfold yt at hti; omega))⟩)
theorem set_at {l : List Lp} {i : Nat} {x y : Lp} (hx : l[i]? = some x) {j : Nat} {z : Lp} (hz : (l.set i y)[j]? = some z) : (j = i ∧ z = y) ∨ (j ≠ i ∧ l[j]? = some z) := by
  by_cases e : j = i
  · subst e
    rw [List.getElem?_set_self (List.getElem?_eq_some_iff.1 hx).1] at hz
    cases hz; exact Or.inl ⟨rfl, rfl⟩
  · rw [List.getElem?_set_ne (Ne.symm e)] at hz
    exact Or.inr ⟨e, hz⟩
/-- The program's end does something. -/
theorem LS.stepP (h : LS W0 w tag yb ea ec l p1 R Y Z) {i : Nat} {x : Lp} (hx : l[i]? = some x) {e' : En} {p' : Pl} (hr : Rep w' zero24 147 x.xb 0 e' p') (hs : Step w w' x.xb x.p p') :
    ∃ tag', LS W0 w' tag' yb ea ec (l.set i { x with e := e', p := p' }) p1 R Y Z ∧ (∀ k, k < w.heap.size → tag' k = tag k) ∧ (∀ k, w.heap.size ≤ k → ¬ Mine x.xb p' k → tag' k = 0) := by
  classical
  obtain ⟨tag', htag⟩ : ∃ tag' : Nat → Nat, tag' = fun k => if k < w.heap.size then tag k else if Mine x.xb p' k then 20 + 4 * i else 0 := ⟨_, rfl⟩
  have t1 : ∀ k, k < w.heap.size → tag' k = tag k := fun k hk => by rw [htag]; simp only [hk, if_true]
  have t2 : ∀ k, w.heap.size ≤ k → ¬ Mine x.xb p' k → tag' k = 0 := fun k hk hm => by rw [htag]; simp only; rw [if_neg (by omega), if_neg hm]
  have hk := hs.keep
  have hA := h.at hx
  have hw : ∀ k, Wri x.xb x.p k → tag k = 20 + 4 * i := fun k hk => hA.tp k hk.mine
  refine ⟨tag', ⟨h.y, h.z, ?_⟩, t1, t2⟩
  have hmine : ∀ k, Mine x.xb p' k → tag' k = 20 + 4 * i := fun k hm => by
    by_cases hlt : k < w.heap.size
    · rw [t1 k hlt]
      rcases hm.cases with y | y
      · rcases hs.wri k y with y | y
        · exact hA.tp k y.mine
        · omega
      · rcases hs.gs k y with y | y
        · exact hA.tp k (Or.inr (Or.inr (Or.inr y)))
        · omega
    · rw [htag]; simp only; rw [if_neg hlt, if_pos hm]
  have hE : Ends w' tag' ea ec (l.set i { x with e := e', p := p' }) := by
    have hE0 := h.ends
    refine ⟨?_, fun g hg => ?_, fun j z hz => ?_⟩
    · rw [List.length_set, evals_set l i x { x with e := e', p := p' } hx rfl rfl]
      exact hE0.row.keep hk (fun g hg e => by have := hw g e; have := hE0.tr g hg; omega)
    · rw [t1 g (hE0.row.lt g hg)]; exact hE0.tr g hg
    · rcases set_at hx hz with ⟨rfl, rfl⟩ | ⟨hj, hz⟩
      · exact ⟨hr, hA.ref.keep hk (fun k hm e => by have := hw k e; have := hA.tr k hm; omega), hmine, fun k hm => by rw [t1 k (hA.ref.lt k hm)]; exact hA.tr k hm⟩
      · exact (hE0.at_ j z hz).keep hk (fun k hkl ht => ⟨fun e => by have := hw k e; omega, t1 k hkl⟩)
  have hb := h.b.move (C' := cxL W0 R ea ec (l.set i { x with e := e', p := p' }) Y Z h.y h.z) (tag' := tag') hk (fun k hkl e => by have := hw k e; omega) (fun k hkl _ => t1 k hkl) (fun k hkl => t2 k (Nat.le_trans hk.size hkl) (fun hm => by have := hr.lt k hm; omega)) ⟨hE, h.y _ _ _ _ _ h.yy hk (fun k hkl ht => ⟨fun e => by have := hw k e; unfold yt at ht; omega, t1 k hkl⟩), h.z _ _ _ _ _ h.zz hk (fun k hkl ht => ⟨fun e => by have := hw k e; unfold zt at ht; omega, t1 k hkl⟩)⟩ rfl
  rw [List.length_set]
  exact hb
/-- The document's end does something. -/
theorem LS.stepR (h : LS W0 w tag yb ea ec l p1 R Y Z) {i : Nat} {x : Lp} (hx : l[i]? = some x) {r' : Rf} {q' : Rp} (hr : RRep w' x.cb r' q') (hs : RStep w w' x.cb x.q q') :
    ∃ tag', LS W0 w' tag' yb ea ec (l.set i { x with r := r', q := q' }) p1 R Y Z ∧ (∀ k, k < w.heap.size → tag' k = tag k) ∧ (∀ k, w.heap.size ≤ k → ¬ RMine x.cb q' k → tag' k = 0) := by
  classical
  obtain ⟨tag', htag⟩ : ∃ tag' : Nat → Nat, tag' = fun k => if k < w.heap.size then tag k else if RMine x.cb q' k then 21 + 4 * i else 0 := ⟨_, rfl⟩
  have t1 : ∀ k, k < w.heap.size → tag' k = tag k := fun k hk => by rw [htag]; simp only [hk, if_true]
  have t2 : ∀ k, w.heap.size ≤ k → ¬ RMine x.cb q' k → tag' k = 0 := fun k hk hm => by rw [htag]; simp only; rw [if_neg (by omega), if_neg hm]
  have hk := hs.keep
  have hA := h.at hx
  have hw : ∀ k, RWri x.cb x.q k → tag k = 21 + 4 * i := fun k hk => hA.tr k (Or.inl hk)
  refine ⟨tag', ⟨h.y, h.z, ?_⟩, t1, t2⟩
  have hmine : ∀ k, RMine x.cb q' k → tag' k = 21 + 4 * i := fun k hm => by
    by_cases hlt : k < w.heap.size
    · rw [t1 k hlt]
      rcases hs.mine k hm with y | y
      · exact hA.tr k y
      · omega
    · rw [htag]; simp only; rw [if_neg hlt, if_pos hm]
  have hE : Ends w' tag' ea ec (l.set i { x with r := r', q := q' }) := by
    have hE0 := h.ends
    refine ⟨?_, fun g hg => ?_, fun j z hz => ?_⟩
    · rw [List.length_set, evals_set l i x { x with r := r', q := q' } hx rfl rfl]
      exact hE0.row.keep hk (fun g hg e => by have := hw g e; have := hE0.tr g hg; omega)
    · rw [t1 g (hE0.row.lt g hg)]; exact hE0.tr g hg
    · rcases set_at hx hz with ⟨rfl, rfl⟩ | ⟨hj, hz⟩
      · exact ⟨hA.rep.keep hk (fun k hm e => by have := hw k e; have := hA.tp k hm; omega), hr, fun k hm => by rw [t1 k (hA.rep.lt k hm)]; exact hA.tp k hm, hmine⟩
      · exact (hE0.at_ j z hz).keep hk (fun k hkl ht => ⟨fun e => by have := hw k e; omega, t1 k hkl⟩)
  have hb := h.b.move (C' := cxL W0 R ea ec (l.set i { x with r := r', q := q' }) Y Z h.y h.z) (tag' := tag') hk (fun k hkl e => by have := hw k e; omega) (fun k hkl _ => t1 k hkl) (fun k hkl => t2 k (Nat.le_trans hk.size hkl) (fun hm => by have := hr.lt k hm; omega)) ⟨hE, h.y _ _ _ _ _ h.yy hk (fun k hkl ht => ⟨fun e => by have := hw k e; unfold yt at ht; omega, t1 k hkl⟩), h.z _ _ _ _ _ h.zz hk (fun k hkl ht => ⟨fun e => by have := hw k e; unfold zt at ht; omega, t1 k hkl⟩)⟩ rfl
  rw [List.length_set]
  exact hb
end
end Go.Proofs.YtlfijfodklhplaaGreat
