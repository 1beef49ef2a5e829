/- What Carried has in memory: two ends, two bags, what was sent and what was got. -/
import Derived.Test.YtlfijfodklhplaaCar1
namespace Go.Proofs.Ytlfijfodklhplaa
open Go.RowKit
set_option linter.unusedVariables false
set_option linter.unusedSimpArgs false

def upd {α : Type} (f : Nat → α) (c : Nat) (x : α) (i : Nat) : α := if i = c then x else f i
theorem upd_self {α : Type} (f : Nat → α) (c : Nat) (x : α) : upd f c x c = x := by simp [upd]
theorem upd_other {α : Type} (f : Nat → α) (c : Nat) (x : α) (i : Nat) (h : i ≠ c) : upd f c x i = f i := by simp [upd, h]
def two (f : Nat → Value) : Array Value := #[f 0, f 1]
theorem two_get (f : Nat → Value) (c : Nat) (h : c < 2) : (two f)[c]? = some (f c) := by
  match c, h with
  | 0, _ => rfl
  | 1, _ => rfl
theorem two_set (f : Nat → Value) (c : Nat) (h : c < 2) (v : Value) : (two f).setIfInBounds c v = two (upd f c v) := by
  match c, h with
  | 0, _ => rfl
  | 1, _ => rfl
theorem two_ext (f g : Nat → Value) (h : ∀ i, f i = g i) : two f = two g := by simp [two, h]

/-- What is played. -/
structure Cy where
  e : Nat → En
  p : Nat → Pl
  bag : Nat → List Fr.Frm
  g : Nat → List (Nat × Nat)
  a : Nat → Option Addr
  ca : Nat → Nat
  sent : Nat → Nat
  got : Nat → Nat
/-- Where it lies. -/
structure Fx where
  eb : Nat
  tb : Nat
  sb : Nat
  gb : Nat
  b : Nat → Nat
abbrev Cy.bagv (s : Cy) (i : Nat) : Value := .slice (s.a i) (s.bag i).length (s.ca i)
structure CS (w0 w : World) (x : Fx) (s : Cy) (tag : Nat → Nat) : Prop where
  ends : Blk w x.eb (two fun i => .pointer (some ⟨x.b i, 0, none⟩)) 35
  bags : Blk w x.tb (two s.bagv) 39
  sents : Blk w x.sb (two fun i => .int .i64 (s.sent i : Int)) 40
  gots : Blk w x.gb (two fun i => .int .i64 (s.got i : Int)) 40
  rep : ∀ c, c < 2 → Rep w zero24 62 (x.b c) 0 (s.e c) (s.p c)
  row : ∀ c, c < 2 → RV w 27 1 (s.a c) (s.bag c).length (s.ca c) (bvals (s.g c) (s.bag c))
  gl : ∀ c, c < 2 → (s.g c).length = (s.bag c).length
  buf : ∀ c, c < 2 → ∀ (i : Nat) (g : Nat × Nat) (f : Fr.Frm), (s.g c)[i]? = some g → (s.bag c)[i]? = some f → Buf w g.1 (Fr.enc f) g.2
  fok : ∀ c, c < 2 → ∀ f ∈ s.bag c, FrOk f
  keep : Keep nil w0 w
  tw : ∀ c, c < 2 → ∀ k, Wri (x.b c) (s.p c) k → tag k = c
  tp : ∀ c, c < 2 → ∀ k, k ∈ (s.p c).gs → tag k = 4
  ta : ∀ c, c < 2 → ∀ k, inB (s.a c) k → tag k = 2 + c
  tg : ∀ c, c < 2 → ∀ k, k ∈ s.g c → tag k.1 = 4
  t5 : tag x.eb = 5
  t6 : tag x.tb = 6
  t7 : tag x.sb = 7
  t8 : tag x.gb = 8
  old : ∀ k, k < w0.heap.size → tag k = 9

theorem CS.glt {w0 w : World} {x : Fx} {s : Cy} {tag : Nat → Nat} (h : CS w0 w x s tag) (c : Nat) (hc : c < 2) : ∀ k, k ∈ s.g c → k.1 < w.heap.size := by
  intro k hk
  obtain ⟨j, hj, rfl⟩ := List.getElem_of_mem hk
  have hj' : j < (s.bag c).length := by have := h.gl c hc; omega
  exact (h.buf c hc j _ _ (List.getElem?_eq_getElem hj) (List.getElem?_eq_getElem hj')).lt
theorem CS.mine {w0 w : World} {x : Fx} {s : Cy} {tag : Nat → Nat} (h : CS w0 w x s tag) (c : Nat) (hc : c < 2) (k : Nat) (hk : Mine (x.b c) (s.p c) k) : tag k = c ∨ tag k = 4 :=
  hk.cases.imp (h.tw c hc k) (h.tp c hc k)

/-- Nothing of all that was touched. -/
theorem CS.same {ex : Nat → Prop} {w0 w w' : World} {x : Fx} {s : Cy} {tag : Nat → Nat} (h : CS w0 w x s tag) (k : Keep ex w w') (hn : ∀ i, i < w.heap.size → tag i ≤ 9 → ¬ ex i) : CS w0 w' x s tag where
  ends := h.ends.keep k (hn _ h.ends.lt (by have := h.t5; omega))
  bags := h.bags.keep k (hn _ h.bags.lt (by have := h.t6; omega))
  sents := h.sents.keep k (hn _ h.sents.lt (by have := h.t7; omega))
  gots := h.gots.keep k (hn _ h.gots.lt (by have := h.t8; omega))
  rep := fun c hc => (h.rep c hc).keep k (fun i hi => hn i ((h.rep c hc).lt i hi) (by have := h.mine c hc i hi; omega))
  row := fun c hc => (h.row c hc).keep k (fun i hi => hn i ((h.row c hc).lt i hi) (by have := h.ta c hc i hi; omega))
  gl := h.gl
  buf := fun c hc i g f hg hf => (h.buf c hc i g f hg hf).keep k (hn g.1 (h.glt c hc g (List.mem_of_getElem? hg)) (by have := h.tg c hc g (List.mem_of_getElem? hg); omega))
  fok := h.fok
  keep := h.keep.trans' k (fun i hi e => absurd e (hn i (Nat.lt_of_lt_of_le hi h.keep.size) (by have := h.old i hi; omega)))
  tw := h.tw
  tp := h.tp
  ta := h.ta
  tg := h.tg
  t5 := h.t5
  t6 := h.t6
  t7 := h.t7
  t8 := h.t8
  old := h.old

/-- One end does something. -/
theorem CS.step {w0 w w' : World} {x : Fx} {s : Cy} {tag : Nat → Nat} (h : CS w0 w x s tag) (c : Nat) (hc : c < 2) (e' : En) (p' : Pl) (hr : Rep w' zero24 62 (x.b c) 0 e' p') (hs : Step w w' (x.b c) (s.p c) p') :
    ∃ tag', CS w0 w' x { s with e := upd s.e c e', p := upd s.p c p' } tag' ∧ ∀ k, k < w.heap.size → tag' k = tag k := by
  classical
  have hno : ∀ i, tag i ≠ c → ¬ Wri (x.b c) (s.p c) i := fun i hi hw => hi (h.tw c hc i hw)
  obtain ⟨tag', htag⟩ : ∃ tag' : Nat → Nat, tag' = fun k => if k < w.heap.size then tag k else if Wri (x.b c) p' k then c else 4 := ⟨_, rfl⟩
  have tlt : ∀ k, k < w.heap.size → tag' k = tag k := fun k hk => by rw [htag]; simp only; rw [if_pos hk]
  refine ⟨tag', ?_, tlt⟩
  have hk := hs.keep
  have hrlt := (h.rep c hc).lt
  refine { ends := h.ends.keep hk (hno _ (by have := h.t5; omega)), bags := h.bags.keep hk (hno _ (by have := h.t6; omega)), sents := h.sents.keep hk (hno _ (by have := h.t7; omega)), gots := h.gots.keep hk (hno _ (by have := h.t8; omega)), rep := ?_, row := ?_, gl := h.gl, buf := ?_, fok := h.fok, keep := ?_, tw := ?_, tp := ?_, ta := ?_, tg := ?_, t5 := ?_, t6 := ?_, t7 := ?_, t8 := ?_, old := ?_ }
  · intro d hd
    by_cases hdc : d = c
    · subst hdc; simp only [upd_self]; exact hr
    · simp only [upd_other _ _ _ _ hdc]
      exact (h.rep d hd).keep hk (fun i hi => hno i (by have := h.mine d hd i hi; omega))
  · exact fun d hd => (h.row d hd).keep hk (fun i hi => hno i (by have := h.ta d hd i hi; omega))
  · exact fun d hd i g f hg hf => (h.buf d hd i g f hg hf).keep hk (hno g.1 (by have := h.tg d hd g (List.mem_of_getElem? hg); omega))
  · exact h.keep.trans' hk (fun i hi e => absurd e (hno i (by have := h.old i hi; omega)))
  · intro d hd k hw
    by_cases hdc : d = c
    · subst hdc
      simp only [upd_self] at hw
      by_cases hlt : k < w.heap.size
      · rw [tlt k hlt]
        rcases hs.wri k hw with y | y
        · exact h.tw d hd k y
        · omega
      · rw [htag]; simp only; rw [if_neg hlt, if_pos hw]
    · simp only [upd_other _ _ _ _ hdc] at hw
      rw [tlt k ((h.rep d hd).lt k hw.mine)]
      exact h.tw d hd k hw
  · intro d hd k hg
    by_cases hdc : d = c
    · subst hdc
      simp only [upd_self] at hg
      by_cases hlt : k < w.heap.size
      · rw [tlt k hlt]
        rcases hs.gs k hg with y | y
        · exact h.tp d hd k y
        · omega
      · rw [htag]; simp only; rw [if_neg hlt, if_neg (hr.gw k hg)]
    · simp only [upd_other _ _ _ _ hdc] at hg
      rw [tlt k ((h.rep d hd).lt k (Or.inr (Or.inr (Or.inr hg))))]
      exact h.tp d hd k hg
  · exact fun d hd k hk => by rw [tlt k ((h.row d hd).lt k hk)]; exact h.ta d hd k hk
  · exact fun d hd k hk => by rw [tlt k.1 (h.glt d hd k hk)]; exact h.tg d hd k hk
  · rw [tlt _ h.ends.lt]; exact h.t5
  · rw [tlt _ h.bags.lt]; exact h.t6
  · rw [tlt _ h.sents.lt]; exact h.t7
  · rw [tlt _ h.gots.lt]; exact h.t8
  · exact fun k hk => by rw [tlt k (Nat.lt_of_lt_of_le hk h.keep.size)]; exact h.old k hk

/-- A bag is another one. -/
theorem CS.setBag {w0 w w1 : World} {x : Fx} {s : Cy} {tag : Nat → Nat} (h : CS w0 w x s tag) (c : Nat) (hc : c < 2) (bag' : List Fr.Frm) (g' : List (Nat × Nat)) (a' : Option Addr) (ca' : Nat)
    (hk1 : Keep (inB (s.a c)) w w1) (hrow : RV w1 27 1 a' bag'.length ca' (bvals g' bag')) (hin : ∀ k, inB a' k → inB (s.a c) k ∨ w.heap.size ≤ k) (hgl : g'.length = bag'.length)
    (hbuf : ∀ (i : Nat) (g : Nat × Nat) (f : Fr.Frm), g'[i]? = some g → bag'[i]? = some f → Buf w g.1 (Fr.enc f) g.2) (hfok : ∀ f ∈ bag', FrOk f) (htg : ∀ k, k ∈ g' → tag k.1 = 4) :
    ∃ tag', CS w0 (w1.setCell ⟨x.tb, c, none⟩ (.slice a' bag'.length ca')) x { s with bag := upd s.bag c bag', g := upd s.g c g', a := upd s.a c a', ca := upd s.ca c ca' } tag' ∧ ∀ k, k < w.heap.size → tag' k = tag k := by
  obtain ⟨w2, hw2⟩ : ∃ w2, w2 = w1.setCell ⟨x.tb, c, none⟩ (.slice a' bag'.length ca') := ⟨_, rfl⟩
  have ks : Keep (only x.tb) w1 w2 := by rw [hw2]; exact (Keep.refl (only x.tb) w1).setCell (p := ⟨x.tb, c, none⟩) (fun _ => rfl) _
  have kk : Keep (fun k => inB (s.a c) k ∨ k = x.tb) w w2 := (hk1.mono (fun _ _ e => Or.inl e)).trans (ks.mono (fun _ _ e => Or.inr e))
  have hno : ∀ i, tag i ≠ 2 + c → tag i ≠ 6 → ¬ (inB (s.a c) i ∨ i = x.tb) := fun i h1 h2 hw => hw.elim (fun y => h1 (h.ta c hc i y)) (fun y => h2 (by rw [y]; exact h.t6))
  rw [← hw2]
  obtain ⟨tag', htag⟩ : ∃ tag' : Nat → Nat, tag' = fun k => if k < w.heap.size then tag k else 2 + c := ⟨_, rfl⟩
  have tlt : ∀ k, k < w.heap.size → tag' k = tag k := fun k hk => by rw [htag]; simp only; rw [if_pos hk]
  have g'lt : ∀ k, k ∈ g' → k.1 < w.heap.size := by
    intro k hk
    obtain ⟨j, hj, rfl⟩ := List.getElem_of_mem hk
    have hj' : j < bag'.length := by omega
    exact (hbuf j _ _ (List.getElem?_eq_getElem hj) (List.getElem?_eq_getElem hj')).lt
  have hbt : ∀ k, inB a' k → k ≠ x.tb := fun k hk e => (hin k hk).elim (fun y => by have h1 := h.ta c hc k y; rw [e] at h1; have := h.t6; omega) (fun y => by have := h.bags.lt; omega)
  refine ⟨tag', { ends := h.ends.keep kk (hno _ (by have := h.t5; omega) (by have := h.t5; omega)), bags := ?_, sents := h.sents.keep kk (hno _ (by have := h.t7; omega) (by have := h.t7; omega)), gots := h.gots.keep kk (hno _ (by have := h.t8; omega) (by have := h.t8; omega)), rep := ?_, row := ?_, gl := ?_, buf := ?_, fok := ?_, keep := ?_, tw := ?_, tp := ?_, ta := ?_, tg := ?_, t5 := ?_, t6 := ?_, t7 := ?_, t8 := ?_, old := ?_ }, tlt⟩
  · have h1 := (h.bags.keep hk1 (fun y => by have := h.ta c hc _ y; have := h.t6; omega)).set c (.slice a' bag'.length ca')
    rw [two_set _ _ hc] at h1
    rw [hw2]
    refine (two_ext _ _ (fun i => ?_)) ▸ h1
    by_cases hi : i = c
    · subst hi; simp only [Cy.bagv, upd_self]
    · simp only [Cy.bagv, upd_other _ _ _ _ hi]
  · exact fun d hd => (h.rep d hd).keep kk (fun i hi => hno i (by have := h.mine d hd i hi; omega) (by have := h.mine d hd i hi; omega))
  · intro d hd
    by_cases hdc : d = c
    · subst hdc; simp only [upd_self]
      exact hrow.keep ks (fun k hk => hbt k hk)
    · simp only [upd_other _ _ _ _ hdc]
      exact (h.row d hd).keep kk (fun i hi => hno i (by have := h.ta d hd i hi; omega) (by have := h.ta d hd i hi; omega))
  · intro d hd
    by_cases hdc : d = c
    · subst hdc; simp only [upd_self]; exact hgl
    · simp only [upd_other _ _ _ _ hdc]; exact h.gl d hd
  · intro d hd i g f hg hf
    by_cases hdc : d = c
    · subst hdc
      simp only [upd_self] at hg hf
      exact (hbuf i g f hg hf).keep kk (hno g.1 (by have := htg g (List.mem_of_getElem? hg); omega) (by have := htg g (List.mem_of_getElem? hg); omega))
    · simp only [upd_other _ _ _ _ hdc] at hg hf
      exact (h.buf d hd i g f hg hf).keep kk (hno g.1 (by have := h.tg d hd g (List.mem_of_getElem? hg); omega) (by have := h.tg d hd g (List.mem_of_getElem? hg); omega))
  · intro d hd
    by_cases hdc : d = c
    · subst hdc; simp only [upd_self]; exact hfok
    · simp only [upd_other _ _ _ _ hdc]; exact h.fok d hd
  · exact h.keep.trans' kk (fun i hi e => absurd e (hno i (by have := h.old i hi; omega) (by have := h.old i hi; omega)))
  · exact fun d hd k hk => by rw [tlt k ((h.rep d hd).lt k hk.mine)]; exact h.tw d hd k hk
  · exact fun d hd k hk => by rw [tlt k ((h.rep d hd).lt k (Or.inr (Or.inr (Or.inr hk))))]; exact h.tp d hd k hk
  · intro d hd k hk
    by_cases hdc : d = c
    · subst hdc
      simp only [upd_self] at hk
      by_cases hlt : k < w.heap.size
      · rw [tlt k hlt]
        rcases hin k hk with y | y
        · exact h.ta d hd k y
        · omega
      · rw [htag]; simp only; rw [if_neg hlt]
    · simp only [upd_other _ _ _ _ hdc] at hk
      rw [tlt k ((h.row d hd).lt k hk)]
      exact h.ta d hd k hk
  · intro d hd k hk
    by_cases hdc : d = c
    · subst hdc
      simp only [upd_self] at hk
      rw [tlt k.1 (g'lt k hk)]; exact htg k hk
    · simp only [upd_other _ _ _ _ hdc] at hk
      rw [tlt k.1 (h.glt d hd k hk)]; exact h.tg d hd k hk
  · rw [tlt _ h.ends.lt]; exact h.t5
  · rw [tlt _ h.bags.lt]; exact h.t6
  · rw [tlt _ h.sents.lt]; exact h.t7
  · rw [tlt _ h.gots.lt]; exact h.t8
  · exact fun k hk => by rw [tlt k (Nat.lt_of_lt_of_le hk h.keep.size)]; exact h.old k hk

/-- A number is another one. -/
theorem CS.setGot {w0 w : World} {x : Fx} {s : Cy} {tag : Nat → Nat} (h : CS w0 w x s tag) (c : Nat) (hc : c < 2) (n : Nat) : CS w0 (w.setCell ⟨x.gb, c, none⟩ (.int .i64 (n : Int))) x { s with got := upd s.got c n } tag := by
  have ks : Keep (only x.gb) w (w.setCell ⟨x.gb, c, none⟩ (.int .i64 (n : Int))) := (Keep.refl (only x.gb) w).setCell (p := ⟨x.gb, c, none⟩) (fun _ => rfl) _
  have hno : ∀ i, tag i ≠ 8 → ¬ only x.gb i := fun i h1 e => h1 (by rw [show i = x.gb from e]; exact h.t8)
  refine { ends := h.ends.keep ks (hno _ (by have := h.t5; omega)), bags := h.bags.keep ks (hno _ (by have := h.t6; omega)), sents := h.sents.keep ks (hno _ (by have := h.t7; omega)), gots := ?_, rep := fun d hd => (h.rep d hd).keep ks (fun i hi => hno i (by have := h.mine d hd i hi; omega)), row := fun d hd => (h.row d hd).keep ks (fun i hi => hno i (by have := h.ta d hd i hi; omega)), gl := h.gl, buf := fun d hd i g f hg hf => (h.buf d hd i g f hg hf).keep ks (hno g.1 (by have := h.tg d hd g (List.mem_of_getElem? hg); omega)), fok := h.fok, keep := h.keep.trans' ks (fun i hi e => absurd e (hno i (by have := h.old i hi; omega))), tw := h.tw, tp := h.tp, ta := h.ta, tg := h.tg, t5 := h.t5, t6 := h.t6, t7 := h.t7, t8 := h.t8, old := h.old }
  have h1 := h.gots.set c (.int .i64 (n : Int))
  rw [two_set _ _ hc] at h1
  refine (two_ext _ _ (fun i => ?_)) ▸ h1
  by_cases hi : i = c
  · subst hi; simp only [upd_self]
  · simp only [upd_other _ _ _ _ hi]
theorem CS.setSent {w0 w : World} {x : Fx} {s : Cy} {tag : Nat → Nat} (h : CS w0 w x s tag) (c : Nat) (hc : c < 2) (n : Nat) : CS w0 (w.setCell ⟨x.sb, c, none⟩ (.int .i64 (n : Int))) x { s with sent := upd s.sent c n } tag := by
  have ks : Keep (only x.sb) w (w.setCell ⟨x.sb, c, none⟩ (.int .i64 (n : Int))) := (Keep.refl (only x.sb) w).setCell (p := ⟨x.sb, c, none⟩) (fun _ => rfl) _
  have hno : ∀ i, tag i ≠ 7 → ¬ only x.sb i := fun i h1 e => h1 (by rw [show i = x.sb from e]; exact h.t7)
  refine { ends := h.ends.keep ks (hno _ (by have := h.t5; omega)), bags := h.bags.keep ks (hno _ (by have := h.t6; omega)), sents := ?_, gots := h.gots.keep ks (hno _ (by have := h.t8; omega)), rep := fun d hd => (h.rep d hd).keep ks (fun i hi => hno i (by have := h.mine d hd i hi; omega)), row := fun d hd => (h.row d hd).keep ks (fun i hi => hno i (by have := h.ta d hd i hi; omega)), gl := h.gl, buf := fun d hd i g f hg hf => (h.buf d hd i g f hg hf).keep ks (hno g.1 (by have := h.tg d hd g (List.mem_of_getElem? hg); omega)), fok := h.fok, keep := h.keep.trans' ks (fun i hi e => absurd e (hno i (by have := h.old i hi; omega))), tw := h.tw, tp := h.tp, ta := h.ta, tg := h.tg, t5 := h.t5, t6 := h.t6, t7 := h.t7, t8 := h.t8, old := h.old }
  have h1 := h.sents.set c (.int .i64 (n : Int))
  rw [two_set _ _ hc] at h1
  refine (two_ext _ _ (fun i => ?_)) ▸ h1
  by_cases hi : i = c
  · subst hi; simp only [upd_self]
  · simp only [upd_other _ _ _ _ hi]
end Go.Proofs.Ytlfijfodklhplaa
