import Derived.Test.YtlfijfodklhplaaGreatLk48
/- What goes out at an end, in the hands of its owner. -/
namespace Go.Proofs.YtlfijfodklhplaaGreat
open Go.RowKit
set_option linter.unusedVariables false
set_option linter.unusedSimpArgs false

/-- The document's list of frames, handed over. -/
structure MRow (fa : Option Addr) (fc : Nat) (gs : List (Nat × Nat)) (frs : List Fr.Frm) (w : World) (tag : Nat → Nat) : Prop where
  row : RV w 56 1 fa frs.length fc (rvals gs frs)
  gl : gs.length = frs.length
  bufs : ∀ (i : Nat) (g : Nat × Nat) (f : Fr.Frm), gs[i]? = some g → frs[i]? = some f → BRow w g.1 (Fr.enc f) g.2 ∧ flen f ≤ g.2
  ta : ∀ k, inB fa k → tag k = 4
  tg : ∀ (i : Nat) (g : Nat × Nat), gs[i]? = some g → tag g.1 = 5
/-- The program's, from the i-th frame on. -/
structure LRow (oa : Option Addr) (oc : Nat) (gs : List Nat) (frs : List Fr.Frm) (i : Nat) (w : World) (tag : Nat → Nat) : Prop where
  row : RV w 56 1 oa frs.length oc (ovals gs frs)
  gl : gs.length = frs.length
  nd : gs.Nodup
  bufs : ∀ (j g : Nat) (f : Fr.Frm), i ≤ j → gs[j]? = some g → frs[j]? = some f → Buf w g (Fr.enc f) 10
  ta : ∀ k, inB oa k → tag k = 2
  tg : ∀ (j g : Nat), i ≤ j → gs[j]? = some g → tag g = 3
theorem MRow.glt {fa : Option Addr} {fc : Nat} {gs : List (Nat × Nat)} {frs : List Fr.Frm} {w : World} {tag : Nat → Nat} (h : MRow fa fc gs frs w tag) {i : Nat} {g : Nat × Nat} (hg : gs[i]? = some g) : g.1 < w.heap.size := by
  have hi := (List.getElem?_eq_some_iff.1 hg).1
  have hi2 : i < frs.length := by have := h.gl; omega
  exact (h.bufs i g _ hg (List.getElem?_eq_getElem hi2)).1.lt
theorem LRow.glt {oa : Option Addr} {oc : Nat} {gs : List Nat} {frs : List Fr.Frm} {i : Nat} {w : World} {tag : Nat → Nat} (h : LRow oa oc gs frs i w tag) {j g : Nat} (hij : i ≤ j) (hg : gs[j]? = some g) : g < w.heap.size := by
  have hi := (List.getElem?_eq_some_iff.1 hg).1
  have hi2 : j < frs.length := by have := h.gl; omega
  exact (h.bufs j g _ hij hg (List.getElem?_eq_getElem hi2)).lt
theorem mrow_st (fa : Option Addr) (fc : Nat) (gs : List (Nat × Nat)) (frs : List Fr.Frm) : Zst (MRow fa fc gs frs) := fun ex w w' tag tag' h k hn => by
  have ha : ∀ g, inB fa g → ¬ ex g ∧ tag' g = tag g := fun g hg => hn g (h.row.lt g hg) (by have := h.ta g hg; unfold zt; omega)
  have hg' : ∀ (i : Nat) (g : Nat × Nat), gs[i]? = some g → ¬ ex g.1 ∧ tag' g.1 = tag g.1 := fun i g hg => hn g.1 (h.glt hg) (by have := h.tg i g hg; unfold zt; omega)
  exact ⟨h.row.keep k (fun g hg => (ha g hg).1), h.gl, fun i g f hg hf => ⟨(h.bufs i g f hg hf).1.keep k (hg' i g hg).1, (h.bufs i g f hg hf).2⟩, fun g hg => (ha g hg).2.trans (h.ta g hg), fun i g hg => (hg' i g hg).2.trans (h.tg i g hg)⟩
theorem lrow_st (oa : Option Addr) (oc : Nat) (gs : List Nat) (frs : List Fr.Frm) (i : Nat) : Zst (LRow oa oc gs frs i) := fun ex w w' tag tag' h k hn => by
  have ha : ∀ g, inB oa g → ¬ ex g ∧ tag' g = tag g := fun g hg => hn g (h.row.lt g hg) (by have := h.ta g hg; unfold zt; omega)
  have hg' : ∀ (j g : Nat), i ≤ j → gs[j]? = some g → ¬ ex g ∧ tag' g = tag g := fun j g hij hg => hn g (h.glt hij hg) (by have := h.tg j g hij hg; unfold zt; omega)
  exact ⟨h.row.keep k (fun g hg => (ha g hg).1), h.gl, h.nd, fun j g f hij hg hf => (h.bufs j g f hij hg hf).keep k (hg' j g hij hg).1, fun g hg => (ha g hg).2.trans (h.ta g hg), fun j g hij hg => (hg' j g hij hg).2.trans (h.tg j g hij hg)⟩
theorem zst_and {Z Z' : World → (Nat → Nat) → Prop} (h : Zst Z) (h' : Zst Z') : Zst (fun w t => Z w t ∧ Z' w t) := fun ex w w' tag tag' hz k hn => ⟨h ex w w' tag tag' hz.1 k hn, h' ex w w' tag tag' hz.2 k hn⟩
theorem zst_true : Zst (fun _ _ => True) := fun _ _ _ _ _ _ _ _ => trivial
section
variable {W0 w w' : World} {tag : Nat → Nat} {yb : Nat} {ea : Option Addr} {ec : Nat} {l : List Lp} {p1 : Value} {R : Nat → Rw} {Y Z : World → (Nat → Nat) → Prop}
/-- The document's Out. -/
theorem LS.outR (h : LS W0 w tag yb ea ec l p1 R Y Z) {i : Nat} {x : Lp} (hx : l[i]? = some x) (hr : RRep w' x.cb x.r.outs { x.q with fa := none, fc := 0, gs := [] }) (hk : Keep (only x.cb) w w') :
    ∃ tag', LS W0 w' tag' yb ea ec (l.set i { x with r := x.r.outs, q := { x.q with fa := none, fc := 0, gs := [] } }) p1 R Y (MRow x.q.fa x.q.fc x.q.gs x.r.out) := by
  classical
  have hA := h.at hx
  obtain ⟨tag', htag⟩ : ∃ tag' : Nat → Nat, tag' = fun k => if inB x.q.fa k then 4 else if ∃ c, (k, c) ∈ x.q.gs then 5 else tag k := ⟨_, rfl⟩
  have t0 : ∀ k, tag k ≠ 21 + 4 * i → tag' k = tag k := fun k hk => by
    have h1 : ¬ inB x.q.fa k := fun e => hk (hA.tr k (Or.inl (Or.inr (Or.inr (Or.inr e)))))
    have h2 : ¬ ∃ c, (k, c) ∈ x.q.gs := fun e => hk (hA.tr k (Or.inr e))
    rw [htag]; simp only; rw [if_neg h1, if_neg h2]
  have t4 : ∀ k, inB x.q.fa k → tag' k = 4 := fun k hk => by rw [htag]; simp only; rw [if_pos hk]
  have t5 : ∀ k c, (k, c) ∈ x.q.gs → tag' k = 5 := fun k c hk => by
    rw [htag]; simp only
    rw [if_neg (fun e => hA.ref.gw k c hk (Or.inr (Or.inr (Or.inr e)))), if_pos ⟨c, hk⟩]
  have tm : ∀ k, RMine x.cb { x.q with fa := none, fc := 0, gs := [] } k → tag' k = 21 + 4 * i ∧ RMine x.cb x.q k := fun k hm => by
    have hw : k = x.cb ∨ inB x.q.sa k ∨ inB x.q.ka k := by
      rcases hm with (hm | hm | hm | hm) | ⟨c, hm⟩
      · exact Or.inl hm
      · exact Or.inr (Or.inl hm)
      · exact Or.inr (Or.inr hm)
      · exact (inB_none k hm).elim
      · simp at hm
    have hW : RWri x.cb x.q k := by
      rcases hw with e | e | e
      · exact Or.inl e
      · exact Or.inr (Or.inl e)
      · exact Or.inr (Or.inr (Or.inl e))
    refine ⟨?_, Or.inl hW⟩
    have h1 : ¬ inB x.q.fa k := fun e => by
      rcases hw with e' | e' | e'
      · subst e'; exact hA.ref.fb e
      · exact hA.ref.sf k e' e
      · exact hA.ref.kf k e' e
    have h2 : ¬ ∃ c, (k, c) ∈ x.q.gs := fun ⟨c, e⟩ => hA.ref.gw k c e hW
    rw [htag]; simp only; rw [if_neg h1, if_neg h2]
    exact hA.tr k (Or.inl hW)
  have hcb : tag x.cb = 21 + 4 * i := hA.tr x.cb (Or.inl (Or.inl rfl))
  have hex : ∀ k, only x.cb k → tag k = 21 + 4 * i := fun k e => by rw [show k = x.cb from e]; exact hcb
  have hE : Ends w' tag' ea ec (l.set i { x with r := x.r.outs, q := { x.q with fa := none, fc := 0, gs := [] } }) := by
    have hE0 := h.ends
    refine ⟨?_, fun g hg => ?_, fun j z hz => ?_⟩
    · rw [List.length_set, evals_set l i x { x with r := x.r.outs, q := { x.q with fa := none, fc := 0, gs := [] } } hx rfl rfl]
      exact hE0.row.keep hk (fun g hg e => by have := hex g e; have := hE0.tr g hg; omega)
    · have := hE0.tr g hg; rw [t0 g (by omega)]; exact this
    · rcases set_at hx hz with ⟨rfl, rfl⟩ | ⟨hj, hz⟩
      · exact ⟨hA.rep.keep hk (fun k hm e => by have := hex k e; have := hA.tp k hm; omega), hr, fun k hm => by have := hA.tp k hm; rw [t0 k (by omega)]; exact this, fun k hm => (tm k hm).1⟩
      · exact (hE0.at_ j z hz).keep hk (fun k hkl ht => ⟨fun e => by have := hex k e; omega, t0 k (by omega)⟩)
  have hz : ∀ k, w'.heap.size ≤ k → tag' k = 0 := fun k hkl => by
    have := h.nz k (Nat.le_trans hk.size hkl)
    rw [t0 k (by omega)]; exact this
  have hM : MRow x.q.fa x.q.fc x.q.gs x.r.out w' tag' := by
    refine ⟨hA.ref.frow.keep hk (fun g hg e => ?_), hA.ref.gl, fun j g f hg hf => ⟨(hA.ref.bufs j g f hg hf).1.keep hk (fun e => ?_), (hA.ref.bufs j g f hg hf).2⟩, t4, fun j g hg => t5 g.1 g.2 (List.mem_of_getElem? hg)⟩
    · rw [show g = x.cb from e] at hg; exact hA.ref.fb hg
    · exact hA.ref.gw g.1 g.2 (List.mem_of_getElem? hg) (Or.inl e)
  refine ⟨tag', h.y, mrow_st _ _ _ _, ?_⟩
  have hb := h.b.move (C' := cxL W0 R ea ec (l.set i { x with r := x.r.outs, q := { x.q with fa := none, fc := 0, gs := [] } }) Y (MRow x.q.fa x.q.fc x.q.gs x.r.out) h.y (mrow_st _ _ _ _)) (tag' := tag') hk (fun k hkl e => by have := hex k e; omega) (fun k hkl e => t0 k (by omega)) hz ⟨hE, h.y _ _ _ _ _ h.yy hk (fun k hkl ht => ⟨fun e => by have := hex k e; unfold yt at ht; omega, t0 k (by unfold yt at ht; omega)⟩), hM⟩ rfl
  rw [List.length_set]
  exact hb
/-- The program's Out. -/
theorem LS.outP (h : LS W0 w tag yb ea ec l p1 R Y Z) {i : Nat} {x : Lp} (hx : l[i]? = some x) (hr : Rep w' zero24 147 x.xb 0 x.e.outs { x.p with oa := none, oc := 0, gs := [] }) (hk : Keep (only x.xb) w w') :
    ∃ tag', LS W0 w' tag' yb ea ec (l.set i { x with e := x.e.outs, p := { x.p with oa := none, oc := 0, gs := [] } }) p1 R Y (fun w t => Z w t ∧ LRow x.p.oa x.p.oc x.p.gs x.e.out 0 w t) := by
  classical
  have hA := h.at hx
  obtain ⟨tag', htag⟩ : ∃ tag' : Nat → Nat, tag' = fun k => if inB x.p.oa k then 2 else if k ∈ x.p.gs then 3 else tag k := ⟨_, rfl⟩
  have t0 : ∀ k, tag k ≠ 20 + 4 * i → tag' k = tag k := fun k hk => by
    have h1 : ¬ inB x.p.oa k := fun e => hk (hA.tp k (Or.inr (Or.inr (Or.inl e))))
    have h2 : ¬ k ∈ x.p.gs := fun e => hk (hA.tp k (Or.inr (Or.inr (Or.inr e))))
    rw [htag]; simp only; rw [if_neg h1, if_neg h2]
  have t4 : ∀ k, inB x.p.oa k → tag' k = 2 := fun k hk => by rw [htag]; simp only; rw [if_pos hk]
  have t5 : ∀ k, k ∈ x.p.gs → tag' k = 3 := fun k hk => by
    rw [htag]; simp only
    rw [if_neg (fun e => hA.rep.gw k hk (Or.inr (Or.inr e))), if_pos hk]
  have tm : ∀ k, Mine x.xb { x.p with oa := none, oc := 0, gs := [] } k → tag' k = 20 + 4 * i := fun k hm => by
    have hw : k = x.xb ∨ inB x.p.wa k := by
      rcases hm with hm | hm | hm | hm
      · exact Or.inl hm
      · exact Or.inr hm
      · exact (inB_none k hm).elim
      · simp at hm
    have hW : Wri x.xb x.p k := hw.elim Or.inl (fun e => Or.inr (Or.inl e))
    have h1 : ¬ inB x.p.oa k := fun e => by
      rcases hw with e' | e'
      · subst e'; exact hA.rep.ob e
      · exact hA.rep.wo k e' e
    have h2 : ¬ k ∈ x.p.gs := fun e => hA.rep.gw k e hW
    rw [htag]; simp only; rw [if_neg h1, if_neg h2]
    exact hA.tp k hW.mine
  have hcb : tag x.xb = 20 + 4 * i := hA.tp x.xb (Or.inl rfl)
  have hex : ∀ k, only x.xb k → tag k = 20 + 4 * i := fun k e => by rw [show k = x.xb from e]; exact hcb
  have hE : Ends w' tag' ea ec (l.set i { x with e := x.e.outs, p := { x.p with oa := none, oc := 0, gs := [] } }) := by
    have hE0 := h.ends
    refine ⟨?_, fun g hg => ?_, fun j z hz => ?_⟩
    · rw [List.length_set, evals_set l i x { x with e := x.e.outs, p := { x.p with oa := none, oc := 0, gs := [] } } hx rfl rfl]
      exact hE0.row.keep hk (fun g hg e => by have := hex g e; have := hE0.tr g hg; omega)
    · have := hE0.tr g hg; rw [t0 g (by omega)]; exact this
    · rcases set_at hx hz with ⟨rfl, rfl⟩ | ⟨hj, hz⟩
      · exact ⟨hr, hA.ref.keep hk (fun k hm e => by have := hex k e; have := hA.tr k hm; omega), tm, fun k hm => by have := hA.tr k hm; rw [t0 k (by omega)]; exact this⟩
      · exact (hE0.at_ j z hz).keep hk (fun k hkl ht => ⟨fun e => by have := hex k e; omega, t0 k (by omega)⟩)
  have hz : ∀ k, w'.heap.size ≤ k → tag' k = 0 := fun k hkl => by
    have := h.nz k (Nat.le_trans hk.size hkl)
    rw [t0 k (by omega)]; exact this
  have hM : LRow x.p.oa x.p.oc x.p.gs x.e.out 0 w' tag' := by
    refine ⟨hA.rep.orow.keep hk (fun g hg e => ?_), hA.rep.gl, hA.rep.gn, fun j g f _ hg hf => (hA.rep.bufs j g f hg hf).keep hk (fun e => ?_), t4, fun j g _ hg => t5 g (List.mem_of_getElem? hg)⟩
    · rw [show g = x.xb from e] at hg; exact hA.rep.ob hg
    · exact hA.rep.gw g (List.mem_of_getElem? hg) (Or.inl e)
  refine ⟨tag', h.y, zst_and h.z (lrow_st _ _ _ _ _), ?_⟩
  have hb := h.b.move (C' := cxL W0 R ea ec (l.set i { x with e := x.e.outs, p := { x.p with oa := none, oc := 0, gs := [] } }) Y (fun w t => Z w t ∧ LRow x.p.oa x.p.oc x.p.gs x.e.out 0 w t) h.y (zst_and h.z (lrow_st _ _ _ _ _))) (tag' := tag') hk (fun k hkl e => by have := hex k e; omega) (fun k hkl e => t0 k (by omega)) hz ⟨hE, h.y _ _ _ _ _ h.yy hk (fun k hkl ht => ⟨fun e => by have := hex k e; unfold yt at ht; omega, t0 k (by unfold yt at ht; omega)⟩), h.z _ _ _ _ _ h.zz hk (fun k hkl ht => ⟨fun e => by have := hex k e; unfold zt at ht; omega, t0 k (by unfold zt at ht; omega)⟩), hM⟩ rfl
  rw [List.length_set]
  exact hb
end
/-- One frame is told. -/
theorem tell_one (W0 w : World) (tag : Nat → Nat) (yb : Nat) (ea : Option Addr) (ec : Nat) (l : List Lp) (p1 : Value) (R : Nat → Rw) (Y : World → (Nat → Nat) → Prop) (fa : Option Addr) (fc : Nat) (gm : List (Nat × Nat)) (oa : Option Addr) (oc : Nat) (gs : List Nat) (frs : List Fr.Frm) (i : Nat)
    (h : LS W0 w tag yb ea ec l p1 R Y (fun w t => MRow fa fc gm frs w t ∧ LRow oa oc gs frs i w t)) (g : Nat) (g2 : Nat × Nat) (f : Fr.Frm) (hg : gs[i]? = some g) (hg2 : gm[i]? = some g2) (hf : frs[i]? = some f) (hn : ((R 0).n : Int) < 1099511627776) :
    Calls Tryz.prog 78 #[.pointer (some ⟨yb, 0, none⟩), fval g f, rval g2 f] w fun e w' => e = .returned (.bool true) ∧ ∃ tag' R', LS W0 w' tag' yb ea ec l p1 R' Y (fun w t => MRow fa fc gm frs w t ∧ LRow oa oc gs frs (i + 1) w t) ∧ (R' 0).n = (R 0).n + 1 ∧ (∀ j, j ≠ 0 → R' j = R j) := by
  have hM := h.zz.1
  have hL := h.zz.2
  have htg := hL.tg i g (Nat.le_refl _) hg
  have hgl := hL.glt (Nat.le_refl _) hg
  obtain ⟨tag1, htag⟩ : ∃ tag1 : Nat → Nat, tag1 = fun k => if k = g then 0 else tag k := ⟨_, rfl⟩
  have t0 : ∀ k, k ≠ g → tag1 k = tag k := fun k hk => by rw [htag]; simp only; rw [if_neg hk]
  have tg0 : tag1 g = 0 := by rw [htag]; simp
  have h1 : LS W0 w tag1 yb ea ec l p1 R Y (fun w t => MRow fa fc gm frs w t ∧ LRow oa oc gs frs (i + 1) w t) := by
    refine h.turn (zst_and (mrow_st _ _ _ _) (lrow_st _ _ _ _ _)) (fun k hk e => t0 k (fun e' => by rw [e', htg] at e; omega)) (fun k hk => ?_) ⟨⟨hM.row, hM.gl, hM.bufs, fun k hk => ?_, fun j z hz => ?_⟩, ⟨hL.row, hL.gl, hL.nd, fun j z f hj => hL.bufs j z f (by omega), fun k hk => ?_, fun j z hj hz => ?_⟩⟩
    · rw [t0 k (by omega)]; exact h.nz k hk
    · have := hM.ta k hk; rw [t0 k (fun e => by rw [e, htg] at this; omega)]; exact this
    · have := hM.tg j z hz; rw [t0 z.1 (fun e => by rw [e, htg] at this; omega)]; exact this
    · have := hL.ta k hk; rw [t0 k (fun e => by rw [e, htg] at this; omega)]; exact this
    · have := hL.tg j z (by omega) hz
      have hne : z ≠ g := fun e => by
        subst e
        have hi := (List.getElem?_eq_some_iff.1 hg).1
        have hj' := (List.getElem?_eq_some_iff.1 hz).1
        have := (List.getElem?_inj hi hL.nd).1 (hg.trans hz.symm)
        omega
      rw [t0 z hne]; exact this
  have hG : ∀ x, x < w.heap.size → only g x → tag1 x = 0 := fun x _ e => by rw [show x = g from e]; exact tg0
  have hyl := h1.ylt
  have hyg : yb ≠ g := fun e => by have := hyl.2; rw [e, tg0] at this; omega
  have hB := hL.bufs i g f (Nat.le_refl _) hg hf
  obtain ⟨hB2, hc2⟩ := hM.bufs i g2 f hg2 hf
  have hle := enc_le f
  have hel := enc_len f
  have e1 : fval g f = .slice (some ⟨g, 0, none⟩) (Fr.enc f).length 10 := by unfold fval; rw [hel]
  have e2 : rval g2 f = .slice (some ⟨g2.1, 0, none⟩) (Fr.enc f).length g2.2 := by unfold rval; rw [hel]
  rw [e1, e2]
  refine (told_rows yb g 10 g2.1 0 g2.2 (Fr.enc f) (R 0).a (R 0).n (R 0).c (R 0).V (.slice ea l.length ec) p1 (R 1).val (R 2).val (R 3).val (R 4).val (R 5).val w h1.b.play hyg (h1.rowOut (by omega) (G := only g) hG) (buf_brow hB) hle (brow_row hB2) (by omega) hn).mono ?_
  rintro e w' ⟨rfl, hpost⟩
  obtain ⟨ab, c', v, ha⟩ := addedB (R := R) hpost
  obtain ⟨tag', R', hS, r1, r2, _, _⟩ := h1.add (by omega) (G := only g) hG ha
  exact ⟨rfl, tag', R', hS, r1, r2⟩
/-- The list itself is told. -/
theorem tell_list (W0 w : World) (tag : Nat → Nat) (yb : Nat) (ea : Option Addr) (ec : Nat) (l : List Lp) (p1 : Value) (R : Nat → Rw) (Y : World → (Nat → Nat) → Prop) (fa : Option Addr) (fc : Nat) (gm : List (Nat × Nat)) (oa : Option Addr) (oc : Nat) (gs : List Nat) (frs : List Fr.Frm)
    (h : LS W0 w tag yb ea ec l p1 R Y (fun w t => MRow fa fc gm frs w t ∧ LRow oa oc gs frs frs.length w t)) (hn : ((R 5).n : Int) < 1099511627776) (hl : (frs.length : Int) < 1099511627776) :
    Calls Tryz.prog 137 #[.pointer (some ⟨yb, 2, none⟩), .slice oa frs.length oc] w fun e w' => e = .returned (.tuple #[]) ∧ ∃ tag' R', LS W0 w' tag' yb ea ec l p1 R' Y (MRow fa fc gm frs) ∧ (R' 5).n = (R 5).n + 1 ∧ (∀ j, j ≠ 5 → R' j = R j) := by
  classical
  have hM := h.zz.1
  have hL := h.zz.2
  obtain ⟨tag1, htag⟩ : ∃ tag1 : Nat → Nat, tag1 = fun k => if inB oa k then 0 else tag k := ⟨_, rfl⟩
  have t0 : ∀ k, tag k ≠ 2 → tag1 k = tag k := fun k hk => by rw [htag]; simp only; rw [if_neg (fun e => hk (hL.ta k e))]
  have tg0 : ∀ k, inB oa k → tag1 k = 0 := fun k hk => by rw [htag]; simp only; rw [if_pos hk]
  have h1 : LS W0 w tag1 yb ea ec l p1 R Y (MRow fa fc gm frs) := by
    refine h.turn (mrow_st _ _ _ _) (fun k hk e => t0 k (by omega)) (fun k hk => ?_) ⟨hM.row, hM.gl, hM.bufs, fun k hk => ?_, fun j z hz => ?_⟩
    · have := h.nz k hk; rw [t0 k (by omega)]; exact this
    · have := hM.ta k hk; rw [t0 k (by omega)]; exact this
    · have := hM.tg j z hz; rw [t0 z.1 (by omega)]; exact this
  have hG : ∀ x, x < w.heap.size → inB oa x → tag1 x = 0 := fun x _ e => tg0 x e
  have hyl := h1.ylt
  refine (lists_row yb oa frs.length oc (ovals gs frs) (R 5).a (R 5).n (R 5).c (R 5).V (.slice ea l.length ec) p1 (R 0).val (R 1).val (R 2).val (R 3).val (R 4).val w h1.b.play (fun e => by have := tg0 yb e; omega) (h1.rowOut (by omega) hG) hL.row (by omega) hn).mono ?_
  rintro e w' ⟨rfl, hpost⟩
  obtain ⟨ab, c', v, ha⟩ := addedL (R := R) hpost
  obtain ⟨tag', R', hS, r1, r2, _, _⟩ := h1.add (by omega) hG ha
  exact ⟨rfl, tag', R', hS, r1, r2⟩

theorem ovals_get {gs : List Nat} {frs : List Fr.Frm} {i g : Nat} {f : Fr.Frm} (hg : gs[i]? = some g) (hf : frs[i]? = some f) : (ovals gs frs)[i]? = some (fval g f) := by
  unfold ovals; rw [List.getElem?_zipWith, hg, hf]
theorem rvals_get {gs : List (Nat × Nat)} {frs : List Fr.Frm} {i : Nat} {g : Nat × Nat} {f : Fr.Frm} (hg : gs[i]? = some g) (hf : frs[i]? = some f) : (rvals gs frs)[i]? = some (rval g f) := by
  unfold rvals; rw [List.getElem?_zipWith, hg, hf]
theorem rv_at {w : World} {e : TypeId} {a : Option Addr} {n c : Nat} {vs : List Value} (h : RV w e 1 a n c vs) {i : Nat} {v : Value} (hv : vs[i]? = some v) : ∃ g o, a = some ⟨g, o, none⟩ ∧ w.cell? ⟨g, o + i, none⟩ = some v := by
  obtain ⟨h1, h2, h3⟩ := h
  have hi := (List.getElem?_eq_some_iff.1 hv).1
  rcases h3 with ⟨_, h3, _⟩ | ⟨g, o, h3, hb⟩
  · omega
  · exact ⟨g, o, h3, hb.cell i v hv⟩

set_option maxRecDepth 100000 in
set_option maxHeartbeats 4000000 in
theorem outL_any (W0 w00 : World) (tag : Nat → Nat) (yb : Nat) (ea : Option Addr) (ec : Nat) (l : List Lp) (p1 : Value) (R : Nat → Rw) (Y Z : World → (Nat → Nat) → Prop) (hS : LS W0 w00 tag yb ea ec l p1 R Y Z) (i : Nat) (x : Lp) (hx : l[i]? = some x) (hlk : Lk x.e x.r)
    (hn0 : ((R 0).n : Int) + (x.e.out.length : Int) < 1099511627776) (hn5 : ((R 5).n : Int) < 1099511627776) :
    Calls Tryz.prog 89 #[.pointer (some ⟨yb, 0, none⟩), .agg #[.pointer (some ⟨x.xb, 0, none⟩), .pointer (some ⟨x.cb, 0, none⟩)]] w00 fun e w' => ∃ fa fc gm, e = .returned (.tuple #[.slice fa x.e.out.length fc, .bool true]) ∧
      ∃ tag' R' x', LS W0 w' tag' yb ea ec (l.set i x') p1 R' Y (MRow fa fc gm x.e.out) ∧ x'.xb = x.xb ∧ x'.cb = x.cb ∧ x'.e = x.e.outs ∧ Lk x'.e x'.r ∧ (R' 0).n = (R 0).n + x.e.out.length ∧ (R' 5).n = (R 5).n + 1 ∧ (∀ j, j ≠ 0 → j ≠ 5 → R' j = R j) := by
  have H0 : Unit → LS W0 w00 tag yb ea ec l p1 R Y Z ∧ l[i]? = some x ∧ Lk x.e x.r := fun _ => ⟨hS, hx, hlk⟩
  have HN : Unit → ((R 0).n : Int) + (x.e.out.length : Int) < 1099511627776 ∧ ((R 5).n : Int) < 1099511627776 := fun _ => ⟨hn0, hn5⟩
  obtain ⟨xb, hxb⟩ : ∃ xb, xb = x.xb := ⟨_, rfl⟩
  obtain ⟨cb, hcb⟩ : ∃ cb, cb = x.cb := ⟨_, rfl⟩
  obtain ⟨frs, hfr⟩ : ∃ frs, frs = x.e.out := ⟨_, rfl⟩
  have HX : Unit → xb = x.xb ∧ cb = x.cb ∧ frs = x.e.out ∧ x.e.out = x.r.out := fun _ => ⟨hxb, hcb, hfr, hlk.ou⟩
  rw [← hxb, ← hcb]
  clear hS hx hlk hn0 hn5 hxb hcb hfr
  go_enter Tryz.func89, Tryz.ntmps89
  go_wp2_with fail
  obtain ⟨w, hW1⟩ : ∃ w, w = w00.alloc (.cells #[.pointer (some ⟨xb, 0, none⟩), .pointer (some ⟨cb, 0, none⟩)] 98) := ⟨_, rfl⟩
  have hbw : Blk w w00.heap.size #[.pointer (some ⟨xb, 0, none⟩), .pointer (some ⟨cb, 0, none⟩)] 98 := by rw [hW1]; exact Blk.new _ _ _
  have hkw : Keep nil w00 w := by rw [hW1]; exact (Keep.refl nil w00).alloc _
  rw [← hW1]
  obtain ⟨bw, hbwe⟩ : ∃ bw, bw = w00.heap.size := ⟨_, rfl⟩
  rw [← hbwe] at hbw ⊢
  have HBW : Unit → Blk w bw #[.pointer (some ⟨xb, 0, none⟩), .pointer (some ⟨cb, 0, none⟩)] 98 ∧ bw ≠ cb := fun _ => ⟨hbw, fun e => by
    have h1 := (H0 ()).1.nz bw (by omega)
    have h2 := ((H0 ()).1.at (H0 ()).2.1).tr x.cb (Or.inl (Or.inl rfl))
    rw [e, (HX ()).2.1] at h1; omega⟩
  have H0' : Unit → LS W0 w tag yb ea ec l p1 R Y Z ∧ l[i]? = some x ∧ Lk x.e x.r := fun _ => ⟨(H0 ()).1.same hkw, (H0 ()).2⟩
  clear hW1 hbw hkw hbwe H0
  have H0 := H0'
  clear H0'
  have HO : Unit → Calls Tryz.prog 135 #[.pointer (some ⟨cb, 0, none⟩)] w fun r w' => r = .returned (.slice x.q.fa frs.length x.q.fc) ∧ Keep (only cb) w w' ∧ ∃ tag', LS W0 w' tag' yb ea ec (l.set i { x with r := x.r.outs, q := { x.q with fa := none, fc := 0, gs := [] } }) p1 R Y (MRow x.q.fa x.q.fc x.q.gs frs) := fun _ => by
    obtain ⟨hS, hx, hlk⟩ := H0 ()
    obtain ⟨e1, e2, e3, e4⟩ := HX ()
    rw [e2, e3, e4]
    refine (refOut_any x.cb x.r x.q w (hS.at hx).ref).mono ?_
    rintro r w' ⟨rfl, hr, hk⟩
    exact ⟨rfl, hk, hS.outR hx hr hk⟩
  refine Calls.mono (HO ()) ?_
  rintro e w1 ⟨rfl, hkc, tag1, hS1⟩
  have c0 := ((HBW ()).1.keep hkc (fun e => (HBW ()).2 e)).cell 0
  simp at c0
  clear hkc
  obtain ⟨x1, hx1⟩ : ∃ x1 : Lp, x1 = { x with r := x.r.outs, q := { x.q with fa := none, fc := 0, gs := [] } } := ⟨_, rfl⟩
  rw [← hx1] at hS1
  have HLX : Unit → (l.set i x1)[i]? = some x1 ∧ x1.xb = x.xb ∧ x1.cb = x.cb ∧ x1.e = x.e ∧ x1.r = x.r.outs ∧ x1.p = x.p := fun _ => ⟨List.getElem?_set_self (List.getElem?_eq_some_iff.1 (H0 ()).2.1).1, by rw [hx1], by rw [hx1], by rw [hx1], by rw [hx1], by rw [hx1]⟩
  have H1 : Unit → LS W0 w1 tag1 yb ea ec (l.set i x1) p1 R Y (MRow x.q.fa x.q.fc x.q.gs frs) := fun _ => hS1
  clear hS1 HO hx1
  have HO : Unit → Calls Tryz.prog 136 #[.pointer (some ⟨xb, 0, none⟩)] w1 fun r w' => r = .returned (.slice x.p.oa frs.length x.p.oc) ∧ ∃ tag', LS W0 w' tag' yb ea ec ((l.set i x1).set i { x1 with e := x1.e.outs, p := { x1.p with oa := none, oc := 0, gs := [] } }) p1 R Y (fun w t => MRow x.q.fa x.q.fc x.q.gs frs w t ∧ LRow x.p.oa x.p.oc x.p.gs frs 0 w t) := fun _ => by
    have hS1 := H1 ()
    obtain ⟨hlx, q1, q2, q3, q4, q5⟩ := HLX ()
    obtain ⟨e1, e2, e3, e4⟩ := HX ()
    have hrep := (hS1.at hlx).rep
    refine ((congrArg (fun b => Calls Tryz.prog 136 #[.pointer (some ⟨b, 0, none⟩)] w1 _) (e1.trans q1.symm)).mpr (out_any zero24 147 x1.xb 0 x1.e x1.p w1 hrep)).mono ?_
    rintro r w' ⟨rfl, hr, hk⟩
    have := hS1.outP hlx hr hk
    rw [q3, q5, ← e3] at this
    rw [q3, q5, ← e3]
    exact ⟨rfl, this⟩
  go_wp2_with fail
  refine Calls.mono (HO ()) ?_
  rintro e w2 ⟨rfl, tag2, hS2⟩
  obtain ⟨x2, hx2⟩ : ∃ x2 : Lp, x2 = { x1 with e := x1.e.outs, p := { x1.p with oa := none, oc := 0, gs := [] } } := ⟨_, rfl⟩
  rw [← hx2, List.set_set] at hS2
  have HX2 : Unit → x2.xb = x.xb ∧ x2.cb = x.cb ∧ x2.e = x.e.outs ∧ Lk x2.e x2.r := fun _ => by
    obtain ⟨hlx, q1, q2, q3, q4, q5⟩ := HLX ()
    have a3 : x2.e = x.e.outs := by rw [hx2, ← q3]
    have a4 : x2.r = x.r.outs := by rw [hx2, ← q4]
    refine ⟨by rw [hx2, ← q1], by rw [hx2, ← q2], a3, ?_⟩
    rw [a3, a4]; exact (H0 ()).2.2.outs
  have H2 : Unit → LS W0 w2 tag2 yb ea ec (l.set i x2) p1 R Y (fun w t => MRow x.q.fa x.q.fc x.q.gs frs w t ∧ LRow x.p.oa x.p.oc x.p.gs frs 0 w t) := fun _ => hS2
  have HFL : Unit → (frs.length : Int) < 1099511627776 ∧ frs.length = x.e.out.length := fun _ => by have := HN (); have := (HX ()).2.2.1; rw [this]; exact ⟨by omega, rfl⟩
  clear hS2 HO hx2 H1 HLX c0
  obtain ⟨oa, hoa⟩ : ∃ oa, oa = x.p.oa := ⟨_, rfl⟩
  obtain ⟨oc, hoc⟩ : ∃ oc, oc = x.p.oc := ⟨_, rfl⟩
  obtain ⟨gs, hgs⟩ : ∃ gs, gs = x.p.gs := ⟨_, rfl⟩
  obtain ⟨fa, hfa⟩ : ∃ fa, fa = x.q.fa := ⟨_, rfl⟩
  obtain ⟨fc, hfc⟩ : ∃ fc, fc = x.q.fc := ⟨_, rfl⟩
  obtain ⟨gm, hgm⟩ : ∃ gm, gm = x.q.gs := ⟨_, rfl⟩
  rw [← hoa, ← hoc, ← hgs, ← hfa, ← hfc, ← hgm] at H2
  rw [← hoa, ← hoc, ← hfa, ← hfc]
  clear hoa hoc hgs hfa hfc hgm
  go_wp2_with fail
  go_loopw [8, 9] (fun ok v wr => ∃ j : Nat, ∃ (tg : Nat → Nat) (R' : Nat → Rw), j ≤ frs.length ∧ v = .int .i64 (j : Int) ∧ ok = .bool true ∧ LS W0 wr tg yb ea ec (l.set i x2) p1 R' Y (fun w t => MRow fa fc gm frs w t ∧ LRow oa oc gs frs j w t) ∧ (R' 0).n = (R 0).n + j ∧ (∀ j, j ≠ 0 → R' j = R j)) (fun _ v _ => frs.length - (intOf v).toNat)
  case atStart => exact ⟨0, tag2, R, by omega, rfl, by simp, H2 (), by omega, fun _ _ => rfl⟩
  case round =>
    obtain ⟨j, tg, R', hj, rfl, rfl, hSj, hr0, hrj⟩ := hrel
    have HJ : Unit → LS W0 wr tg yb ea ec (l.set i x2) p1 R' Y (fun w t => MRow fa fc gm frs w t ∧ LRow oa oc gs frs j w t) ∧ (R' 0).n = (R 0).n + j ∧ (∀ j, j ≠ 0 → R' j = R j) := fun _ => ⟨hSj, hr0, hrj⟩
    clear H2 hSj hr0 hrj
    by_cases hjt : j < frs.length
    · obtain ⟨f, hf⟩ : ∃ f, frs[j]? = some f := ⟨_, List.getElem?_eq_getElem hjt⟩
      obtain ⟨g, hg⟩ : ∃ g, gs[j]? = some g := ⟨_, List.getElem?_eq_getElem (by have := (HJ ()).1.zz.2.gl; omega)⟩
      obtain ⟨g2, hg2⟩ : ∃ g2, gm[j]? = some g2 := ⟨_, List.getElem?_eq_getElem (by have := (HJ ()).1.zz.1.gl; omega)⟩
      obtain ⟨ob, oo, rfl, c1⟩ := rv_at (HJ ()).1.zz.2.row (ovals_get hg hf)
      obtain ⟨fb, fo, rfl, c2⟩ := rv_at (HJ ()).1.zz.1.row (rvals_get hg2 hf)
      have HT : Unit → ∀ wz, Keep nil wr wz → _ := fun _ wz kz => tell_one W0 wz tg yb ea ec (l.set i x2) p1 R' Y _ fc gm _ oc gs frs j ((HJ ()).1.same kz) g g2 f hg hg2 hf (by have h1 := (HJ ()).2.1; have h2 := HN (); have h3 := HFL (); omega)
      unfold fval at c1 HT
      unfold rval at c2 HT
      have hjI : (j : Int) < (frs.length : Int) := by omega
      have hj9 : (j : Int) < 1099511627776 := by have := HFL (); omega
      clear hf hg hg2
      go_wp2_with fail
      go_still_tail 9, (by kernel_rfl)
      go_wp2_with fail
      refine Calls.mono (HT () _ ((Keep.refl nil wr).drew)) ?_
      rintro e w3 ⟨rfl, tg', R'', hS', hr1, hrk⟩
      have HP : Unit → LS W0 w3 tg' yb ea ec (l.set i x2) p1 R'' Y (fun w t => MRow (some ⟨fb, fo, none⟩) fc gm frs w t ∧ LRow (some ⟨ob, oo, none⟩) oc gs frs (j + 1) w t) ∧ (R'' 0).n = (R 0).n + (j + 1) ∧ (∀ j, j ≠ 0 → R'' j = R j) := fun _ => ⟨hS', by rw [hr1, (HJ ()).2.1]; omega, fun k hk => (hrk k hk).trans ((HJ ()).2.2 k hk)⟩
      clear hS' hr1 hrk HT c1 c2
      go_wp2
      exact ⟨⟨j + 1, tg', R'', by omega, by go_num, rfl, HP ()⟩, by simp [intOf]; omega⟩
    · have ej : j = frs.length := by omega
      subst ej
      have HT : Unit → _ := fun _ => tell_list W0 wr tg yb ea ec (l.set i x2) p1 R' Y fa fc gm oa oc gs frs (HJ ()).1 (by have h1 := (HJ ()).2.2 5 (by omega); have h2 := HN (); rw [h1]; omega) (HFL ()).1
      go_wp2_with fail
      refine Calls.mono (HT ()) ?_
      rintro e w3 ⟨rfl, tg', R'', hS', hr1, hrk⟩
      have HP : Unit → LS W0 w3 tg' yb ea ec (l.set i x2) p1 R'' Y (MRow fa fc gm frs) ∧ (R'' 0).n = (R 0).n + frs.length ∧ (R'' 5).n = (R 5).n + 1 ∧ (∀ j, j ≠ 0 → j ≠ 5 → R'' j = R j) := fun _ => ⟨hS', by rw [hrk 0 (by omega), (HJ ()).2.1], by rw [hr1, (HJ ()).2.2 5 (by omega)], fun k h0 h5 => (hrk k h5).trans ((HJ ()).2.2 k h0)⟩
      clear hS' hr1 hrk HT
      go_wp2
      go_ret2
      obtain ⟨e1, e2, e3, e4⟩ := HX ()
      rw [← e3]
      exact ⟨fa, fc, gm, rfl, tg', R'', x2, (HP ()).1, (HX2 ()).1.trans e1.symm, (HX2 ()).2.1.trans e2.symm, (HX2 ()).2.2.1, (HX2 ()).2.2.2, (HP ()).2⟩
end Go.Proofs.YtlfijfodklhplaaGreat
/- What one end tells is handed to another one: walk of passed. -/
namespace Go.Proofs.YtlfijfodklhplaaGreat
open Go.RowKit
set_option linter.unusedVariables false
set_option linter.unusedSimpArgs false

/-- How much is there: lists in the book, ends, what they may bring about. -/
def lsum (l : List Lp) : Nat := (l.map (fun x => x.e.wt)).sum
def Psi (R : Nat → Rw) (l : List Lp) : Nat := (R 0).n + (R 1).n + (R 2).n + (R 3).n + (R 4).n + (R 5).n + l.length + lsum l
theorem lsum_set : ∀ (l : List Lp) (i : Nat) (x y : Lp), l[i]? = some x → lsum (l.set i y) + x.e.wt = lsum l + y.e.wt
  | [], i, x, y, h => by simp at h
  | z :: t, 0, x, y, h => by simp at h; subst h; simp [lsum]; omega
  | z :: t, i + 1, x, y, h => by
    rw [List.getElem?_cons_succ] at h
    have := lsum_set t i x y h
    simp only [lsum, List.set_cons_succ, List.map_cons, List.sum_cons] at this ⊢
    omega
theorem lsum_mem {l : List Lp} {i : Nat} {x : Lp} (h : l[i]? = some x) : x.e.wt ≤ lsum l := by
  have := lsum_set l i x x h
  have h2 : ∀ (l : List Lp) (i : Nat), l[i]? = some x → x.e.wt ≤ lsum l := by
    intro l
    induction l with
    | nil => intro i h; simp at h
    | cons z t ih =>
      intro i h
      have e : lsum (z :: t) = z.e.wt + lsum t := by simp [lsum]
      cases i with
      | zero => simp at h; subst h; omega
      | succ i => rw [List.getElem?_cons_succ] at h; have := ih i h; omega
  exact h2 l i h
theorem psi_le (R : Nat → Rw) (l : List Lp) : (∀ κ, κ < 6 → (R κ).n ≤ Psi R l) ∧ l.length ≤ Psi R l ∧ lsum l ≤ Psi R l := by
  refine ⟨fun κ hκ => ?_, by unfold Psi; omega, by unfold Psi; omega⟩
  have : κ = 0 ∨ κ = 1 ∨ κ = 2 ∨ κ = 3 ∨ κ = 4 ∨ κ = 5 := by omega
  rcases this with rfl | rfl | rfl | rfl | rfl | rfl <;> unfold Psi <;> omega
theorem psi_out {R : Nat → Rw} {l : List Lp} {i : Nat} {x : Lp} (h : l[i]? = some x) : 3 * x.e.out.length ≤ Psi R l := by
  have h1 := wt_out x.e
  have h2 := lsum_mem h
  have h3 := (psi_le R l).2.2
  omega
/-- Both ends of each pair are alike. -/
def Alk (l : List Lp) : Prop := ∀ (i : Nat) (x : Lp), l[i]? = some x → Lk x.e x.r
theorem Alk.set {l : List Lp} (h : Alk l) {i : Nat} {x y : Lp} (hx : l[i]? = some x) (hy : Lk y.e y.r) : Alk (l.set i y) := fun j z hz => by
  rcases set_at hx hz with ⟨rfl, rfl⟩ | ⟨_, hz⟩
  · exact hy
  · exact h j z hz
/-- The same ends, in whatever state. -/
def Same (l l' : List Lp) : Prop := l'.length = l.length ∧ ∀ (i : Nat) (x : Lp), l[i]? = some x → ∃ x' : Lp, l'[i]? = some x' ∧ x'.xb = x.xb ∧ x'.cb = x.cb
theorem Same.refl (l : List Lp) : Same l l := ⟨rfl, fun i x h => ⟨x, h, rfl, rfl⟩⟩
theorem Same.set {l l' : List Lp} (h : Same l l') {i : Nat} {x y : Lp} (hx : l'[i]? = some x) (h1 : y.xb = x.xb) (h2 : y.cb = x.cb) : Same l (l'.set i y) := by
  refine ⟨by rw [List.length_set]; exact h.1, fun j z hz => ?_⟩
  obtain ⟨z', hz', e1, e2⟩ := h.2 j z hz
  by_cases e : j = i
  · subst e
    rw [hx] at hz'; cases hz'
    exact ⟨y, List.getElem?_set_self (List.getElem?_eq_some_iff.1 hx).1, h1.trans e1, h2.trans e2⟩
  · exact ⟨z', by rw [List.getElem?_set_ne (Ne.symm e)]; exact hz', e1, e2⟩
/-- What is still to be handed on. -/
def rem (turned : Bool) (frs : List Fr.Frm) (i : Nat) : List Fr.Frm := if turned then frs.take (frs.length - i) else frs.drop i
theorem rem_zero (turned : Bool) (frs : List Fr.Frm) : rem turned frs 0 = frs := by unfold rem; cases turned <;> simp
def nth (turned : Bool) (n i : Nat) : Nat := if turned then n - 1 - i else i
theorem rem_next (turned : Bool) (frs : List Fr.Frm) (i : Nat) (f : Fr.Frm) (hi : i < frs.length) (hf : frs[nth turned frs.length i]? = some f) : osum (rem turned frs i) = osum (rem turned frs (i + 1)) + fw f ∧ (rem turned frs i).length = (rem turned frs (i + 1)).length + 1 := by
  unfold rem nth at *
  cases turned with
  | false =>
    simp only [Bool.false_eq_true, if_false] at hf ⊢
    have hl := (List.getElem?_eq_some_iff.1 hf).2
    rw [List.drop_eq_getElem_cons hi, hl]
    refine ⟨?_, by simp⟩
    simp [osum]; omega
  | true =>
    simp only [if_true] at hf ⊢
    have e : frs.length - i = (frs.length - 1 - i) + 1 := by omega
    have e2 : frs.length - (i + 1) = frs.length - 1 - i := by omega
    rw [e, e2, List.take_add_one, hf]
    simp only [Option.toList_some, osum_append, List.length_append, List.length_singleton]
    exact ⟨by simp [osum], trivial⟩

/-- A box of a caller's own, held while others work. -/
def Box (b : Nat) (cs : Array Value) (ty : TypeId) (w : World) (tag : Nat → Nat) : Prop := Blk w b cs ty ∧ tag b = 6
theorem box_st (b : Nat) (cs : Array Value) (ty : TypeId) : Yst (Box b cs ty) := fun ex w w' tag tag' h k hn => by
  have := hn b h.1.lt (by rw [h.2]; unfold yt; omega)
  exact ⟨h.1.keep k this.1, this.2.trans h.2⟩
theorem yst_and {Y Y' : World → (Nat → Nat) → Prop} (h : Yst Y) (h' : Yst Y') : Yst (fun w t => Y w t ∧ Y' w t) := fun ex w w' tag tag' hz k hn => ⟨h ex w w' tag tag' hz.1 k hn, h' ex w w' tag tag' hz.2 k hn⟩
theorem LS.box {W0 w : World} {tag : Nat → Nat} {yb : Nat} {ea : Option Addr} {ec : Nat} {l : List Lp} {p1 : Value} {R : Nat → Rw} {Y Z : World → (Nat → Nat) → Prop} (h : LS W0 w tag yb ea ec l p1 R Y Z) {b : Nat} {cs : Array Value} {ty : TypeId} (hb : Blk w b cs ty) (h0 : tag b = 0) :
    ∃ tag', LS W0 w tag' yb ea ec l p1 R (fun w t => Y w t ∧ Box b cs ty w t) Z := by
  obtain ⟨tag', htag⟩ : ∃ tag' : Nat → Nat, tag' = fun k => if k = b then 6 else tag k := ⟨_, rfl⟩
  have t0 : ∀ k, tag k ≠ 0 → tag' k = tag k := fun k hk => by rw [htag]; simp only; rw [if_neg (fun e => hk (by rw [e]; exact h0))]
  have tb : tag' b = 6 := by rw [htag]; simp
  refine ⟨tag', yst_and h.y (box_st b cs ty), h.z, h.b.move (Keep.refl nil w) (fun _ _ e => e.elim) (fun i hi e => t0 i (by omega)) (fun i hi => ?_) ⟨?_, ⟨?_, hb, tb⟩, ?_⟩ rfl⟩
  · have := h.nz i hi
    have hbl := hb.lt
    rw [htag]; simp only; rw [if_neg (by omega)]; exact this
  · exact h.ends.keep (Keep.refl nil w) (fun i hi hti => ⟨fun e => e, t0 i (by omega)⟩)
  · exact h.y _ _ _ _ _ h.yy (Keep.refl nil w) (fun i hi hti => ⟨fun e => e, t0 i (by unfold yt at hti; omega)⟩)
  · exact h.z _ _ _ _ _ h.zz (Keep.refl nil w) (fun i hi hti => ⟨fun e => e, t0 i (by unfold zt at hti; omega)⟩)
theorem LS.unbox {W0 w : World} {tag : Nat → Nat} {yb : Nat} {ea : Option Addr} {ec : Nat} {l : List Lp} {p1 : Value} {R : Nat → Rw} {Y Y' Z : World → (Nat → Nat) → Prop} (h : LS W0 w tag yb ea ec l p1 R (fun w t => Y w t ∧ Y' w t) Z) (hY : Yst Y) : LS W0 w tag yb ea ec l p1 R Y Z :=
  ⟨hY, h.z, h.b.move (Keep.refl nil w) (fun _ _ e => e.elim) (fun i hi e => rfl) h.nz ⟨h.ends, h.yy.1, h.zz⟩ rfl⟩

set_option maxRecDepth 100000 in
set_option maxHeartbeats 4000000 in
theorem passed_any (W0 w00 : World) (tag : Nat → Nat) (yb : Nat) (ea : Option Addr) (ec : Nat) (l : List Lp) (p1 : Value) (R : Nat → Rw) (Y0 Z : World → (Nat → Nat) → Prop) (hS : LS W0 w00 tag yb ea ec l p1 R Y0 Z) (halk : Alk l) (i j : Nat) (x y : Lp) (hx : l[i]? = some x) (hy : l[j]? = some y) (turned : Bool) (hB : (Psi R l : Int) < 1000000000) :
    Calls Tryz.prog 90 #[.pointer (some ⟨yb, 0, none⟩), .agg #[.pointer (some ⟨x.xb, 0, none⟩), .pointer (some ⟨x.cb, 0, none⟩)], .agg #[.pointer (some ⟨y.xb, 0, none⟩), .pointer (some ⟨y.cb, 0, none⟩)], .bool turned] w00 fun e w' => e = .returned (.bool true) ∧
      ∃ tag' R' l' Z', LS W0 w' tag' yb ea ec l' p1 R' Y0 Z' ∧ Alk l' ∧ Same l l' ∧ Psi R' l' ≤ Psi R l + 1 := by
  have H0 : Unit → LS W0 w00 tag yb ea ec l p1 R Y0 Z ∧ Alk l ∧ l[i]? = some x ∧ l[j]? = some y ∧ (Psi R l : Int) < 1000000000 := fun _ => ⟨hS, halk, hx, hy, hB⟩
  have HO : Unit → ∀ w tg Y, LS W0 w tg yb ea ec l p1 R Y Z → _ := fun _ w tg Y hS => outL_any W0 w tg yb ea ec l p1 R Y Z hS i x hx (halk i x hx) (by have h1 := psi_out (R := R) hx; have h2 := (psi_le R l).1 0 (by omega); omega) (by have h2 := (psi_le R l).1 5 (by omega); omega)
  obtain ⟨xb, hxb⟩ : ∃ xb, xb = x.xb := ⟨_, rfl⟩
  obtain ⟨cb, hcb⟩ : ∃ cb, cb = x.cb := ⟨_, rfl⟩
  obtain ⟨yx, hyx⟩ : ∃ xb, xb = y.xb := ⟨_, rfl⟩
  obtain ⟨yc, hyc⟩ : ∃ cb, cb = y.cb := ⟨_, rfl⟩
  obtain ⟨frs, hfr⟩ : ∃ frs, frs = x.e.out := ⟨_, rfl⟩
  have HXX : Unit → xb = x.xb ∧ cb = x.cb := fun _ => ⟨hxb, hcb⟩
  have HX : Unit → yx = y.xb ∧ yc = y.cb ∧ (∀ f ∈ frs, FrOk f) ∧ (frs.length : Int) < 1000000000 := fun _ => ⟨hyx, hyc, by rw [hfr]; exact (hS.at hx).rep.fok, by have h1 := psi_out (R := R) hx; rw [hfr]; omega⟩
  rw [← hxb, ← hcb, ← hfr] at HO
  rw [← hxb, ← hcb, ← hyx, ← hyc]
  have HPSI : Unit → ∀ (R' : Nat → Rw) (x' : Lp), x'.e = x.e.outs → (R' 0).n = (R 0).n + frs.length → (R' 5).n = (R 5).n + 1 → (∀ j, j ≠ 0 → j ≠ 5 → R' j = R j) → Psi R' (l.set i x') + osum frs = Psi R l + frs.length + 1 := fun _ R' x' he h0 h5 hj => by
    have h1 := lsum_set l i x x' hx
    have h2 := wt_outs x.e
    rw [he] at h1
    rw [← hfr] at h2
    unfold Psi
    rw [h0, h5, hj 1 (by omega) (by omega), hj 2 (by omega) (by omega), hj 3 (by omega) (by omega), hj 4 (by omega) (by omega), List.length_set]
    omega
  clear hS halk hx hy hB hxb hcb hyx hyc hfr
  go_enter Tryz.func90, Tryz.ntmps90
  go_wp2_with fail
  obtain ⟨w, hW1⟩ : ∃ W1, W1 = (w00.alloc (.cells #[.pointer (some ⟨xb, 0, none⟩), .pointer (some ⟨cb, 0, none⟩)] 98)).alloc (.cells #[.pointer (some ⟨yx, 0, none⟩), .pointer (some ⟨yc, 0, none⟩)] 98) := ⟨_, rfl⟩
  have hbw : Blk w (w00.heap.size + 1) #[.pointer (some ⟨yx, 0, none⟩), .pointer (some ⟨yc, 0, none⟩)] 98 := by rw [hW1]; exact Blk.new' _ _ _ _ (by simp)
  have hkw : Keep nil w00 w := by rw [hW1]; exact ((Keep.refl nil w00).alloc _).alloc _
  rw [← hW1]
  obtain ⟨bt, hbt⟩ : ∃ bt, bt = w00.heap.size + 1 := ⟨_, rfl⟩
  rw [← hbt] at hbw ⊢
  obtain ⟨tagB, hSB⟩ := ((H0 ()).1.same hkw).box hbw ((H0 ()).1.nz bt (by omega))
  obtain ⟨Y, hYe⟩ : ∃ Y, Y = (fun w t => Y0 w t ∧ Box bt #[.pointer (some ⟨yx, 0, none⟩), .pointer (some ⟨yc, 0, none⟩)] 98 w t) := ⟨_, rfl⟩
  rw [← hYe] at hSB
  have HY : Unit → Y = (fun w t => Y0 w t ∧ Box bt #[.pointer (some ⟨yx, 0, none⟩), .pointer (some ⟨yc, 0, none⟩)] 98 w t) ∧ Yst Y0 := fun _ => ⟨hYe, (H0 ()).1.y⟩
  have HBX : Unit → ∀ {w tg l R Z}, LS W0 w tg yb ea ec l p1 R Y Z → w.cell? ⟨bt, 0, none⟩ = some (.pointer (some ⟨yx, 0, none⟩)) ∧ w.cell? ⟨bt, 1, none⟩ = some (.pointer (some ⟨yc, 0, none⟩)) := fun _ {w tg l R Z} h => by
    have h1 := h.yy
    rw [(HY ()).1] at h1
    have h2 := h1.2.1.cell 0
    have h3 := h1.2.1.cell 1
    simp at h2 h3
    exact ⟨h2, h3⟩
  have HSB : Unit → LS W0 w tagB yb ea ec l p1 R Y Z := fun _ => hSB
  clear hW1 hbw hkw hbt hSB hYe
  refine Calls.mono (HO () w tagB Y (HSB ())) ?_
  rintro e w1 ⟨fa, fc, gm, rfl, tag1, R1, x1, hS1, e1, e2, e3, hlk1, h0, h5, hj⟩
  have H1 : Unit → LS W0 w1 tag1 yb ea ec (l.set i x1) p1 R1 Y (MRow fa fc gm frs) ∧ Alk (l.set i x1) ∧ Same l (l.set i x1) ∧ Psi R1 (l.set i x1) + osum frs = Psi R l + frs.length + 1 := fun _ =>
    ⟨hS1, (H0 ()).2.1.set (H0 ()).2.2.1 hlk1, (Same.refl l).set (H0 ()).2.2.1 (e1.trans (HXX ()).1) (e2.trans (HXX ()).2), HPSI () R1 x1 e3 h0 h5 hj⟩
  clear hS1 e1 e2 e3 hlk1 h0 h5 hj HO HPSI
  go_wp2_with fail
  go_loopw [10, 11] (fun ok v wr => ∃ n : Nat, ∃ (tg : Nat → Nat) (R' : Nat → Rw) (l' : List Lp), n ≤ frs.length ∧ v = .int .i64 (n : Int) ∧ ok = .bool true ∧ LS W0 wr tg yb ea ec l' p1 R' Y (MRow fa fc gm frs) ∧ Alk l' ∧ Same l l' ∧ Psi R' l' + osum (rem turned frs n) ≤ Psi R l + (rem turned frs n).length + 1) (fun _ v _ => frs.length - (intOf v).toNat)
  case atStart => exact ⟨0, tag1, R1, _, by omega, rfl, rfl, (H1 ()).1, (H1 ()).2.1, (H1 ()).2.2.1, by rw [rem_zero]; exact Nat.le_of_eq (H1 ()).2.2.2⟩
  case round =>
    obtain ⟨n, tg, R', l', hn, rfl, rfl, hSn, hak, hsm, hps⟩ := hrel
    have HJ : Unit → LS W0 wr tg yb ea ec l' p1 R' Y (MRow fa fc gm frs) ∧ Alk l' ∧ Same l l' ∧ Psi R' l' + osum (rem turned frs n) ≤ Psi R l + (rem turned frs n).length + 1 := fun _ => ⟨hSn, hak, hsm, hps⟩
    obtain ⟨t0, t1⟩ := HBX () (HJ ()).1
    clear H1 hSn hak hsm hps
    by_cases hnt : n < frs.length
    · obtain ⟨f, hf⟩ : ∃ f, frs[nth turned frs.length n]? = some f := ⟨_, List.getElem?_eq_getElem (by unfold nth; split <;> omega)⟩
      obtain ⟨g2, hg2⟩ : ∃ g2, gm[nth turned frs.length n]? = some g2 := ⟨_, List.getElem?_eq_getElem (by have := (HJ ()).1.zz.gl; unfold nth; split <;> omega)⟩
      obtain ⟨fb, fo, rfl, c2⟩ := rv_at (HJ ()).1.zz.row (rvals_get hg2 hf)
      have HC : Unit → Calls Tryz.prog 86 #[.pointer (some ⟨yb, 0, none⟩), .agg #[.pointer (some ⟨yx, 0, none⟩), .pointer (some ⟨yc, 0, none⟩)], rval g2 f] wr.drew fun e w' => e = .returned (.bool true) ∧ ∃ (tg : Nat → Nat) (R' : Nat → Rw) (l' : List Lp), LS W0 w' tg yb ea ec l' p1 R' Y (MRow (some ⟨fb, fo, none⟩) fc gm frs) ∧ Alk l' ∧ Same l l' ∧ Psi R' l' + osum (rem turned frs (n + 1)) ≤ Psi R l + (rem turned frs (n + 1)).length + 1 := fun _ => by
        obtain ⟨hS, hak, hsm, hps⟩ := HJ ()
        have hS := hS.same ((Keep.refl nil wr).drew)
        obtain ⟨q1, q2, q3, q4⟩ := HX ()
        obtain ⟨z, hz, z1, z2⟩ := hsm.2 j y (H0 ()).2.2.2.1
        have hM := hS.zz
        obtain ⟨hb1, hb2⟩ := hM.bufs _ g2 f hg2 hf
        have hfok := q3 f (List.mem_of_getElem? hf)
        have hle := enc_le f
        have hel := enc_len f
        have hol := osum_len (rem turned frs n)
        have hBig := (H0 ()).2.2.2.2
        have hp2 := psi_le R' l'
        have b0 := hp2.1 0 (by omega)
        have b2 := hp2.1 2 (by omega)
        have bo := psi_out (R := R') hz
        have hIn : BIn wr.drew (some ⟨g2.1, 0, none⟩) (Fr.enc f) g2.2 := Or.inr ⟨_, rfl, Or.inr ⟨g2.1, 0, rfl, hb1.lt, brow_row hb1⟩, by omega, enc_byte f hfok, by omega⟩
        have := comes_any W0 wr.drew tg yb ea ec l' p1 R' Y _ hS j z hz (hak j z hz) (some ⟨g2.1, 0, none⟩) (Fr.enc f) g2.2 hIn (fun bb bo e _ _ => by cases e; have := hM.tg _ g2 hg2; omega) (some f) ⟨hfok, rfl⟩ (by omega) (by omega) (by omega)
        rw [q1, q2, ← z1, ← z2]
        have er : rval g2 f = .slice (some ⟨g2.1, 0, none⟩) (Fr.enc f).length g2.2 := by unfold rval; rw [hel]
        rw [er]
        refine this.mono ?_
        rintro e w' ⟨rfl, tag', R'', x', hS', x1, x2, x3, hlk, r0, r2, rj, _, _⟩
        refine ⟨rfl, tag', R'', _, hS', hak.set hz hlk, hsm.set hz x1 x2, ?_⟩
        obtain ⟨m1, m2⟩ := rem_next turned frs n f hnt hf
        have h1 := lsum_set l' j z x' hz
        have h2 := wt_inn z.e (some f)
        rw [← x3] at h2
        have h3 : ow (some f) = fw f - 3 := rfl
        have h4 : 3 ≤ fw f := by unfold fw; split <;> omega
        unfold Psi at hps ⊢
        rw [rj 1 (by omega) (by omega), rj 3 (by omega) (by omega), rj 4 (by omega) (by omega), rj 5 (by omega) (by omega), List.length_set]
        omega
      have hnI : (n : Int) < (frs.length : Int) := by omega
      have hn9 : (frs.length : Int) < 1000000000 := (HX ()).2.2.2
      unfold rval at c2 HC
      cases turned with
      | false =>
        simp only [nth, Bool.false_eq_true, if_false] at c2
        clear hf hg2
        go_wp2_with fail
        go_still_tail 6, (by kernel_rfl)
        go_wp2_with fail
        refine Calls.mono (HC ()) ?_
        rintro e w3 ⟨rfl, tg', R'', l'', hpost⟩
        have HP : Unit → _ := fun _ => hpost
        clear hpost HC c2 t0 t1
        go_wp2
        exact ⟨⟨n + 1, tg', R'', l'', by omega, by go_num, rfl, HP ()⟩, by simp [intOf]; omega⟩
      | true =>
        simp only [nth, if_true] at c2
        obtain ⟨kk, hkk⟩ : ∃ kk : Nat, kk = frs.length - 1 - n := ⟨_, rfl⟩
        rw [← hkk] at c2
        have hw1 : IntKind.i64.wrap ((frs.length : Int) - 1) = (frs.length : Int) - 1 := by rw [IntKind.wrap_i64]; omega
        have hw2 : IntKind.i64.wrap ((frs.length : Int) - 1 - (n : Int)) = (kk : Int) := by rw [IntKind.wrap_i64]; omega
        have hw3 : (frs.length : Int) - 1 - (n : Int) = (kk : Int) := by omega
        have hkI : (kk : Int) < (frs.length : Int) := by omega
        clear hf hg2 hkk
        go_wp2_with fail
        go_still_tail 6, (by kernel_rfl)
        go_wp2_with fail
        refine Calls.mono (HC ()) ?_
        rintro e w3 ⟨rfl, tg', R'', l'', hpost⟩
        have HP : Unit → _ := fun _ => hpost
        clear hpost HC c2 t0 t1
        go_wp2
        exact ⟨⟨n + 1, tg', R'', l'', by omega, by go_num, rfl, HP ()⟩, by simp [intOf]; omega⟩
    · have en : n = frs.length := by omega
      subst en
      go_wp2
      go_ret
      have hSf := (HJ ()).1
      rw [(HY ()).1] at hSf
      refine ⟨rfl, tg, R', l', _, hSf.unbox (HY ()).2, (HJ ()).2.1, (HJ ()).2.2.1, ?_⟩
      have h1 := (HJ ()).2.2.2
      have h2 := osum_len (rem turned frs frs.length)
      omega
end Go.Proofs.YtlfijfodklhplaaGreat
/- Steps on ends: walk of linked. -/
namespace Go.Proofs.YtlfijfodklhplaaGreat
open Go.RowKit
set_option linter.unusedVariables false
set_option linter.unusedSimpArgs false

set_option maxHeartbeats 400000 in
/-- What pick answers, whatever the world. -/
theorem pickL_nat (c n : Int) (h0 : -9223372036854775808 ≤ c) (h1 : c ≤ 9223372036854775807) (h2 : 0 < n) (h3 : n < 4294967296) :
    ∃ z : Nat, (z : Int) < n ∧ ∀ w, Calls Tryz.prog 45 #[.int .i64 c, .int .i64 n] w fun e w' => e = .returned (.int .i64 (z : Int)) ∧ w = w' := by
  by_cases hc : c < 0
  · have e : (-(c + 1)).tmod n = (-(c + 1)) % n := Int.tmod_eq_emod_of_nonneg (by omega)
    have z0 := Int.emod_nonneg (-(c + 1)) (show n ≠ 0 by omega)
    have z1 := Int.emod_lt_of_pos (-(c + 1)) h2
    obtain ⟨z, hz⟩ : ∃ z : Nat, (z : Int) = (-(c + 1)) % n := ⟨((-(c + 1)) % n).toNat, Int.toNat_of_nonneg z0⟩
    have HE : Hid (-(c + 1).tmod n = (z : Int)) := by
      rw [hz, ← e, Int.neg_tmod]; rfl
    refine ⟨z, by omega, fun w => ?_⟩
    clear e z0 z1 hz
    go_enter Tryz.func45, Tryz.ntmps45
    go_wp2
    go_ret
    exact ⟨ret_int HE.out, rfl⟩
  · have z0 := Int.emod_nonneg c (show n ≠ 0 by omega)
    have z1 := Int.emod_lt_of_pos c h2
    obtain ⟨z, hz⟩ : ∃ z : Nat, (z : Int) = c % n := ⟨(c % n).toNat, Int.toNat_of_nonneg z0⟩
    have HE : Hid (c % n = (z : Int)) := hz.symm
    refine ⟨z, by omega, fun w => ?_⟩
    clear z0 z1 hz
    go_enter Tryz.func45, Tryz.ntmps45
    go_wp2
    go_ret
    exact ⟨ret_int HE.out, rfl⟩
theorem msg_of {k l n : Int} {f : Bool} (h : may k l n f = true) : ∃ m : Fr.Msg, MOk m ∧ k = (m.kind : Int) ∧ l = (m.level : Int) ∧ n = (m.name : Int) ∧ f = m.finding := by
  have he : encErr true 0 k l n f = 0 := by unfold encErr; rw [if_neg (by omega), if_pos (Or.inl ⟨rfl, h⟩)]
  obtain ⟨fr, hf, hv⟩ := frame_of he
  obtain ⟨d, s, kd, lv, nm, fi⟩ := fr
  simp only [fv, fc, Array.mk.injEq, List.cons.injEq, Value.bool.injEq, Value.int.injEq, true_and, and_true] at hv
  obtain ⟨h1, h2, h3, h4, h5, h6⟩ := hv
  obtain ⟨_, ⟨_, g1, g2, g3, g4⟩ | ⟨g, _⟩⟩ := hf
  · exact ⟨⟨kd, lv, nm, fi⟩, ⟨g1, g2, g3, g4⟩, h3.symm, h4.symm, h5.symm, h6.symm⟩
  · simp only at g; rw [g] at h1; cases h1

/-- Between two steps: everything that is played. -/
def LSt (W0 w : World) (yb : Nat) (p1 : Value) (Y : World → (Nat → Nat) → Prop) (B : Nat) : Prop := ∃ (tag : Nat → Nat) (ea : Option Addr) (ec : Nat) (l : List Lp) (R : Nat → Rw) (Z : World → (Nat → Nat) → Prop), LS W0 w tag yb ea ec l p1 R Y Z ∧ Alk l ∧ Psi R l ≤ B
theorem LSt.same {W0 w w' : World} {yb : Nat} {p1 : Value} {Y : World → (Nat → Nat) → Prop} {B : Nat} (h : LSt W0 w yb p1 Y B) (k : Keep nil w w') : LSt W0 w' yb p1 Y B :=
  let ⟨tag, ea, ec, l, R, Z, h1, h2, h3⟩ := h; ⟨tag, ea, ec, l, R, Z, h1.same k, h2, h3⟩
theorem LSt.more {W0 w : World} {yb : Nat} {p1 : Value} {Y : World → (Nat → Nat) → Prop} {B B' : Nat} (h : LSt W0 w yb p1 Y B) (hB : B ≤ B') : LSt W0 w yb p1 Y B' :=
  let ⟨tag, ea, ec, l, R, Z, h1, h2, h3⟩ := h; ⟨tag, ea, ec, l, R, Z, h1, h2, Nat.le_trans h3 hB⟩
theorem psi_set {R : Nat → Rw} {l : List Lp} {i : Nat} {x y : Lp} (hx : l[i]? = some x) {n : Nat} (h : y.e.wt ≤ x.e.wt + n) : Psi R (l.set i y) ≤ Psi R l + n := by
  have := lsum_set l i x y hx
  unfold Psi
  rw [List.length_set]
  omega
/-- An end sends: both ends. -/
theorem send_both (W0 w : World) (tag : Nat → Nat) (yb : Nat) (ea : Option Addr) (ec : Nat) (l : List Lp) (p1 : Value) (R : Nat → Rw) (Y Z : World → (Nat → Nat) → Prop) (hS : LS W0 w tag yb ea ec l p1 R Y Z) (halk : Alk l) (i : Nat) (x : Lp) (hx : l[i]? = some x) (k lv n : Int) (f : Bool) (hB : (Psi R l : Int) < 1000000000) :
    ∃ z : Int, Calls Tryz.prog 84 #[.pointer (some ⟨x.xb, 0, none⟩), .agg #[.int .i64 k, .int .i64 lv, .int .i64 n, .bool f]] w fun r w1 => r = .returned (.int .i64 z) ∧ Keep (fun b => tag b = 20 + 4 * i) w w1 ∧
      ∀ w2, Keep nil w1 w2 → Calls Tryz.prog 85 #[.pointer (some ⟨x.cb, 0, none⟩), .agg #[.int .i64 k, .int .i64 lv, .int .i64 n, .bool f]] w2 fun r w3 => r = .returned (.int .i64 z) ∧ LSt W0 w3 yb p1 Y (Psi R l + 6) := by
  have hlk := halk i x hx
  have hA := hS.at hx
  have bo := psi_out (R := R) hx
  by_cases hm : may k lv n f = true
  · obtain ⟨m, hmo, rfl, rfl, rfl, rfl⟩ := msg_of hm
    by_cases hf : x.e.first + x.e.wait.length = 65536
    · refine ⟨1, (send_full zero24 147 x.xb 0 x.e x.p m hmo w hA.rep hf).mono ?_⟩
      rintro r w1 ⟨rfl, k1⟩
      refine ⟨rfl, k1.mono (fun _ _ e => e.elim), fun w2 k2 => ?_⟩
      have hS2 := (hS.same k1).same k2
      refine (refSend_full x.cb x.r x.q m hmo w2 (hS2.at hx).ref (by rw [← hlk.len]; exact hf)).mono ?_
      rintro r w3 ⟨rfl, k3⟩
      exact ⟨rfl, tag, ea, ec, l, R, Z, hS2.same k3, halk, by omega⟩
    · have hlt : x.e.first + x.e.wait.length < 65536 := by have := hA.rep.most; omega
      refine ⟨0, (send_yes zero24 147 x.xb 0 x.e x.p m hmo w hA.rep hlt (by omega)).mono ?_⟩
      rintro r w1 ⟨rfl, p', hr, hs⟩
      obtain ⟨tag1, hS1, t1, _⟩ := hS.stepP hx hr hs
      refine ⟨rfl, hs.keep.mono (fun b _ e => hA.tp b e.mine), fun w2 k2 => ?_⟩
      have hS2 := hS1.same k2
      have hx1 : (l.set i { x with e := x.e.send m, p := p' })[i]? = some { x with e := x.e.send m, p := p' } := List.getElem?_set_self (List.getElem?_eq_some_iff.1 hx).1
      refine (refSend_yes x.cb x.r x.q m hmo w2 (hS2.at hx1).ref (by rw [← hlk.len]; exact hlt) (by rw [← hlk.ou]; omega)).mono ?_
      rintro r w3 ⟨rfl, q', hr2, hs2⟩
      obtain ⟨tag3, hS3, _, _⟩ := hS2.stepR hx1 hr2 hs2
      rw [List.set_set] at hS3
      exact ⟨rfl, tag3, ea, ec, _, R, Z, hS3, halk.set hx (hlk.send m), psi_set hx (wt_send x.e m)⟩
  · have hm' : may k lv n f = false := by simpa using hm
    refine ⟨10, (send_no x.xb 0 k lv n f hm' w).mono ?_⟩
    rintro r w1 ⟨rfl, k1⟩
    refine ⟨rfl, k1.mono (fun _ _ e => e.elim), fun w2 k2 => ?_⟩
    refine (refSend_no x.cb k lv n f hm' w2).mono ?_
    rintro r w3 ⟨rfl, k3⟩
    exact ⟨rfl, tag, ea, ec, l, R, Z, ((hS.same k1).same k2).same k3, halk, by omega⟩

set_option maxRecDepth 100000 in
set_option maxHeartbeats 2000000 in
theorem linked_send (W0 w : World) (tag : Nat → Nat) (yb : Nat) (ea : Option Addr) (ec : Nat) (l : List Lp) (p1 : Value) (R : Nat → Rw) (Y Z : World → (Nat → Nat) → Prop) (hS : LS W0 w tag yb ea ec l p1 R Y Z) (halk : Alk l) (i : Nat) (x : Lp) (hx : l[i]? = some x) (hB : (Psi R l : Int) < 1000000000)
    (oc oa ob : Int) (E : Value) (d : Bool) (s k lv n : Int) (f : Bool) (D : Value) (he : E.oneCell' = true) (hd : D.oneCell' = true) :
    Calls Tryz.prog 44 #[.pointer (some ⟨yb, 0, none⟩), .agg #[.pointer (some ⟨x.xb, 0, none⟩), .pointer (some ⟨x.cb, 0, none⟩)], opv 5 oc oa ob E d s k lv n f D] w fun e w' => e = .returned (.bool true) ∧ LSt W0 w' yb p1 Y (Psi R l + 24) := by
  obtain ⟨xb, hxb⟩ : ∃ xb, xb = x.xb := ⟨_, rfl⟩
  obtain ⟨cb, hcb⟩ : ∃ cb, cb = x.cb := ⟨_, rfl⟩
  have HNZ : Unit → ∀ b, w.heap.size ≤ b → tag b = 0 := fun _ => hS.nz
  have HSD : Unit → ∀ w1, Keep nil w w1 → ∃ z : Int, Calls Tryz.prog 84 #[.pointer (some ⟨xb, 0, none⟩), .agg #[.int .i64 k, .int .i64 lv, .int .i64 n, .bool f]] w1 fun r w2 => r = .returned (.int .i64 z) ∧ Keep (fun b => tag b = 20 + 4 * i) w1 w2 ∧
      ∀ w3, Keep nil w2 w3 → Calls Tryz.prog 85 #[.pointer (some ⟨cb, 0, none⟩), .agg #[.int .i64 k, .int .i64 lv, .int .i64 n, .bool f]] w3 fun r w4 => r = .returned (.int .i64 z) ∧ LSt W0 w4 yb p1 Y (Psi R l + 6) := fun _ w1 k1 => by
    rw [hxb, hcb]
    exact send_both W0 w1 tag yb ea ec l p1 R Y Z (hS.same k1) halk i x hx k lv n f hB
  rw [← hxb, ← hcb]
  clear hS halk hx hB hxb hcb
  go_enter Tryz.func44, Tryz.ntmps44
  go_wp2_with fail
  obtain ⟨W1, hW1⟩ : ∃ W1, W1 = (w.alloc (.cells #[.pointer (some ⟨xb, 0, none⟩), .pointer (some ⟨cb, 0, none⟩)] 98)).alloc (.cells #[.int .i64 5, .int .i64 oc, .int .i64 oa, .int .i64 ob, E, .bool d, .int .i64 s, .int .i64 k, .int .i64 lv, .int .i64 n, .bool f, D] 80) := ⟨_, rfl⟩
  have hb1 : Blk W1 w.heap.size #[.pointer (some ⟨xb, 0, none⟩), .pointer (some ⟨cb, 0, none⟩)] 98 := by rw [hW1]; exact (Blk.new _ _ _).old _
  have hb2 : Blk W1 (w.heap.size + 1) #[.int .i64 5, .int .i64 oc, .int .i64 oa, .int .i64 ob, E, .bool d, .int .i64 s, .int .i64 k, .int .i64 lv, .int .i64 n, .bool f, D] 80 := by rw [hW1]; exact Blk.new' _ _ _ _ (by simp)
  have hkw : Keep nil w W1 := by rw [hW1]; exact ((Keep.refl nil w).alloc _).alloc _
  rw [← hW1]
  have HB1 : Unit → Blk W1 w.heap.size #[.pointer (some ⟨xb, 0, none⟩), .pointer (some ⟨cb, 0, none⟩)] 98 := fun _ => hb1
  have HB2 : Unit → Blk W1 (w.heap.size + 1) #[.int .i64 5, .int .i64 oc, .int .i64 oa, .int .i64 ob, E, .bool d, .int .i64 s, .int .i64 k, .int .i64 lv, .int .i64 n, .bool f, D] 80 := fun _ => hb2
  have HKW : Unit → Keep nil w W1 := fun _ => hkw
  clear hW1 hb1 hb2 hkw
  obtain ⟨z, hz⟩ := HSD () W1 (HKW ())
  have HZ : Unit → _ := fun _ => hz
  clear hz HSD
  refine Calls.mono (HZ ()) ?_
  rintro r w2 ⟨rfl, k2, hnext⟩
  have HNX : Unit → _ := fun _ => hnext
  have c1 := ((HB1 ()).keep k2 (fun e => by have := HNZ () w.heap.size (by omega); omega)).cell 1
  have hbb := (HB2 ()).keep k2 (fun e => by have := HNZ () (w.heap.size + 1) (by omega); omega)
  have d7 := hbb.cell 7
  have d8 := hbb.cell 8
  have d9 := hbb.cell 9
  have d10 := hbb.cell 10
  simp at c1 d7 d8 d9 d10
  clear hbb hnext k2 HZ
  go_wp2_with fail
  refine Calls.mono (HNX () _ (Keep.refl _ _)) ?_
  rintro r w3 ⟨rfl, hpost⟩
  have HP : Unit → LSt W0 w3 yb p1 Y (Psi R l + 6) := fun _ => hpost
  clear hpost HNX c1 d7 d8 d9 d10
  go_wp2
  go_ret
  exact ⟨by simp, (HP ()).more (by omega)⟩

/-- An end ticks: both ends. -/
theorem tick_both (W0 w : World) (tag : Nat → Nat) (yb : Nat) (ea : Option Addr) (ec : Nat) (l : List Lp) (p1 : Value) (R : Nat → Rw) (Y Z : World → (Nat → Nat) → Prop) (hS : LS W0 w tag yb ea ec l p1 R Y Z) (halk : Alk l) (i : Nat) (x : Lp) (hx : l[i]? = some x) (hB : (Psi R l : Int) < 1000000000) :
    Calls Tryz.prog 87 #[.pointer (some ⟨x.xb, 0, none⟩)] w fun r w1 => r = .returned (.tuple #[]) ∧ Keep (fun b => tag b = 20 + 4 * i) w w1 ∧
      ∀ w2, Keep nil w1 w2 → Calls Tryz.prog 88 #[.pointer (some ⟨x.cb, 0, none⟩)] w2 fun r w3 => r = .returned (.tuple #[]) ∧ LSt W0 w3 yb p1 Y (Psi R l + 24) := by
  have hlk := halk i x hx
  have hA := hS.at hx
  have bo := psi_out (R := R) hx
  refine (tick_any zero24 147 x.xb 0 x.e x.p w hA.rep (by omega)).mono ?_
  rintro r w1 ⟨rfl, p', hr, hs⟩
  obtain ⟨tag1, hS1, t1, _⟩ := hS.stepP hx hr hs
  refine ⟨rfl, hs.keep.mono (fun b _ e => hA.tp b e.mine), fun w2 k2 => ?_⟩
  have hS2 := hS1.same k2
  have hx1 : (l.set i { x with e := x.e.tick, p := p' })[i]? = some { x with e := x.e.tick, p := p' } := List.getElem?_set_self (List.getElem?_eq_some_iff.1 hx).1
  refine (refTick_any x.cb x.r x.q w2 (hS2.at hx1).ref (by rw [← hlk.ou]; omega)).mono ?_
  rintro r w3 ⟨rfl, q', hr2, hs2⟩
  obtain ⟨tag3, hS3, _, _⟩ := hS2.stepR hx1 hr2 hs2
  rw [List.set_set] at hS3
  exact ⟨rfl, tag3, ea, ec, _, R, Z, hS3, halk.set hx hlk.tick, psi_set hx (wt_tick x.e)⟩

set_option maxRecDepth 100000 in
set_option maxHeartbeats 2000000 in
theorem linked_tick (W0 w : World) (tag : Nat → Nat) (yb : Nat) (ea : Option Addr) (ec : Nat) (l : List Lp) (p1 : Value) (R : Nat → Rw) (Y Z : World → (Nat → Nat) → Prop) (hS : LS W0 w tag yb ea ec l p1 R Y Z) (halk : Alk l) (i : Nat) (x : Lp) (hx : l[i]? = some x) (hB : (Psi R l : Int) < 1000000000)
    (oc oa ob : Int) (E : Value) (d : Bool) (s k lv n : Int) (f : Bool) (D : Value) (he : E.oneCell' = true) (hd : D.oneCell' = true) :
    Calls Tryz.prog 44 #[.pointer (some ⟨yb, 0, none⟩), .agg #[.pointer (some ⟨x.xb, 0, none⟩), .pointer (some ⟨x.cb, 0, none⟩)], opv 8 oc oa ob E d s k lv n f D] w fun e w' => e = .returned (.bool true) ∧ LSt W0 w' yb p1 Y (Psi R l + 24) := by
  obtain ⟨xb, hxb⟩ : ∃ xb, xb = x.xb := ⟨_, rfl⟩
  obtain ⟨cb, hcb⟩ : ∃ cb, cb = x.cb := ⟨_, rfl⟩
  have HNZ : Unit → ∀ b, w.heap.size ≤ b → tag b = 0 := fun _ => hS.nz
  have HSD : Unit → ∀ w1, Keep nil w w1 → Calls Tryz.prog 87 #[.pointer (some ⟨xb, 0, none⟩)] w1 fun r w2 => r = .returned (.tuple #[]) ∧ Keep (fun b => tag b = 20 + 4 * i) w1 w2 ∧
      ∀ w3, Keep nil w2 w3 → Calls Tryz.prog 88 #[.pointer (some ⟨cb, 0, none⟩)] w3 fun r w4 => r = .returned (.tuple #[]) ∧ LSt W0 w4 yb p1 Y (Psi R l + 24) := fun _ w1 k1 => by
    rw [hxb, hcb]
    exact tick_both W0 w1 tag yb ea ec l p1 R Y Z (hS.same k1) halk i x hx hB
  rw [← hxb, ← hcb]
  clear hS halk hx hB hxb hcb
  go_enter Tryz.func44, Tryz.ntmps44
  go_wp2_with fail
  obtain ⟨W1, hW1⟩ : ∃ W1, W1 = (w.alloc (.cells #[.pointer (some ⟨xb, 0, none⟩), .pointer (some ⟨cb, 0, none⟩)] 98)).alloc (.cells #[.int .i64 8, .int .i64 oc, .int .i64 oa, .int .i64 ob, E, .bool d, .int .i64 s, .int .i64 k, .int .i64 lv, .int .i64 n, .bool f, D] 80) := ⟨_, rfl⟩
  have hb1 : Blk W1 w.heap.size #[.pointer (some ⟨xb, 0, none⟩), .pointer (some ⟨cb, 0, none⟩)] 98 := by rw [hW1]; exact (Blk.new _ _ _).old _
  have hb2 : Blk W1 (w.heap.size + 1) #[.int .i64 8, .int .i64 oc, .int .i64 oa, .int .i64 ob, E, .bool d, .int .i64 s, .int .i64 k, .int .i64 lv, .int .i64 n, .bool f, D] 80 := by rw [hW1]; exact Blk.new' _ _ _ _ (by simp)
  have hkw : Keep nil w W1 := by rw [hW1]; exact ((Keep.refl nil w).alloc _).alloc _
  rw [← hW1]
  have HB1 : Unit → Blk W1 w.heap.size #[.pointer (some ⟨xb, 0, none⟩), .pointer (some ⟨cb, 0, none⟩)] 98 := fun _ => hb1
  have HB2 : Unit → Blk W1 (w.heap.size + 1) #[.int .i64 8, .int .i64 oc, .int .i64 oa, .int .i64 ob, E, .bool d, .int .i64 s, .int .i64 k, .int .i64 lv, .int .i64 n, .bool f, D] 80 := fun _ => hb2
  have HKW : Unit → Keep nil w W1 := fun _ => hkw
  clear hW1 hb1 hb2 hkw
  refine Calls.mono (HSD () W1 (HKW ())) ?_
  rintro r w2 ⟨rfl, k2, hnext⟩
  have HNX : Unit → _ := fun _ => hnext
  have c1 := ((HB1 ()).keep k2 (fun e => by have := HNZ () w.heap.size (by omega); omega)).cell 1
  simp at c1
  clear hnext k2 HSD
  go_wp2_with fail
  refine Calls.mono (HNX () _ (Keep.refl _ _)) ?_
  rintro r w3 ⟨rfl, hpost⟩
  have HP : Unit → LSt W0 w3 yb p1 Y (Psi R l + 24) := fun _ => hpost
  clear hpost HNX c1
  go_wp2
  go_ret
  exact ⟨rfl, HP ()⟩

set_option maxRecDepth 100000 in
set_option maxHeartbeats 2000000 in
theorem linked_out (W0 w : World) (tag : Nat → Nat) (yb : Nat) (ea : Option Addr) (ec : Nat) (l : List Lp) (p1 : Value) (R : Nat → Rw) (Y Z : World → (Nat → Nat) → Prop) (hS : LS W0 w tag yb ea ec l p1 R Y Z) (halk : Alk l) (i : Nat) (x : Lp) (hx : l[i]? = some x) (hB : (Psi R l : Int) < 1000000000)
    (oc oa ob : Int) (E : Value) (d : Bool) (s k lv n : Int) (f : Bool) (D : Value) (he : E.oneCell' = true) (hd : D.oneCell' = true) :
    Calls Tryz.prog 44 #[.pointer (some ⟨yb, 0, none⟩), .agg #[.pointer (some ⟨x.xb, 0, none⟩), .pointer (some ⟨x.cb, 0, none⟩)], opv 9 oc oa ob E d s k lv n f D] w fun e w' => e = .returned (.bool true) ∧ LSt W0 w' yb p1 Y (Psi R l + 24) := by
  obtain ⟨xb, hxb⟩ : ∃ xb, xb = x.xb := ⟨_, rfl⟩
  obtain ⟨cb, hcb⟩ : ∃ cb, cb = x.cb := ⟨_, rfl⟩
  have HNZ : Unit → ∀ b, w.heap.size ≤ b → tag b = 0 := fun _ => hS.nz
  have HSD : Unit → ∀ w1, Keep nil w w1 → Calls Tryz.prog 89 #[.pointer (some ⟨yb, 0, none⟩), .agg #[.pointer (some ⟨xb, 0, none⟩), .pointer (some ⟨cb, 0, none⟩)]] w1 fun e w' => ∃ fa n fc, e = .returned (.tuple #[.slice fa n fc, .bool true]) ∧ LSt W0 w' yb p1 Y (Psi R l + 24) := fun _ w1 k1 => by
    rw [hxb, hcb]
    have b1 := psi_out (R := R) hx
    have b2 := psi_le R l
    have b3 := b2.1 0 (by omega)
    have b4 := b2.1 5 (by omega)
    refine (outL_any W0 w1 tag yb ea ec l p1 R Y Z (hS.same k1) i x hx (halk i x hx) (by omega) (by omega)).mono ?_
    rintro e w' ⟨fa, fc, gm, rfl, tag', R', x', hS', e1, e2, e3, hlk, r0, r5, rj⟩
    refine ⟨fa, _, fc, rfl, tag', ea, ec, _, R', _, hS', halk.set hx hlk, ?_⟩
    have h1 := lsum_set l i x x' hx
    have h2 := wt_outs x.e
    have h3 := osum_len x.e.out
    rw [e3] at h1
    unfold Psi
    rw [r0, r5, rj 1 (by omega) (by omega), rj 2 (by omega) (by omega), rj 3 (by omega) (by omega), rj 4 (by omega) (by omega), List.length_set]
    omega
  rw [← hxb, ← hcb]
  clear hS halk hx hB hxb hcb
  go_enter Tryz.func44, Tryz.ntmps44
  go_wp2_with fail
  obtain ⟨W1, hW1⟩ : ∃ W1, W1 = (w.alloc (.cells #[.pointer (some ⟨xb, 0, none⟩), .pointer (some ⟨cb, 0, none⟩)] 98)).alloc (.cells #[.int .i64 9, .int .i64 oc, .int .i64 oa, .int .i64 ob, E, .bool d, .int .i64 s, .int .i64 k, .int .i64 lv, .int .i64 n, .bool f, D] 80) := ⟨_, rfl⟩
  have hb1 : Blk W1 w.heap.size #[.pointer (some ⟨xb, 0, none⟩), .pointer (some ⟨cb, 0, none⟩)] 98 := by rw [hW1]; exact (Blk.new _ _ _).old _
  have hb2 : Blk W1 (w.heap.size + 1) #[.int .i64 9, .int .i64 oc, .int .i64 oa, .int .i64 ob, E, .bool d, .int .i64 s, .int .i64 k, .int .i64 lv, .int .i64 n, .bool f, D] 80 := by rw [hW1]; exact Blk.new' _ _ _ _ (by simp)
  have hkw : Keep nil w W1 := by rw [hW1]; exact ((Keep.refl nil w).alloc _).alloc _
  rw [← hW1]
  have HB1 : Unit → Blk W1 w.heap.size #[.pointer (some ⟨xb, 0, none⟩), .pointer (some ⟨cb, 0, none⟩)] 98 := fun _ => hb1
  have HB2 : Unit → Blk W1 (w.heap.size + 1) #[.int .i64 9, .int .i64 oc, .int .i64 oa, .int .i64 ob, E, .bool d, .int .i64 s, .int .i64 k, .int .i64 lv, .int .i64 n, .bool f, D] 80 := fun _ => hb2
  have HKW : Unit → Keep nil w W1 := fun _ => hkw
  clear hW1 hb1 hb2 hkw
  refine Calls.mono (HSD () W1 (HKW ())) ?_
  rintro r w2 ⟨fa, m, fc, rfl, hpost⟩
  have HP : Unit → LSt W0 w2 yb p1 Y (Psi R l + 24) := fun _ => hpost
  clear hpost HSD
  go_wp2
  go_ret
  exact ⟨rfl, HP ()⟩

/-- Bytes come at an end. -/
theorem comes_st (W0 w : World) (tag : Nat → Nat) (yb : Nat) (ea : Option Addr) (ec : Nat) (l : List Lp) (p1 : Value) (R : Nat → Rw) (Y Z : World → (Nat → Nat) → Prop) (hS : LS W0 w tag yb ea ec l p1 R Y Z) (halk : Alk l) (i : Nat) (x : Lp) (hx : l[i]? = some x) (hB : (Psi R l : Int) < 1000000000)
    (a : Option Addr) (ls : List Nat) (cap : Nat) (hb : BIn w a ls cap) (htg : ∀ bb bo, a = some ⟨bb, bo, none⟩ → bb < w.heap.size → ls ≠ [] → tag bb = 9 ∨ (2 ≤ tag bb ∧ tag bb ≤ 8)) :
    Calls Tryz.prog 86 #[.pointer (some ⟨yb, 0, none⟩), .agg #[.pointer (some ⟨x.xb, 0, none⟩), .pointer (some ⟨x.cb, 0, none⟩)], .slice a ls.length cap] w fun e w' => e = .returned (.bool true) ∧ LSt W0 w' yb p1 Y (Psi R l + 24) := by
  obtain ⟨q, hq⟩ := is_ex hb.byte
  have b1 := psi_out (R := R) hx
  have b2 := psi_le R l
  have b3 := b2.1 0 (by omega)
  have b4 := b2.1 2 (by omega)
  refine (comes_any W0 w tag yb ea ec l p1 R Y Z hS i x hx (halk i x hx) a ls cap hb htg q hq (by omega) (by omega) (by omega)).mono ?_
  rintro e w' ⟨rfl, tag', R', x', hS', e1, e2, e3, hlk, r0, r2, rj, _, _⟩
  refine ⟨rfl, tag', ea, ec, _, R', _, hS', halk.set hx hlk, ?_⟩
  have h1 := lsum_set l i x x' hx
  have h2 := wt_inn x.e q
  have h3 : ow q ≤ 3 := by
    cases q with
    | none => exact Nat.zero_le _
    | some f => show fw f - 3 ≤ 3; unfold fw; split <;> omega
  rw [e3] at h1
  unfold Psi
  rw [rj 1 (by omega) (by omega), rj 3 (by omega) (by omega), rj 4 (by omega) (by omega), rj 5 (by omega) (by omega), List.length_set]
  omega

set_option maxRecDepth 100000 in
set_option maxHeartbeats 2000000 in
theorem linked_in (W0 w : World) (tag : Nat → Nat) (yb : Nat) (ea : Option Addr) (ec : Nat) (l : List Lp) (p1 : Value) (R : Nat → Rw) (Y Z : World → (Nat → Nat) → Prop) (hS : LS W0 w tag yb ea ec l p1 R Y Z) (halk : Alk l) (i : Nat) (x : Lp) (hx : l[i]? = some x) (hB : (Psi R l : Int) < 1000000000)
    (oc oa ob : Int) (E : Value) (d : Bool) (s k lv n : Int) (f : Bool) (D : Value) (da : Option Addr) (ds : List Nat) (dc : Nat) (hD : D = .slice da ds.length dc) (hin : BIn w da ds dc) (hold : ∀ bb bo, da = some ⟨bb, bo, none⟩ → ds ≠ [] → bb < W0.heap.size ∧ bb ≠ yb) (he : E.oneCell' = true) (hd : D.oneCell' = true) :
    Calls Tryz.prog 44 #[.pointer (some ⟨yb, 0, none⟩), .agg #[.pointer (some ⟨x.xb, 0, none⟩), .pointer (some ⟨x.cb, 0, none⟩)], opv 6 oc oa ob E d s k lv n f D] w fun e w' => e = .returned (.bool true) ∧ LSt W0 w' yb p1 Y (Psi R l + 24) := by
  obtain ⟨xb, hxb⟩ : ∃ xb, xb = x.xb := ⟨_, rfl⟩
  obtain ⟨cb, hcb⟩ : ∃ cb, cb = x.cb := ⟨_, rfl⟩
  have HNZ : Unit → ∀ b, w.heap.size ≤ b → tag b = 0 := fun _ => hS.nz
  have HSD : Unit → ∀ w1, Keep nil w w1 → Calls Tryz.prog 86 #[.pointer (some ⟨yb, 0, none⟩), .agg #[.pointer (some ⟨xb, 0, none⟩), .pointer (some ⟨cb, 0, none⟩)], .slice da ds.length dc] w1 fun e w' => e = .returned (.bool true) ∧ LSt W0 w' yb p1 Y (Psi R l + 24) := fun _ w1 k1 => by
    rw [hxb, hcb]
    exact comes_st W0 w1 tag yb ea ec l p1 R Y Z (hS.same k1) halk i x hx hB da ds dc (hin.keep k1 (fun _ _ _ _ _ e => e)) (fun bb bo ha hl hne => Or.inl (hS.b.old bb (hold bb bo ha hne).1 (hold bb bo ha hne).2))
  rw [← hxb, ← hcb]
  subst hD
  clear hS halk hx hB hxb hcb hin hold hd
  generalize ds.length = dn at *
  go_enter Tryz.func44, Tryz.ntmps44
  go_wp2_with fail
  obtain ⟨W1, hW1⟩ : ∃ W1, W1 = (w.alloc (.cells #[.pointer (some ⟨xb, 0, none⟩), .pointer (some ⟨cb, 0, none⟩)] 98)).alloc (.cells #[.int .i64 6, .int .i64 oc, .int .i64 oa, .int .i64 ob, E, .bool d, .int .i64 s, .int .i64 k, .int .i64 lv, .int .i64 n, .bool f, (.slice da dn dc)] 80) := ⟨_, rfl⟩
  have hb1 : Blk W1 w.heap.size #[.pointer (some ⟨xb, 0, none⟩), .pointer (some ⟨cb, 0, none⟩)] 98 := by rw [hW1]; exact (Blk.new _ _ _).old _
  have hb2 : Blk W1 (w.heap.size + 1) #[.int .i64 6, .int .i64 oc, .int .i64 oa, .int .i64 ob, E, .bool d, .int .i64 s, .int .i64 k, .int .i64 lv, .int .i64 n, .bool f, (.slice da dn dc)] 80 := by rw [hW1]; exact Blk.new' _ _ _ _ (by simp)
  have hkw : Keep nil w W1 := by rw [hW1]; exact ((Keep.refl nil w).alloc _).alloc _
  rw [← hW1]
  have HB1 : Unit → Blk W1 w.heap.size #[.pointer (some ⟨xb, 0, none⟩), .pointer (some ⟨cb, 0, none⟩)] 98 := fun _ => hb1
  have HB2 : Unit → Blk W1 (w.heap.size + 1) #[.int .i64 6, .int .i64 oc, .int .i64 oa, .int .i64 ob, E, .bool d, .int .i64 s, .int .i64 k, .int .i64 lv, .int .i64 n, .bool f, (.slice da dn dc)] 80 := fun _ => hb2
  have HKW : Unit → Keep nil w W1 := fun _ => hkw
  clear hW1 hb1 hb2 hkw
  refine Calls.mono (HSD () W1 (HKW ())) ?_
  rintro r w2 ⟨rfl, hpost⟩
  have HP : Unit → LSt W0 w2 yb p1 Y (Psi R l + 24) := fun _ => hpost
  clear hpost HSD
  go_wp2
  go_ret
  exact ⟨rfl, HP ()⟩

end Go.Proofs.YtlfijfodklhplaaGreat
