import Derived.Test.YtlfijfodklhplaaGreatAk39
import Derived.Test.YtlfijfodklhplaaGreatAk47
import Derived.Deep.DeepCutAuto
import Derived.Deep.CutBlock
/- Alike: the walk. -/
namespace Go.Proofs.YtlfijfodklhplaaGreat
open Go.RowKit
set_option linter.unusedVariables false
set_option linter.unusedSimpArgs false

/-- Steps as they lie. -/
def Stps (W : World) (sa : Option Addr) (l : List Stp) : Prop := ∀ (i : Nat) (s : Stp), l[i]? = some s → s.ok ∧ ∃ bb bo, sa = some ⟨bb, bo, none⟩ ∧ bb < W.heap.size ∧ W.cell? ⟨bb, bo + i * 3, none⟩ = some (.int .i64 s.kind) ∧ W.cell? ⟨bb, bo + i * 3 + 1, none⟩ = some (.int .i64 s.a) ∧ W.cell? ⟨bb, bo + i * 3 + 2, none⟩ = some (.int .i64 s.b)
theorem Stps.keep {W W' : World} {sa : Option Addr} {l : List Stp} (h : Stps W sa l) (k : Keep nil W W') : Stps W' sa l := fun i s hi => by
  obtain ⟨h1, bb, bo, h2, h3, h4, h5, h6⟩ := h i s hi
  exact ⟨h1, bb, bo, h2, Nat.lt_of_lt_of_le h3 k.size, (k.cell bb _ h3 id).trans h4, (k.cell bb _ h3 id).trans h5, (k.cell bb _ h3 id).trans h6⟩
/-- The net behind so many steps. -/
noncomputable def Aat (A : AN) (l : List Stp) (i : Nat) : AN := (l.take i).foldl AN.does (A.wake 0)
theorem Aat_succ (A : AN) {l : List Stp} {i : Nat} {s : Stp} (h : l[i]? = some s) : Aat A l (i + 1) = (Aat A l i).does s := by
  unfold Aat
  rw [take_succ_get h, List.foldl_append]
  rfl
theorem Aat_awk (A : AN) (l : List Stp) (i : Nat) : Awk 0 (Aat A l i) := by
  have : ∀ (l : List Stp) (A : AN), Awk 0 A → Awk 0 (l.foldl AN.does A) := fun l => by
    induction l with
    | nil => intro A h; exact h
    | cons s t ih => intro A h; exact ih _ (awk_does h s)
  exact this _ _ (awk_woken 0 A)
theorem abs_sps {N : Nt} {A : AN} (h : N.abs = A) : N.sps.length = A.sps.length := by rw [← h]; simp [Nt.abs]
set_option maxRecDepth 100000 in
set_option maxHeartbeats 4000000 in
theorem alike_walk (nodes : Int) (raw : List Int) (ra : Option Addr) (rc : Nat) (l : List Stp) (sa : Option Addr) (sc : Nat) (w : World) (hnb : -9223372036854775808 ≤ nodes ∧ nodes ≤ 9223372036854775807) (hraw : Raws w ra raw) (hrl : (raw.length : Int) < 35184372088832) (hst : Stps w sa l) :
    Calls Tryz.prog 7 #[.int .i64 nodes, .slice ra raw.length rc, .slice sa l.length sc] w fun r w' => r = .returned (.bool true) ∧ Keep nil w w' := by
  have HO : Unit → ∀ w1, Keep nil w w1 → _ := fun _ w1 k1 => opened_any nodes raw ra rc w1 hnb (hraw.keep k1) hrl
  have HST : Unit → ∀ w1, Keep nil w w1 → Stps w1 sa l := fun _ w1 k1 => hst.keep k1
  obtain ⟨nn, hnn⟩ : ∃ nn, nn = gn nodes := ⟨_, rfl⟩
  obtain ⟨A0, hA0⟩ : ∃ A0, A0 = AN.fresh (gn nodes) (srt (ges nodes raw)) := ⟨_, rfl⟩
  rw [← hA0, ← hnn] at HO
  have HNN : Unit → A0.sps.length = nn ∧ 1 ≤ nn ∧ nn ≤ 8 := fun _ => by
    rw [hA0, hnn]
    exact ⟨by simp [AN.fresh], gn_in nodes⟩
  clear hraw hst hrl hnb hA0 hnn
  go_enter Tryz.func7, Tryz.ntmps7
  go_wp2_with fail
  refine Calls.mono (HO () w (Keep.refl nil w)) ?_
  rintro r w1 ⟨N, a1, c1, rfl, hN, hNa, k1, hNn, _⟩
  have HN : Unit → NtOk w1 N 0 ∧ N.abs = A0 ∧ Keep nil w w1 ∧ (∀ k, N.Own k → w.heap.size ≤ k) := fun _ => ⟨hN, hNa, k1, hNn⟩
  obtain ⟨xb, hxb⟩ : ∃ xb, xb = N.nb := ⟨_, rfl⟩
  rw [← hxb]
  have HXB : Unit → xb = N.nb := fun _ => hxb
  clear hN hNa k1 hNn hxb
  go_wp2_with fail
  refine Calls.mono (HO () w1 (HN ()).2.2.1) ?_
  rintro r w2 ⟨M, a2, c2, rfl, hM, hMa, k2, hMn, _⟩
  obtain ⟨yb, hyb⟩ : ∃ yb, yb = M.nb := ⟨_, rfl⟩
  rw [← hyb]
  have HYB : Unit → yb = M.nb := fun _ => hyb
  have HT : Unit → Tw w w2 N M A0 A0 0 0 := fun _ => by
    obtain ⟨h1, h2, h3, h4⟩ := HN ()
    refine ⟨h3.trans k2, h1.keepN k2, hM, h2, hMa, fun k e1 e2 => ?_, h4, fun k e => ?_⟩
    · have := h1.rep.Olt e1; have := hMn k e2; omega
    · have := hMn k e; have := h3.size; omega
  clear hM hMa k2 hMn HN HO hyb
  go_wp2_with fail
  refine Calls.mono (by have := ok_wake N 0 0 w2 (HT ()).x (HT ()).x.some_; rw [← HXB (), show ((0 : Nat) : Int) = 0 from rfl] at this; exact this) ?_
  rintro r w3 ⟨v, rfl, N', hok, hab, hto, hwy⟩
  have HT3 : Unit → Tw w w3 N' M (A0.wake 0) A0 4 0 ∧ N'.nb = xb ∧ N'.sps.length = nn := fun _ => by
    have := (HT ()).left hok hto
    rw [hab, (HT ()).xa] at this
    exact ⟨this, by rw [hto.nb, ← HXB ()], by rw [hto.len, abs_sps (HT ()).xa]; exact (HNN ()).1⟩
  clear hok hab hto hwy HXB HT
  go_wp2_with fail
  refine Calls.mono (by have := ok_wake M 0 0 w3 (HT3 ()).1.y (HT3 ()).1.y.some_; rw [← HYB (), show ((0 : Nat) : Int) = 0 from rfl] at this; exact this) ?_
  rintro r w4 ⟨v, rfl, M', hok, hab, hto, hwy⟩
  have HT4 : Unit → Tw w w4 N' M' (A0.wake 0) (A0.wake 0) 4 4 ∧ N'.nb = xb ∧ M'.nb = yb ∧ N'.sps.length = nn ∧ M'.sps.length = nn := fun _ => by
    have := (HT3 ()).1.right hok hto
    rw [hab, (HT3 ()).1.ya] at this
    exact ⟨this, (HT3 ()).2.1, by rw [hto.nb, ← HYB ()], (HT3 ()).2.2, by rw [hto.len, abs_sps (HT3 ()).1.ya]; exact (HNN ()).1⟩
  clear hok hab hto hwy HYB HT3 N M
  go_upto_block 0 with fail
  go_cut [] (fun wx => ∃ (i : Nat) (N M : Nt), Tw w wx N M (Aat A0 l i) (Aat A0 l i) (4 * i + 4) (4 * i + 4) ∧ N.nb = xb ∧ M.nb = yb ∧ N.sps.length = nn ∧ i ≤ 100)
  case first =>
    go_wp2_with fail
    go_loopw [13] (fun v wr => ∃ (i : Nat) (N M : Nt), i ≤ l.length ∧ (i : Int) ≤ 100 ∧ v = .int .i64 (i : Int) ∧ Tw w wr N M (Aat A0 l i) (Aat A0 l i) (4 * i + 4) (4 * i + 4) ∧ N.nb = xb ∧ M.nb = yb ∧ N.sps.length = nn ∧ M.sps.length = nn) (fun v _ => 100 - (intOf v).toNat)
    case atStart => exact ⟨0, N', M', Nat.zero_le _, by omega, rfl, (HT4 ()).1, (HT4 ()).2.1, (HT4 ()).2.2.1, (HT4 ()).2.2.2.1, (HT4 ()).2.2.2.2⟩
    case round =>
      clear HT4 N' M'
      obtain ⟨i, N, M, hi, hi1, rfl, ht, hxb, hyb, hnl, hml⟩ := hrel
      have HQ : Unit → Tw w wr N M (Aat A0 l i) (Aat A0 l i) (4 * i + 4) (4 * i + 4) ∧ N.nb = xb ∧ M.nb = yb ∧ N.sps.length = nn ∧ M.sps.length = nn ∧ i ≤ l.length := fun _ => ⟨ht, hxb, hyb, hnl, hml, hi⟩
      clear ht hxb hyb hnl hml
      by_cases hc : i < l.length ∧ i < 100
      · obtain ⟨s, hs⟩ : ∃ s, l[i]? = some s := ⟨_, List.getElem?_eq_getElem hc.1⟩
        have HS : Unit → l[i]? = some s ∧ i < l.length ∧ i < 100 := fun _ => ⟨hs, hc⟩
        obtain ⟨hsok, g, q, hga, hgl, f0, f1, f2⟩ := HST () w (Keep.refl nil w) i s hs
        have HE : Unit → ∀ w', Keep nil w w' → w'.cell? ⟨g, q + i * 3, none⟩ = some (.int .i64 s.kind) ∧ w'.cell? ⟨g, q + i * 3 + 1, none⟩ = some (.int .i64 s.a) ∧ w'.cell? ⟨g, q + i * 3 + 2, none⟩ = some (.int .i64 s.b) ∧ g < w'.heap.size := fun _ w' k => ⟨(k.cell g _ hgl id).trans f0, (k.cell g _ hgl id).trans f1, (k.cell g _ hgl id).trans f2, Nat.lt_of_lt_of_le hgl k.size⟩
        have HOK : Unit → s.ok := fun _ => hsok
        have hiI : (i : Int) < (l.length : Int) := by omega
        have hi9 : (i : Int) < 100 := by omega
        rw [hga]
        clear hs hsok hgl f0 f1 f2 hga hc hi hi1
        obtain ⟨sk, s1, s2⟩ := s
        simp only at HE
        obtain ⟨e0, e1, e2, hgw⟩ := HE () wr (HQ ()).1.keep
        go_wp2_with fail
        refine Calls.mono (by have := does_any N ⟨sk, s1, s2⟩ (4 * i + 4) wr (HQ ()).1.x (HOK ()) (by have := HS (); omega); rw [(HQ ()).2.1, (HQ ()).2.2.2.1] at this; exact this) ?_
        rintro r w1 ⟨rfl, N1, hok, hab, hto, hwy⟩
        have H1 : Unit → Tw w w1 N1 M (Aat A0 l (i + 1)) (Aat A0 l i) (4 * (i + 1) + 4) (4 * i + 4) ∧ N1.nb = xb ∧ N1.sps.length = nn := fun _ => by
          have := (HQ ()).1.left hok hto
          rw [hab, (HQ ()).1.xa, ← Aat_succ A0 (HS ()).1] at this
          exact ⟨this, by rw [hto.nb]; exact (HQ ()).2.1, by rw [hto.len]; exact (HQ ()).2.2.2.1⟩
        clear hok hab hto hwy e0 e1 e2 hgw
        obtain ⟨e0, e1, e2, hgw⟩ := HE () w1 (H1 ()).1.keep
        go_wp2_with fail
        refine Calls.mono (by have := does_any M ⟨sk, s1, s2⟩ (4 * i + 4) w1 (H1 ()).1.y (HOK ()) (by have := HS (); omega); rw [(HQ ()).2.2.1, (HQ ()).2.2.2.2.1] at this; exact this) ?_
        rintro r w2 ⟨rfl, M1, hok, hab, hto, hwy⟩
        have H2 : Unit → Tw w w2 N1 M1 (Aat A0 l (i + 1)) (Aat A0 l (i + 1)) (4 * (i + 1) + 4) (4 * (i + 1) + 4) ∧ N1.nb = xb ∧ M1.nb = yb ∧ N1.sps.length = nn ∧ M1.sps.length = nn := fun _ => by
          have := (H1 ()).1.right hok hto
          rw [hab, (H1 ()).1.ya, ← Aat_succ A0 (HS ()).1] at this
          exact ⟨this, (H1 ()).2.1, by rw [hto.nb]; exact (HQ ()).2.2.1, (H1 ()).2.2, by rw [hto.len]; exact (HQ ()).2.2.2.2.1⟩
        clear hok hab hto hwy e0 e1 e2 hgw H1
        go_wp2_with fail
        refine Calls.mono (by have := apackets N1.nb w2 ((mpackets_any N1 _ w2 (H2 ()).1.x.rep (H2 ()).1.x.ok).mono (R' := fun r w' => ∃ v, r = .returned v ∧ ∃ T a c, v = .slice a T.length c ∧ Tel w2 w' N1.L T a c) (by rintro r w' ⟨T, a, c, rfl, ht⟩; exact ⟨_, rfl, T, a, c, rfl, ht⟩)); rw [(H2 ()).2.1] at this; exact this) ?_
        rintro r w3 ⟨v, rfl, T, ta, tc, rfl, htel⟩
        have H3 : Unit → Tel w2 w3 N1.L T ta tc := fun _ => htel
        clear htel
        go_wp2_with fail
        refine Calls.mono (by have := apackets M1.nb w3 ((mpackets_any M1 _ w3 ((H2 ()).1.y.keepN (H3 ()).keep).rep (H2 ()).1.y.ok).mono (R' := fun r w' => ∃ v, r = .returned v ∧ ∃ T a c, v = .slice a T.length c ∧ Tel w3 w' M1.L T a c) (by rintro r w' ⟨T, a, c, rfl, ht⟩; exact ⟨_, rfl, T, a, c, rfl, ht⟩)); rw [(H2 ()).2.2.1] at this; exact this) ?_
        rintro r w4 ⟨v, rfl, U, ua, uc, rfl, htel⟩
        have hUT : U.length = T.length := by
          have h1 := tri_len (htel.same)
          have h2 := tri_len ((H3 ()).same)
          have h3 := tri_len (tri_abs ((H2 ()).1.xa.trans (H2 ()).1.ya.symm))
          omega
        have H4 : Unit → Tel w3 w4 M1.L U ua uc ∧ T.map Pk.tri = U.map Pk.tri := fun _ => ⟨htel, (H3 ()).same.trans ((tri_abs ((H2 ()).1.xa.trans (H2 ()).1.ya.symm)).trans htel.same.symm)⟩
        rw [hUT]
        clear htel hUT
        go_upto_block 2 with fail
        go_cut [] (fun wx => Keep (fun g => ∃ x ∈ T, x.g = g) w4 wx)
        case first =>
          go_wp2_with fail
          go_loopw [16] (fun v wx => ∃ k : Nat, k ≤ T.length ∧ v = .int .i64 (k : Int) ∧ Keep (fun g => ∃ x ∈ T.take k, x.g = g) w4 wx) (fun v _ => T.length - (intOf v).toNat)
          case atStart => exact ⟨0, Nat.zero_le _, rfl, Keep.refl _ _⟩
          case round =>
            obtain ⟨k, hk, rfl, hkw⟩ := hrel
            have HK : Unit → Keep (fun g => ∃ x ∈ T.take k, x.g = g) w4 wr ∧ k ≤ T.length := fun _ => ⟨hkw, hk⟩
            have htl : (T.length : Int) ≤ 300 := by
              have h1 := tri_len ((H3 ()).same)
              have h2 := (H2 ()).1.x.ok.bag
              rw [NtR.abs_len.1] at h2
              omega
            by_cases hkl : k < T.length
            · obtain ⟨x, hx⟩ : ∃ x, T[k]? = some x := ⟨_, List.getElem?_eq_getElem hkl⟩
              obtain ⟨y, hy, y1, y2, y3⟩ := tri_pair (H4 ()).2 hx
              obtain ⟨p1, p2, p3, p4⟩ := told_at (H3 ()) (H4 ()).1 hkw hx hy
              have hUT := tri_len (H4 ()).2
              obtain ⟨g1, q1, ht1, hl1, a0, a1', a2'⟩ := tk_at p1 hx hkl
              obtain ⟨g2, q2, ht2, hl2, d0, d1, d2⟩ := tk_at p2 hy (by omega)
              obtain ⟨hx1, hx2⟩ := told_ok (H2 ()).1.x.ok (H3 ()).same (List.mem_of_getElem? hx)
              have HX : Unit → T[k]? = some x ∧ k < T.length ∧ PRow wr x.g x.l x.c ∧ (x.l.length : Int) < 1000 := fun _ => ⟨hx, hkl, p3, hx2⟩
              obtain ⟨bs, hbs⟩ : ∃ bs, bs = bstr x.l := ⟨_, rfl⟩
              have hxl := p3.lt x.g (inB_self _ _)
              have hyl := p4.lt y.g (inB_self _ _)
              have s1 : ∀ m, (convert 56 9 (.slice (some ⟨x.g, 0, none⟩) x.l.length x.c)).run Tryz.prog (wr.drewN m) = .ok (.string bs) (wr.drewN m) := fun m => by
                rw [hbs]
                exact conv_row (wr.drewN m) x.g 0 x.c x.l ((prow_row p3).keep ((Keep.refl nil wr).drewN m) hxl id)
              have s2 : ∀ m, (convert 56 9 (.slice (some ⟨y.g, 0, none⟩) x.l.length y.c)).run Tryz.prog (wr.drewN m) = .ok (.string bs) (wr.drewN m) := fun m => by
                rw [hbs, ← y3]
                exact conv_row (wr.drewN m) y.g 0 y.c y.l ((prow_row p4).keep ((Keep.refl nil wr).drewN m) hyl id)
              rw [y1] at d0
              rw [y2] at d1
              unfold Pk.slice at a2' d2
              rw [y3] at d2
              obtain ⟨xf, xt, xl, xg, xc, xs⟩ := x
              obtain ⟨yf, yt, yl, yg, yc, ys⟩ := y
              simp only at a0 a1' a2' d0 d1 d2 s1 s2 HX
              have hkI : (k : Int) < (T.length : Int) := by omega
              have hk9 : (k : Int) < 300 := by omega
              subst ht1
              subst ht2
              obtain ⟨TL, hTL⟩ : ∃ TL, TL = T.length := ⟨_, rfl⟩
              have HTL : Unit → TL = T.length := fun _ => hTL
              obtain ⟨xn, hxn⟩ : ∃ xn, xn = xl.length := ⟨_, rfl⟩
              have HXN : Unit → xn = xl.length := fun _ => hxn
              rw [← hxn] at s1 s2 a2' d2
              clear hk hkl hkw hx hy y1 y2 y3 p1 p2 p3 p4 hx1 hx2 hbs hxl hyl hUT hTL hxn htl
              have hgx : g1 ≠ xg := fun e => by
                have := ((H3 ()).each _ (List.mem_of_getElem? (HX ()).1)).2.2
                exact this (inB_some.2 e.symm)
              go_wp2_with fail
              go_quiet (fail)
              obtain ⟨W5, hW5⟩ : ∃ W5, W5 = wr.drewN nq := ⟨_, rfl⟩
              have H5 : Unit → Keep nil wr W5 ∧ PRow W5 xg xl xc := fun _ => by
                rw [hW5]
                exact ⟨(Keep.refl nil wr).drewN nq, (HX ()).2.2.1.keep ((Keep.refl nil wr).drewN nq) (fun _ _ e => e)⟩
              have c5 : W5.cell? ⟨g1, q1 + k * 3 + 2, none⟩ = some (.slice (some ⟨xg, 0, none⟩) xn xc) := by rw [hW5]; exact a2'
              have l5 : g1 < W5.heap.size := by rw [hW5]; exact hl1
              rw [← hW5]
              have hx9 : (xn : Int) < 1000 := by rw [HXN ()]; exact (HX ()).2.2.2
              clear hW5 a0 a1' a2' d0 d1 d2 s1 s2 hl1 hl2
              go_wp2_with fail
              go_loopw [17] (fun v wx => ∃ (j : Nat) (zl : List Nat), j ≤ xn ∧ v = .int .i64 (j : Int) ∧ zl.length = xn ∧ PRow wx xg zl xc ∧ Keep (only xg) W5 wx) (fun v _ => xn - (intOf v).toNat)
              case atStart => exact ⟨0, xl, Nat.zero_le _, rfl, (HXN ()).symm, (H5 ()).2, Keep.refl _ _⟩
              case round =>
                obtain ⟨j, zl, hj, rfl, hzl, hpr, hkw⟩ := hrel
                have HJ : Unit → zl.length = xn ∧ PRow wr xg zl xc ∧ Keep (only xg) W5 wr := fun _ => ⟨hzl, hpr, hkw⟩
                have c5 := (hkw.cell g1 _ l5 hgx).trans c5
                have l5 : g1 < wr.heap.size := Nat.lt_of_lt_of_le l5 hkw.size
                by_cases hjl : j < xn
                · obtain ⟨⟨v, hv⟩, hfz, hxl⟩ := hpr.cellAt (show j < zl.length by omega)
                  have hjI : (j : Int) < (xn : Int) := by omega
                  have HJL : Unit → j < xn := fun _ => hjl
                  clear hj hjl hpr hkw hzl
                  go_wp2_with fail
                  refine ⟨⟨j + 1, zl.set j 0, by have := HJL (); omega, by go_num, by rw [List.length_set]; exact (HJ ()).1, ?_, ?_⟩, by have := HJL (); simp [intOf]; omega⟩
                  · exact (HJ ()).2.1.wipe (by rw [(HJ ()).1]; exact HJL ())
                  · exact (HJ ()).2.2.setCell (p := ⟨xg, j, none⟩) (fun _ => rfl) _
                · have hjI : ¬ ((j : Int) < (xn : Int)) := by omega
                  clear hj hjl hpr hkw hzl
                  go_wp2
                  refine ⟨⟨k + 1, by have := HX (); omega, by go_num, ?_⟩, by have := HX (); simp [intOf]; omega⟩
                  have h1 := (HK ()).1
                  have h2 := (HX ()).1
                  have e1 : T.take (k + 1) = T.take k ++ [⟨xf, xt, xl, xg, xc, xs⟩] := take_succ_get h2
                  rw [e1]
                  refine ((h1.mono (fun i _ e => ?_)).trans ((H5 ()).1.mono (fun _ _ e => e.elim))).trans ((HJ ()).2.2.mono (fun i _ e => ?_))
                  · obtain ⟨z, hz, e⟩ := e
                    exact ⟨z, List.mem_append_left _ hz, e⟩
                  · exact ⟨_, List.mem_append_right _ (List.mem_singleton.2 rfl), (show i = xg from e).symm⟩
            · have hkI : ¬ ((k : Int) < (T.length : Int)) := by omega
              have HKE : Unit → T.take k = T := fun _ => by rw [show k = T.length by have := (HK ()).2; omega, List.take_length]
              clear hk hkl hkw
              go_wp2
              go_meet
              case rel =>
                have := (HK ()).1
                rw [HKE ()] at this
                exact this
        case rest =>
          have H5 : Unit → Tw w wc N1 M1 (Aat A0 l (i + 1)) (Aat A0 l (i + 1)) (4 * (i + 1) + 4) (4 * (i + 1) + 4) := fun _ => by
            refine (H2 ()).1.young ((H3 ()).keep.trans (H4 ()).1.keep) hcut (fun b e => ?_)
            obtain ⟨x, hx, rfl⟩ := e
            exact ((H3 ()).each x hx).2.1
          clear hcut H3 H4
          obtain ⟨W6, hW6⟩ : ∃ W6, W6 = wc := ⟨_, rfl⟩
          subst hW6
          go_wp2_with fail
          go_loopw [18] (fun v wx => ∃ k : Nat, k ≤ nn ∧ v = .int .i64 (k : Int) ∧ Tw w wx N1 M1 (Aat A0 l (i + 1)) (Aat A0 l (i + 1)) (4 * (i + 1) + 4) (4 * (i + 1) + 4)) (fun v _ => nn - (intOf v).toNat)
          case atStart => exact ⟨0, Nat.zero_le _, rfl, H5 ()⟩
          case round =>
            obtain ⟨k, hk, rfl, ht⟩ := hrel
            have HT : Unit → Tw w wr N1 M1 (Aat A0 l (i + 1)) (Aat A0 l (i + 1)) (4 * (i + 1) + 4) (4 * (i + 1) + 4) := fun _ => ht
            have hk9 : (k : Int) ≤ 8 := by have := HNN (); omega
            by_cases hkl : k < nn
            · --@P lk
              obtain ⟨s, hs⟩ : ∃ s, N1.sps[k]? = some s := ⟨_, List.getElem?_eq_getElem (by rw [(H2 ()).2.2.2.1]; exact hkl)⟩
              obtain ⟨t, ht2⟩ : ∃ t, M1.sps[k]? = some t := ⟨_, List.getElem?_eq_getElem (by rw [(H2 ()).2.2.2.2]; exact hkl)⟩
              have hst : t.n = s.n := by
                have h1 := abs_spot hs
                have h2 := abs_spot ht2
                rw [ht.xa] at h1
                rw [ht.ya, h1] at h2
                have h3 := congrArg AS.n (Option.some.inj h2)
                exact h3.symm
              have HL1 : Unit → ∀ w', Keep nil wr w' → _ := fun _ w' k' => alook_any N1 k s (4 * (i + 1) + 4) w' ((HT ()).keepN k').x.rep hs (HT ()).x.ok
              have HL2 : Unit → ∀ w', Keep nil wr w' → _ := fun _ w' k' => alook_any M1 k t (4 * (i + 1) + 4) w' ((HT ()).keepN k').y.rep ht2 (HT ()).y.ok
              obtain ⟨nd, hnd⟩ : ∃ nd, nd = s.n := ⟨_, rfl⟩
              have HEL : Unit → (nd.edges.length : Int) < 1000 := fun _ => by
                obtain ⟨q1, _, _⟩ := (HT ()).x.ok.well k s.abs (abs_spot hs)
                rw [hnd]
                exact q1.good.rise.few
              rw [hst] at HL2
              rw [← hnd] at HL1 HL2
              rw [(H2 ()).2.1] at HL1
              rw [(H2 ()).2.2.1] at HL2
              have hkI : (k : Int) < (nn : Int) := by omega
              have HKL : Unit → k < nn := fun _ => hkl
              clear hk hkl ht hs ht2 hst hnd s t
              go_wp2_with fail
              refine Calls.mono (HL1 () wr (Keep.refl nil wr)) ?_
              rintro r w7 ⟨ea, ec, rfl, r1, k7, n7⟩
              have H7 : Unit → RV w7 3 1 ea nd.edges.length ec (icells (nd.edges.map (·.2))) ∧ Keep nil wr w7 ∧ ∀ g, inB ea g → wr.heap.size ≤ g := fun _ => ⟨r1, k7, n7⟩
              clear r1 k7 n7 HL1
              obtain ⟨e0, e1, e2, e3, e4, e5, hq⟩ : ∃ (e0 e1 e2 : Nat) (e3 : Bool) (e4 e5 : Nat), (∀ a c, lookv nd a c = .agg #[.int .i64 (e0 : Int), .int .i64 (e1 : Int), .int .i64 (e2 : Int), .bool e3, .int .i64 (e4 : Int), .slice a e5 c]) ∧ e5 = nd.edges.length := ⟨_, _, _, _, _, _, (fun _ _ => rfl), rfl⟩
              have HLV : Unit → (∀ a c, lookv nd a c = .agg #[.int .i64 (e0 : Int), .int .i64 (e1 : Int), .int .i64 (e2 : Int), .bool e3, .int .i64 (e4 : Int), .slice a e5 c]) ∧ e5 = nd.edges.length := fun _ => hq
              rw [hq.1]
              clear hq
              go_wp2_with fail
              obtain ⟨W8, hW8⟩ : ∃ W8, W8 = w7.alloc (.cells #[.int .i64 (e0 : Int), .int .i64 (e1 : Int), .int .i64 (e2 : Int), .bool e3, .int .i64 (e4 : Int), .slice ea e5 ec] 50) := ⟨_, rfl⟩
              obtain ⟨ab, hab⟩ : ∃ ab, ab = w7.heap.size := ⟨_, rfl⟩
              have H8 : Unit → Keep nil w7 W8 ∧ ab = w7.heap.size ∧ Blk W8 ab #[.int .i64 (e0 : Int), .int .i64 (e1 : Int), .int .i64 (e2 : Int), .bool e3, .int .i64 (e4 : Int), .slice ea e5 ec] 50 := fun _ => ⟨by rw [hW8]; exact (Keep.refl nil w7).alloc _, hab, by rw [hW8, hab]; exact Blk.new _ _ _⟩
              rw [← hW8, ← hab]
              clear hW8 hab
              refine Calls.mono (HL2 () W8 ((H7 ()).2.1.trans (H8 ()).1)) ?_
              rintro r w9 ⟨fa, fc, rfl, r2, k9, n9⟩
              have H9 : Unit → RV w9 3 1 fa nd.edges.length fc (icells (nd.edges.map (·.2))) ∧ Keep nil W8 w9 := fun _ => ⟨r2, k9⟩
              clear r2 k9 n9 HL2
              rw [(HLV ()).1]
              have a0 : w9.cell? ⟨ab, 0, none⟩ = some (.int .i64 (e0 : Int)) := by rw [((H8 ()).2.2.keep (H9 ()).2 id).cell]; rfl
              have a1' : w9.cell? ⟨ab, 1, none⟩ = some (.int .i64 (e1 : Int)) := by rw [((H8 ()).2.2.keep (H9 ()).2 id).cell]; rfl
              have a2' : w9.cell? ⟨ab, 2, none⟩ = some (.int .i64 (e2 : Int)) := by rw [((H8 ()).2.2.keep (H9 ()).2 id).cell]; rfl
              have a3 : w9.cell? ⟨ab, 3, none⟩ = some (.bool e3) := by rw [((H8 ()).2.2.keep (H9 ()).2 id).cell]; rfl
              have a4 : w9.cell? ⟨ab, 4, none⟩ = some (.int .i64 (e4 : Int)) := by rw [((H8 ()).2.2.keep (H9 ()).2 id).cell]; rfl
              have a5 : w9.cell? ⟨ab, 5, none⟩ = some (.slice ea e5 ec) := by rw [((H8 ()).2.2.keep (H9 ()).2 id).cell]; rfl
              have hal : ab < w9.heap.size := ((H8 ()).2.2.keep (H9 ()).2 id).lt
              go_wp2_with fail
              obtain ⟨W10, hW10⟩ : ∃ W10, W10 = w9.alloc (.cells #[.int .i64 (e0 : Int), .int .i64 (e1 : Int), .int .i64 (e2 : Int), .bool e3, .int .i64 (e4 : Int), .slice fa e5 fc] 50) := ⟨_, rfl⟩
              have H10 : Unit → Keep nil w9 W10 := fun _ => by rw [hW10]; exact (Keep.refl nil w9).alloc _
              rw [← hW10]
              clear hW10 a0 a1' a2' a3 a4
              refine Calls.mono (by
                have h1 := looks_yes nd ea fa ec fc W10 ((((H7 ()).1.keep (H8 ()).1 (fun _ _ e => e)).keep (H9 ()).2 (fun _ _ e => e)).keep (H10 ()) (fun _ _ e => e)) ((H9 ()).1.keep (H10 ()) (fun _ _ e => e)) (by have := HEL (); omega)
                rw [(HLV ()).1, (HLV ()).1] at h1
                exact h1) ?_
              rintro r w11 ⟨rfl, k11⟩
              have H11 : Unit → Keep nil wr w11 ∧ RV w11 3 1 ea e5 ec (icells (nd.edges.map (·.2))) ∧ (∀ g, inB ea g → wr.heap.size ≤ g) ∧ ¬ inB ea ab ∧ (e5 : Int) < 1000 := fun _ => by
                have q1 := (((H7 ()).2.1.trans (H8 ()).1).trans (H9 ()).2).trans ((H10 ()).trans k11)
                have q2 := (H7 ()).1.keep (((H8 ()).1.trans (H9 ()).2).trans ((H10 ()).trans k11)) (fun _ _ e => e)
                rw [(HLV ()).2]
                exact ⟨q1, q2, (H7 ()).2.2, fun e => by have := (H7 ()).1.lt ab e; have := (H8 ()).2.1; omega, HEL ()⟩
              have a5 := ((((H10 ()).trans k11).cell ab 5 hal id)).trans a5
              have hal : ab < w11.heap.size := Nat.lt_of_lt_of_le hal ((H10 ()).trans k11).size
              clear k11 H7 H8 H9 H10 HLV HEL
              go_wp2_with fail
              go_loopw [24] (fun v wx => ∃ (j : Nat) (zs : List Value), j ≤ e5 ∧ v = .int .i64 (j : Int) ∧ RV wx 3 1 ea e5 ec zs ∧ Keep (inB ea) w11 wx) (fun v _ => e5 - (intOf v).toNat)
              case atStart => exact ⟨0, _, Nat.zero_le _, rfl, (H11 ()).2.1, Keep.refl _ _⟩
              case round =>
                obtain ⟨j, zs, hj, rfl, hrz, hkw⟩ := hrel
                have HJ : Unit → RV wr 3 1 ea e5 ec zs ∧ Keep (inB ea) w11 wr := fun _ => ⟨hrz, hkw⟩
                have a5 := (hkw.cell ab 5 hal (H11 ()).2.2.2.1).trans a5
                have hal : ab < wr.heap.size := Nat.lt_of_lt_of_le hal hkw.size
                have he9 := (H11 ()).2.2.2.2
                by_cases hjl : j < e5
                · obtain ⟨g5, o5, hga, hvb⟩ := rv_pos hrz (by omega)
                  have hzl : zs.length = e5 := by have := hrz.1; omega
                  obtain ⟨pre, sp, hbl, hp, _⟩ := id hvb
                  have hv := hvb.cell j zs[j] (List.getElem?_eq_getElem (by omega))
                  have hfz : wr.frozen? ⟨g5, o5 + j, none⟩ = false := hbl.frozen _
                  have hgl := hvb.lt
                  have hjI : (j : Int) < (e5 : Int) := by omega
                  have HJL : Unit → j < e5 ∧ zs.length = e5 := fun _ => ⟨hjl, hzl⟩
                  obtain ⟨vz, hvz⟩ : ∃ vz, vz = zs[j] := ⟨_, rfl⟩
                  rw [← hvz] at hv
                  have HGA : Unit → ea = some ⟨g5, o5, none⟩ := fun _ => hga
                  rw [hga] at a5
                  clear hj hjl hrz hkw hvb hbl hzl hvz hga hp
                  go_wp2_with fail
                  have hrz := (HJ ()).1
                  rw [HGA ()] at hrz
                  refine ⟨⟨j + 1, zs.set j (.int .i64 9), by have := HJL (); omega, by go_num, ?_, ?_⟩, by have := HJL (); simp [intOf]; omega⟩
                  · rw [HGA ()]
                    exact RV.setAt hrz j (by have := HJL (); omega) _
                  · exact (HJ ()).2.setCell (p := ⟨g5, o5 + j, none⟩) (fun _ => by rw [HGA ()]; exact inB_self _ _) _
                · have hjI : ¬ ((j : Int) < (e5 : Int)) := by omega
                  clear hj hjl hrz hkw
                  go_wp2
                  refine ⟨⟨k + 1, by have := HKL (); omega, by go_num, (HT ()).young (H11 ()).1 (HJ ()).2 (H11 ()).2.2.1⟩, by have := HKL (); simp [intOf]; omega⟩
            · have hkI : ¬ ((k : Int) < (nn : Int)) := by omega
              clear hk hkl ht
              go_wp2
              exact ⟨⟨i + 1, N1, M1, by have := HS (); omega, by have := HS (); omega, by go_num, HT (), (H2 ()).2.1, (H2 ()).2.2.1, (H2 ()).2.2.2.1, (H2 ()).2.2.2.2⟩, by have := HS (); simp [intOf]; omega⟩
      · by_cases h : i < l.length
        · have hiI : (i : Int) < (l.length : Int) := by omega
          have hi9 : ¬ ((i : Int) < 100) := by omega
          have hi8 : i ≤ 100 := by omega
          clear hi hi1 hc h
          go_wp2
          go_meet
          case rel => exact ⟨i, N, M, (HQ ()).1, (HQ ()).2.1, (HQ ()).2.2.1, (HQ ()).2.2.2.1, hi8⟩
        · have hiI : ¬ ((i : Int) < (l.length : Int)) := by omega
          have hi8 : i ≤ 100 := by omega
          clear hi hi1 hc h
          go_wp2
          go_meet
          case rel => exact ⟨i, N, M, (HQ ()).1, (HQ ()).2.1, (HQ ()).2.2.1, (HQ ()).2.2.2.1, hi8⟩
  case rest =>
    obtain ⟨i, N, M, ht, hxb, hyb, hnl, hi⟩ := hcut
    have HT : Unit → Tw w wc N M (Aat A0 l i) (Aat A0 l i) (4 * i + 4) (4 * i + 4) ∧ i ≤ 100 ∧ N.sps.length = nn ∧ N.nb = xb ∧ M.nb = yb := fun _ => ⟨ht, hi, hnl, hxb, hyb⟩
    obtain ⟨tr, htr⟩ : ∃ tr, tr = (Aat A0 l i).tree := ⟨_, rfl⟩
    have HTR : Unit → tr.length ≤ 1000 := fun _ => by
      rw [htr]
      have h1 := ht.x.es.few
      rw [ht.xa] at h1
      exact Nat.le_trans (List.length_filter_le _ _) h1
    have HT1 : Unit → ∀ w', Keep nil wc w' → Calls Tryz.prog 17 #[.pointer (some ⟨xb, 0, none⟩)] w' fun r w2 => ∃ v, r = .returned v ∧ ∃ a c, v = .slice a tr.length c ∧ Tre w' w2 tr a c := fun _ w' k => by
      have h1 := atree (R := fun v w2 => ∃ a c, v = .slice a tr.length c ∧ Tre w' w2 tr a c) N.nb w' ((mtree_any N _ w' (ht.keepN k).x.rep ht.x.ok ht.x.es).mono (by
        rintro r w2 ⟨a, c, rfl, h⟩
        rw [ht.xa, ← htr] at h
        exact ⟨_, rfl, a, c, by rw [ht.xa, ← htr], h⟩))
      rw [hxb] at h1
      exact h1
    have HT2 : Unit → ∀ w', Keep nil wc w' → Calls Tryz.prog 17 #[.pointer (some ⟨yb, 0, none⟩)] w' fun r w2 => ∃ v, r = .returned v ∧ ∃ a c, v = .slice a tr.length c ∧ Tre w' w2 tr a c := fun _ w' k => by
      have h1 := atree (R := fun v w2 => ∃ a c, v = .slice a tr.length c ∧ Tre w' w2 tr a c) M.nb w' ((mtree_any M _ w' (ht.keepN k).y.rep ht.y.ok ht.y.es).mono (by
        rintro r w2 ⟨a, c, rfl, h⟩
        rw [ht.ya, ← htr] at h
        exact ⟨_, rfl, a, c, by rw [ht.ya, ← htr], h⟩))
      rw [hyb] at h1
      exact h1
    obtain ⟨s, hs⟩ : ∃ s, N.sps[0]? = some s := ⟨_, List.getElem?_eq_getElem ht.x.some_⟩
    have hst : s.n.state ≠ 0 := by
      refine Aat_awk A0 l i s.n ?_
      rw [← ht.xa]
      unfold AN.nods
      rw [List.getElem?_map, abs_spot hs]
      rfl
    have HL1 : Unit → ∀ w', Keep nil wc w' → _ := fun _ w' k' => alook_any N 0 s (4 * i + 4) w' (ht.keepN k').x.rep hs ht.x.ok
    obtain ⟨nd, hnd⟩ : ∃ nd, nd = s.n := ⟨_, rfl⟩
    rw [← hnd] at HL1 hst
    rw [hxb, show ((0 : Nat) : Int) = 0 from rfl] at HL1
    clear hnd hs htr hnl hi ht hxb hyb s
    go_wp2_with fail
    refine Calls.mono (HT1 () wc (Keep.refl nil wc)) ?_
    rintro r w5 ⟨v5, rfl, ta, tc, rfl, t5⟩
    have H5 : Unit → Tre wc w5 tr ta tc := fun _ => t5
    clear t5 HT1
    go_wp2_with fail
    refine Calls.mono (HT2 () w5 (H5 ()).keep) ?_
    rintro r w6 ⟨v6, rfl, ua, uc, rfl, t6⟩
    have H6 : Unit → Tre w5 w6 tr ua uc := fun _ => t6
    clear t6 HT2
    go_wp2_with fail
    refine Calls.mono (HL1 () w6 ((H5 ()).keep.trans (H6 ()).keep)) ?_
    rintro r w7 ⟨ea, ec, rfl, r1, k7, n7⟩
    have H7 : Unit → Keep nil w6 w7 := fun _ => k7
    clear r1 k7 n7 HL1
    unfold lookv
    obtain ⟨e0, he0⟩ : ∃ e0, e0 = nd.state := ⟨_, rfl⟩
    have hst' : ¬ ((e0 : Int) = 0) := by rw [he0]; omega
    rw [← he0]
    clear hst he0
    generalize nd.level = e1
    generalize nd.name = e2
    generalize nd.over = e3
    generalize nd.off.length = e4
    generalize nd.edges.length = e5
    go_wp2_with fail
    obtain ⟨W8, hW8⟩ : ∃ W8, W8 = w7.alloc (.cells #[.int .i64 (e0 : Int), .int .i64 (e1 : Int), .int .i64 (e2 : Int), .bool e3, .int .i64 (e4 : Int), .slice ea e5 ec] 50) := ⟨_, rfl⟩
    obtain ⟨ab, hab⟩ : ∃ ab, ab = w7.heap.size := ⟨_, rfl⟩
    have H8 : Unit → Keep nil w7 W8 := fun _ => by rw [hW8]; exact (Keep.refl nil w7).alloc _
    have hb8 : Blk W8 ab #[.int .i64 (e0 : Int), .int .i64 (e1 : Int), .int .i64 (e2 : Int), .bool e3, .int .i64 (e4 : Int), .slice ea e5 ec] 50 := by rw [hW8, hab]; exact Blk.new _ _ _
    rw [← hW8, ← hab]
    clear hW8 hab
    refine Calls.mono (same_yes tr ta ua tc uc W8 ((((H5 ()).row.keep (H6 ()).keep (fun _ _ e => e)).keep (H7 ()) (fun _ _ e => e)).keep (H8 ()) (fun _ _ e => e)) (((H6 ()).row.keep (H7 ()) (fun _ _ e => e)).keep (H8 ()) (fun _ _ e => e)) (by have := HTR (); omega)) ?_
    rintro r w9 ⟨rfl, k9⟩
    have c0 : w9.cell? ⟨ab, 0, none⟩ = some (.int .i64 (e0 : Int)) := by rw [(hb8.keep k9 id).cell]; rfl
    have hal : ab < w9.heap.size := (hb8.keep k9 id).lt
    have HF : Unit → Keep nil w w9 := fun _ => ((((HT ()).1.keep.trans (H5 ()).keep).trans (H6 ()).keep).trans ((H7 ()).trans (H8 ()))).trans k9
    clear hb8 k9 H5 H6 H7 H8 HT
    go_wp2
    go_ret
    have hne : ¬ e0 = 0 := by omega
    exact ⟨by simp [hne], HF ()⟩
end Go.Proofs.YtlfijfodklhplaaGreat
