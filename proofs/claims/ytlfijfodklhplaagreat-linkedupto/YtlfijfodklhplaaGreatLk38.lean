import Derived.Test.YtlfijfodklhplaaGreatLk37
import Derived.Deep.DeepCutAuto
/- The document's end: takes, of what is kept. -/
namespace Go.Proofs.YtlfijfodklhplaaGreat
open Go.RowKit
set_option linter.unusedVariables false
set_option linter.unusedSimpArgs false

set_option maxRecDepth 100000 in
set_option maxHeartbeats 8000000 in
theorem takes_yes (b : Nat) (e : Rf) (p : Rp) (w : World) (h : RRep w b e p) (l1 l2 : List (Nat × Fr.Msg)) (m : Fr.Msg) (hkept : e.kept = l1 ++ (e.await, m) :: l2) (hno : ∀ x ∈ l1, x.1 ≠ e.await) (hk : e.kept.length ≤ 1000) (haw : e.await ≤ 65536) :
    Calls Tryz.prog 182 #[.pointer (some ⟨b, 0, none⟩)] w fun r w' => r = .returned (.tuple #[mv m, .bool true]) ∧ ∃ p', RRep w' b { e with kept := l1 ++ l2, await := e.await + 1 } p' ∧ RStep w w' b p p' := by
  have HR : Unit → RRep w b e p := fun _ => h
  have HN : Unit → (∀ x ∈ l1, x.1 ≠ e.await) ∧ e.kept.length ≤ 1000 ∧ e.kept = l1 ++ (e.await, m) :: l2 ∧ e.await ≤ 65536 := fun _ => ⟨hno, hk, hkept, haw⟩
  have HL : Unit → e.kept.length = l1.length + 1 + l2.length := fun _ => by rw [hkept]; simp; omega
  clear h hno hk hkept haw
  go_enter Tryz.func182, Tryz.ntmps182
  go_wp2_with fail
  obtain ⟨W1, hW1⟩ : ∃ W1, W1 = w.alloc (.cells #[.int .i64 0, .int .i64 0, .int .i64 0, .bool false] 76) := ⟨_, rfl⟩
  have hbx : Blk W1 w.heap.size #[.int .i64 0, .int .i64 0, .int .i64 0, .bool false] 76 := by rw [hW1]; exact Blk.new _ _ _
  have hk1 : Keep nil w W1 := by rw [hW1]; exact (Keep.refl nil w).alloc _
  rw [← hW1]
  obtain ⟨xb, hxb⟩ : ∃ xb, xb = w.heap.size := ⟨_, rfl⟩
  rw [← hxb] at hbx ⊢
  have HX : Unit → Blk W1 xb #[.int .i64 0, .int .i64 0, .int .i64 0, .bool false] 76 ∧ Keep nil w W1 ∧ xb = w.heap.size := fun _ => ⟨hbx, hk1, hxb⟩
  clear hW1 hbx hk1 hxb
  go_loopw [4] (fun v wr => ∃ t : Nat, t ≤ l1.length ∧ v = .int .i64 (t : Int) ∧ Keep nil W1 wr) (fun v _ => e.kept.length - (intOf v).toNat)
  case atStart => exact ⟨0, by omega, rfl, Keep.refl _ _⟩
  case round =>
    obtain ⟨t, ht, rfl, hkw⟩ := hrel
    have HK : Unit → Keep nil W1 wr := fun _ => hkw
    have hr := (HR ()).keep ((HX ()).2.1.trans hkw) (fun _ _ x => x)
    have HRW : Unit → RRep wr b e p := fun _ => hr
    have q4 := hr.blk.cell 4
    have q3 := hr.blk.cell 3
    simp [rcells] at q3 q4
    have hbw := hr.blk.lt
    have htl : t < e.kept.length := by have := HL (); omega
    obtain ⟨x, hx⟩ : ∃ x, e.kept[t]? = some x := ⟨_, List.getElem?_eq_getElem htl⟩
    obtain ⟨g, o, hga, hgl, hcell⟩ := hr.kept_at t x hx
    rw [hga] at q4
    have m0 := hcell 0 _ rfl
    have htI : (t : Int) < (e.kept.length : Int) := by omega
    have ht2 : (t : Int) < 1000 := by have := (HN ()).2.1; omega
    by_cases htt : t < l1.length
    · as_aux_lemma =>
      have hne : ¬ x.1 = e.await := (HN ()).1 x (by
        have h2 := hx
        rw [(HN ()).2.2.1, List.getElem?_append_left htt] at h2
        exact List.mem_of_getElem? h2)
      obtain ⟨xn, xm⟩ := x
      simp only [Nat.add_zero] at m0 hne
      have hneI : ¬ (xn : Int) = (e.await : Int) := by omega
      clear hkw hr hga hcell hx hne ht
      go_wp2_with fail
      go_quiet (fail)
      go_wp2
      exact ⟨⟨t + 1, by omega, by go_num, (HK ()).drewN _⟩, by simp [intOf]; omega⟩
    · as_aux_lemma =>
      have et : t = l1.length := by omega
      have hxe : x = (e.await, m) := by
        have h2 := hx
        rw [(HN ()).2.2.1, et, List.getElem?_append_right (Nat.le_refl _)] at h2
        simp at h2
        exact h2.symm
      subst hxe
      have m1 := hcell 1 _ rfl
      have m2 := hcell 2 _ rfl
      have m3 := hcell 3 _ rfl
      have m4 := hcell 4 _ rfl
      simp only [Nat.add_zero] at m0 m1 m2 m3 m4
      have HG : Unit → p.ka = some ⟨g, o, none⟩ ∧ g < wr.heap.size ∧ t = l1.length := fun _ => ⟨hga, hgl, et⟩
      clear hkw hr hcell hx htt et ht
      go_wp2_with fail
      go_quiet (fail)
      obtain ⟨W2, hW2⟩ : ∃ W2, W2 = wr.drewN nq := ⟨_, rfl⟩
      have kd : Keep nil wr W2 := by rw [hW2]; exact (Keep.refl nil wr).drewN nq
      rw [← hW2]
      replace q3 := (kd.cell b 3 hbw (fun e => e)).trans q3
      replace q4 := (kd.cell b 4 hbw (fun e => e)).trans q4
      replace m0 := (kd.cell g _ hgl (fun e => e)).trans m0
      replace m1 := (kd.cell g _ hgl (fun e => e)).trans m1
      replace m2 := (kd.cell g _ hgl (fun e => e)).trans m2
      replace m3 := (kd.cell g _ hgl (fun e => e)).trans m3
      replace m4 := (kd.cell g _ hgl (fun e => e)).trans m4
      have hbW : b < W2.heap.size := Nat.lt_of_lt_of_le hbw kd.size
      have hgW : g < W2.heap.size := Nat.lt_of_lt_of_le hgl kd.size
      have HR2 : Unit → RRep W2 b e p ∧ Keep nil W1 W2 := fun _ => ⟨(HRW ()).keep kd (fun _ _ x => x), (HK ()).trans kd⟩
      clear hW2 kd hbw hgl
      go_upto_region 7 with fail
      obtain ⟨W3, hW3⟩ : ∃ W3, W3 = W2.alloc (.cells #[.int .i64 (m.kind : Int), .int .i64 (m.level : Int), .int .i64 (m.name : Int), .bool m.finding] 76) := ⟨_, rfl⟩
      have hmx : Blk W3 W2.heap.size #[.int .i64 (m.kind : Int), .int .i64 (m.level : Int), .int .i64 (m.name : Int), .bool m.finding] 76 := by rw [hW3]; exact Blk.new _ _ _
      have k3 : Keep nil W2 W3 := by rw [hW3]; exact (Keep.refl nil W2).alloc _
      rw [← hW3]
      obtain ⟨mb, hmb⟩ : ∃ mb, mb = W2.heap.size := ⟨_, rfl⟩
      rw [← hmb] at hmx ⊢
      have h3 := (HR2 ()).1.keep k3 (fun _ _ x => x)
      obtain ⟨vb, hvb⟩ : ∃ vb : VBo W3 g o 283 5 (kcells e.kept) p.kc, True := by
        rcases h3.krow.2.2 with ⟨e0, _⟩ | ⟨g', o', e0, hv⟩
        · rw [(HG ()).1] at e0; cases e0
        · rw [(HG ()).1] at e0; cases e0; exact ⟨hv, trivial⟩
      have hspl : kcells e.kept = kcells l1 ++ (kcell (e.await, m) ++ kcells l2) := by rw [(HN ()).2.2.1, kcells_append, kcells_cons]
      have H3 : Unit → RRep W3 b e p ∧ Keep nil W1 W3 ∧ Blk W3 mb #[.int .i64 (m.kind : Int), .int .i64 (m.level : Int), .int .i64 (m.name : Int), .bool m.finding] 76 ∧ mb = W2.heap.size ∧ VBo W3 g o 283 5 (kcells e.kept) p.kc := fun _ => ⟨h3, (HR2 ()).2.trans k3, hmx, hmb, vb⟩
      have HC1 : Unit → ∀ j u, (kcells l1)[j]? = some u → W3.cell? ((⟨g, o, none⟩ : Addr).add j) = some u := fun _ j u hu => by
        rw [Addr.add_lit]
        exact vb.cell j u (by rw [hspl, List.getElem?_append_left (List.getElem?_eq_some_iff.1 hu).1]; exact hu)
      have HC2 : Unit → ∀ j u, (kcells l2)[j]? = some u → W3.cell? ((⟨g, o + (t + 1) * 5, none⟩ : Addr).add j) = some u := fun _ j u hu => by
        rw [Addr.add_lit, Nat.add_assoc]
        refine vb.cell ((t + 1) * 5 + j) u ?_
        have hl1 : (kcells l1).length = t * 5 := by rw [kcells_len, (HG ()).2.2]
        rw [hspl, List.getElem?_append_right (by omega), hl1, List.getElem?_append_right (by rw [kcell_len]; omega), kcell_len]
        rw [show (t + 1) * 5 + j - t * 5 - 5 = j by omega]
        exact hu
      have q3' := h3.blk.cell 3
      have q4' := h3.blk.cell 4
      simp [rcells] at q3' q4'
      rw [(HG ()).1] at q4'
      have f3 := h3.blk.frozen 3
      have f4 := h3.blk.frozen 4
      have hbW3 := h3.blk.lt
      have hkcl : e.kept.length ≤ p.kc := h3.krow.2.1
      have htk : (t : Int) ≤ (p.kc : Int) := by omega
      clear hspl hvb h3 vb q3 q4 m0 m1 m2 m3 m4 hbW hW3 hmx k3 hmb
      go_upto_region 8 with (at_builtin; refine wpList_append_rv0 _ rfl (.tmp 37) (.tmp 43) 148 rfl 283 (.agg #[.int .i64 0, .int .i64 0, .int .i64 0, .int .i64 0, .bool false]) 5 40 Tryz.underlying148 kept_info rfl none 0 0 rfl [] (RV.nil _ _ _) (some ⟨g, o, none⟩) t p.kc rfl (kcells l1) (by rw [kcells_len, (HG ()).2.2]) (fun _ => ⟨_, rfl, HC1 ()⟩) (kcells_one l1) (by omega) (by omega) ?_; intro a1 k1 W4 hr4 hg4 hk4)
      simp only [Nat.zero_add, List.nil_append] at hr4
      have k4 : Keep nil W3 W4 := hk4.mono (fun i _ e => inB_none i e)
      have hg4' : ∀ k, inB a1 k → k = W3.heap.size := fun k hk => (hg4 k hk).elim (fun e => (inB_none k e).elim) id
      replace q3' := (k4.cell b 3 hbW3 (fun e => e)).trans q3'
      replace q4' := (k4.cell b 4 hbW3 (fun e => e)).trans q4'
      replace f3 := (k4.frozen b 3 hbW3 (fun e => e)).trans f3
      replace f4 := (k4.frozen b 4 hbW3 (fun e => e)).trans f4
      have hbW4 : b < W4.heap.size := Nat.lt_of_lt_of_le hbW3 k4.size
      have H4 : Unit → RRep W4 b e p ∧ Keep nil W1 W4 ∧ Blk W4 mb #[.int .i64 (m.kind : Int), .int .i64 (m.level : Int), .int .i64 (m.name : Int), .bool m.finding] 76 ∧ RV W4 283 5 a1 t k1 (kcells l1) ∧ (∀ k, inB a1 k → k = W3.heap.size) ∧ (∀ j u, (kcells l2)[j]? = some u → W4.cell? ((⟨g, o + (t + 1) * 5, none⟩ : Addr).add j) = some u) := fun _ =>
        ⟨(H3 ()).1.keep k4 (fun _ _ x => x), (H3 ()).2.1.trans k4, (H3 ()).2.2.1.keep k4 (fun e => e), hr4, hg4', fun j u hu => by
          have := HC2 () j u hu
          rw [Addr.add_lit] at this ⊢
          exact (k4.cell g _ ((H3 ()).2.2.2.2.lt) (fun e => e)).trans this⟩
      have HK34 : Unit → Keep nil W3 W4 := fun _ => k4
      clear hr4 hg4 hk4 k4 hg4' hbW3
      by_cases hkc : p.kc = t + 1
      all_goals
        go_upto_region 9 with (at_builtin; refine wpList_append_rv0 _ rfl (.tmp 46) (.tmp 53) 148 rfl 283 (.agg #[.int .i64 0, .int .i64 0, .int .i64 0, .int .i64 0, .bool false]) 5 40 Tryz.underlying148 kept_info rfl a1 t k1 rfl (kcells l1) (H4 ()).2.2.2.1 _ _ _ rfl (kcells l2) (by rw [kcells_len]; congr 1; have := HL (); have := (HG ()).2.2; omega) (fun h0 => by first | exact ⟨_, rfl, (H4 ()).2.2.2.2.2⟩ | (exfalso; have := HL (); have := (HG ()).2.2; omega)) (kcells_one l2) (by have := (HN ()).2.1; omega) (by have := (HN ()).2.1; omega) ?_; intro a2 k2 W5 hr5 hg5 hk5; have hb1 : ¬ inB a1 b := (fun x => by have h1 := (H4 ()).2.2.2.2.1 b x; have h2 := (H3 ()).1.blk.lt; omega); have q45 := (hk5.cell b 4 hbW4 hb1).trans q4'; have f45 := (hk5.frozen b 4 hbW4 hb1).trans f4; have q35 := (hk5.cell b 3 hbW4 hb1).trans q3'; have f35 := (hk5.frozen b 3 hbW4 hb1).trans f3)
        have hxw : xb < W3.heap.size := by have h1 := (HX ()).1.lt; have h2 := (H3 ()).2.1.size; omega
        have hmw : mb < W4.heap.size := (H4 ()).2.2.1.lt
        have hm1 : ¬ inB a1 mb := fun x => by have h1 := (H4 ()).2.2.2.2.1 mb x; have h2 := (H3 ()).2.2.1.lt; omega
        have hx1 : ¬ inB a1 xb := fun x => by have h1 := (H4 ()).2.2.2.2.1 xb x; omega
        have k35 : Keep nil W3 W5 := (Keep.refl nil W3).trans' (((HK34 ()).mono (ex' := inB a1) (fun _ _ e => e.elim)).trans hk5) (fun i hi x => by have h1 := (H4 ()).2.2.2.2.1 i x; omega)
        have hlen : (l1 ++ l2).length = t + (e.kept.length - (t + 1)) := by rw [List.length_append]; have := HL (); have := (HG ()).2.2; omega
        have hto := (H3 ()).1.kept_to (w1 := W5) (l1 ++ l2) a2 k2 (by rw [hlen, kcells_append]; exact hr5) (fun k hk => Or.inr (by
          rcases hg5 k hk with x | x
          · have := (H4 ()).2.2.2.2.1 k x; omega
          · have := (HK34 ()).size; omega)) (k35.mono (fun _ _ e => e.elim))
        rw [hlen] at hto
        have hset := hto.1.set (e' := { e with kept := l1 ++ l2, await := e.await + 1 }) 3 (.int .i64 ((e.await : Int) + 1)) (by simp [rcells]) rfl rfl rfl hto.1.sh hto.1.ac
        have mk : Blk W5 mb #[.int .i64 (m.kind : Int), .int .i64 (m.level : Int), .int .i64 (m.name : Int), .bool m.finding] 76 := (H4 ()).2.2.1.keep hk5 hm1
        have xk : Blk W5 xb #[.int .i64 0, .int .i64 0, .int .i64 0, .bool false] 76 := ((HX ()).1.keep (H4 ()).2.1 (fun e => e)).keep hk5 hx1
        have HQ : Unit → RRep ((W5.setCell ⟨b, 4, none⟩ (.slice a2 (t + (e.kept.length - (t + 1))) k2)).setCell ⟨b, 3, none⟩ (.int .i64 ((e.await : Int) + 1))) b { e with kept := l1 ++ l2, await := e.await + 1 } { p with ka := a2, kc := k2 } ∧ RStep W3 ((W5.setCell ⟨b, 4, none⟩ (.slice a2 (t + (e.kept.length - (t + 1))) k2)).setCell ⟨b, 3, none⟩ (.int .i64 ((e.await : Int) + 1))) b p { p with ka := a2, kc := k2 } := fun _ => ⟨hset.1, hto.2.trans hset.2⟩
        have hbx : b < xb := by have h1 := (HR ()).blk.lt; have h2 := (HX ()).2.2; omega
        have hbm : b < mb := by have h1 := (HR2 ()).1.blk.lt; have h2 := (H3 ()).2.2.2.1; omega
        have hxm : xb < mb := by have h1 := (HX ()).1.lt; have h2 := (H3 ()).2.2.2.1; have h3 := (HR2 ()).2.size; omega
        have HXW : Unit → ∀ W : World, Keep (only xb) W ((((W.setCell ⟨xb, 0, none⟩ (.int .i64 (m.kind : Int))).setCell ⟨xb, 1, none⟩ (.int .i64 (m.level : Int))).setCell ⟨xb, 2, none⟩ (.int .i64 (m.name : Int))).setCell ⟨xb, 3, none⟩ (.bool m.finding)) := fun _ W => ((((Keep.refl (only xb) W).setCell (p := ⟨xb, 0, none⟩) (fun _ => rfl) _).setCell (p := ⟨xb, 1, none⟩) (fun _ => rfl) _).setCell (p := ⟨xb, 2, none⟩) (fun _ => rfl) _).setCell (p := ⟨xb, 3, none⟩) (fun _ => rfl) _
        have mc0 := mk.cell 0
        have mc1 := mk.cell 1
        have mc2 := mk.cell 2
        have mc3 := mk.cell 3
        have xc0 := xk.cell 0
        have xc1 := xk.cell 1
        have xc2 := xk.cell 2
        have xc3 := xk.cell 3
        have xf0 := xk.frozen 0
        have xf1 := xk.frozen 1
        have xf2 := xk.frozen 2
        have xf3 := xk.frozen 3
        have hml := mk.lt
        have hxl := xk.lt
        simp at mc0 mc1 mc2 mc3 xc0 xc1 xc2 xc3
        have hn1 : ¬ b = mb := by omega
        have hn2 : ¬ b = xb := by omega
        have hn3 : ¬ mb = b := by omega
        have hn4 : ¬ xb = b := by omega
        have hn5 : ¬ xb = mb := by omega
        have hn6 : ¬ mb = xb := by omega
        have hawI : (e.await : Int) ≤ 65536 := by have := (HN ()).2.2.2; omega
        have hbW5 : b < W5.heap.size := by have := hk5.size; omega
        have HXF0 : Unit → Blk ((((((W5.setCell ⟨b, 4, none⟩ (.slice a2 (t + (e.kept.length - (t + 1))) k2)).setCell ⟨b, 3, none⟩ (.int .i64 ((e.await : Int) + 1))).setCell ⟨xb, 0, none⟩ (.int .i64 (m.kind : Int))).setCell ⟨xb, 1, none⟩ (.int .i64 (m.level : Int))).setCell ⟨xb, 2, none⟩ (.int .i64 (m.name : Int))).setCell ⟨xb, 3, none⟩ (.bool m.finding)) xb #[.int .i64 (m.kind : Int), .int .i64 (m.level : Int), .int .i64 (m.name : Int), .bool m.finding] 76 := fun _ => by
          have kb : Keep (only b) W5 ((W5.setCell ⟨b, 4, none⟩ (.slice a2 (t + (e.kept.length - (t + 1))) k2)).setCell ⟨b, 3, none⟩ (.int .i64 ((e.await : Int) + 1))) := ((Keep.refl (only b) W5).setCell (p := ⟨b, 4, none⟩) (fun _ => rfl) _).setCell (p := ⟨b, 3, none⟩) (fun _ => rfl) _
          exact ((((xk.keep kb hn4).set 0 (.int .i64 (m.kind : Int))).set 1 (.int .i64 (m.level : Int))).set 2 (.int .i64 (m.name : Int))).set 3 (.bool m.finding)
        clear hr5 hg5 hk5 k35 hto hset mk xk hlen hm1 hx1 hb1 hmw hxw hbx hbm hxm q3' q4' f3 f4 hbW4 htk hkcl htI ht2 htl
        have HXF : Unit → Blk ((((((W5.setCell ⟨b, 4, none⟩ (.slice a2 (t + (e.kept.length - (t + 1))) k2)).setCell ⟨b, 3, none⟩ (.int .i64 ((e.await : Int) + 1))).setCell ⟨xb, 0, none⟩ (.int .i64 (m.kind : Int))).setCell ⟨xb, 1, none⟩ (.int .i64 (m.level : Int))).setCell ⟨xb, 2, none⟩ (.int .i64 (m.name : Int))).setCell ⟨xb, 3, none⟩ (.bool m.finding)) xb #[.int .i64 (m.kind : Int), .int .i64 (m.level : Int), .int .i64 (m.name : Int), .bool m.finding] 76 := HXF0
        clear HXF0
        go_wp2
        obtain ⟨WF, hWF⟩ : ∃ WF, WF = ((((((W5.setCell ⟨b, 4, none⟩ (.slice a2 (t + (e.kept.length - (t + 1))) k2)).setCell ⟨b, 3, none⟩ (.int .i64 ((e.await : Int) + 1))).setCell ⟨xb, 0, none⟩ (.int .i64 (m.kind : Int))).setCell ⟨xb, 1, none⟩ (.int .i64 (m.level : Int))).setCell ⟨xb, 2, none⟩ (.int .i64 (m.name : Int))).setCell ⟨xb, 3, none⟩ (.bool m.finding)) := ⟨_, rfl⟩
        rw [← hWF]
        have HF : Unit → RRep WF b { e with kept := l1 ++ l2, await := e.await + 1 } { p with ka := a2, kc := k2 } ∧ RStep w WF b p { p with ka := a2, kc := k2 } := fun _ => by
          have hx := (HX ()).2.2
          have hxlt := (HX ()).1.lt
          have h13 := (H3 ()).2.1.size
          have hnm : ¬ RMine b { p with ka := a2, kc := k2 } xb := fun x => by
            rcases (HQ ()).2.mine xb x with y | y
            · have := (HR ()).lt xb y; omega
            · omega
          have kx := HXW () ((W5.setCell ⟨b, 4, none⟩ (.slice a2 (t + (e.kept.length - (t + 1))) k2)).setCell ⟨b, 3, none⟩ (.int .i64 ((e.await : Int) + 1)))
          rw [← hWF] at kx
          refine ⟨(HQ ()).1.keep kx (fun i hi e => by simp only [only] at e; rw [e] at hi; exact hnm hi), ?_⟩
          have k03 : Keep nil w W3 := (HX ()).2.1.trans (H3 ()).2.1
          have s := (RStep.of_keep b p k03).trans (HQ ()).2
          exact ⟨s.wri, s.gs, s.keep.trans' kx (fun i hi e => by simp only [only] at e; omega)⟩
        have hxF := HXF ()
        rw [← hWF] at hxF
        have y0 := hxF.cell 0
        have y1 := hxF.cell 1
        have y2 := hxF.cell 2
        have y3 := hxF.cell 3
        simp at y0 y1 y2 y3
        clear hWF hxF HXF HXW HQ HX H3 H4 HR2 HK34 HG HK HRW mc0 mc1 mc2 mc3 xc0 xc1 xc2 xc3 xf0 xf1 xf2 xf3 hml hxl hn1 hn2 hn3 hn4 hn5 hn6 q45 f45 q35 f35 hbW5 hawI HC1 HC2
        refine bodyPost_ret (v := .tuple #[mv m, .bool true]) ?_ rfl ?_
        · rw [results_cell_tmp rfl]
          unfold loadVar
          go_simp
        · exact ⟨rfl, { p with ka := a2, kc := k2 }, (HF ()).1, (HF ()).2⟩
end Go.Proofs.YtlfijfodklhplaaGreat
