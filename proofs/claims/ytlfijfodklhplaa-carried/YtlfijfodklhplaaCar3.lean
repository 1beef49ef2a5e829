/- A frame is taken out of a bag, and comes: walk of taken. -/
import Derived.Test.YtlfijfodklhplaaCar2
import Derived.BigRegion
namespace Go.Proofs.Ytlfijfodklhplaa
open Go.RowKit
set_option linter.unusedVariables false
set_option linter.unusedSimpArgs false

theorem bvals_erase (gs : List (Nat × Nat)) (l : List Fr.Frm) (h : gs.length = l.length) (z : Nat) : (bvals gs l).take z ++ (bvals gs l).drop (z + 1) = bvals (gs.eraseIdx z) (l.eraseIdx z) := by
  rw [List.eraseIdx_eq_take_drop_succ, List.eraseIdx_eq_take_drop_succ]
  unfold bvals
  rw [List.zipWith_append (by simp; omega), List.take_zipWith, List.drop_zipWith]
theorem bvals_get (gs : List (Nat × Nat)) (l : List Fr.Frm) (i : Nat) (g : Nat × Nat) (f : Fr.Frm) (hg : gs[i]? = some g) (hf : l[i]? = some f) : (bvals gs l)[i]? = some (bval g f) := by
  unfold bvals
  rw [List.getElem?_zipWith, hg, hf]
theorem bvals_one (gs : List (Nat × Nat)) (l : List Fr.Frm) : ∀ u ∈ bvals gs l, u.oneCell' = true := by
  intro u hu
  obtain ⟨i, hi, rfl⟩ := List.getElem_of_mem hu
  simp [bvals, bval, Value.oneCell']
theorem bvals_len (gs : List (Nat × Nat)) (l : List Fr.Frm) (h : gs.length = l.length) : (bvals gs l).length = l.length := by simp [bvals, h]

/-- A frame was taken out of the bag of c, and came to the other end. -/
structure Came (s s' : Cy) (c d k : Nat) (f : Fr.Frm) : Prop where
  is : (s.bag c)[k]? = some f
  e : s'.e = upd s.e d ((s.e d).deliver f)
  bag : s'.bag = upd s.bag c ((s.bag c).eraseIdx k)
  sent : s'.sent = s.sent
  got : s'.got = upd s.got c (s.got c + ((s.e d).heard f).length)

/-- What stands when the frame is out of the bag. -/
theorem CS.out_of {w0 w W2 : World} {x : Fx} {s : Cy} {tag : Nat → Nat} (h : CS w0 w x s tag) (c : Nat) (hc : c < 2) (z : Nat) (g : Nat × Nat) (f : Fr.Frm) (hg : (s.g c)[z]? = some g) (hf : (s.bag c)[z]? = some f) (a' : Option Addr) (ca' N : Nat) (hN : N = ((s.bag c).eraseIdx z).length)
    (k2 : Keep nil w W2) (hr2 : RV W2 27 1 a' N ca' ((bvals (s.g c) (s.bag c)).take z ++ (bvals (s.g c) (s.bag c)).drop (z + 1))) (hin : ∀ k, inB a' k → w.heap.size ≤ k) :
    (∃ tag', CS w0 (W2.setCell ⟨x.tb, c, none⟩ (.slice a' N ca')) x { s with bag := upd s.bag c ((s.bag c).eraseIdx z), g := upd s.g c ((s.g c).eraseIdx z), a := upd s.a c a', ca := upd s.ca c ca' } tag') ∧ Buf (W2.setCell ⟨x.tb, c, none⟩ (.slice a' N ca')) g.1 (Fr.enc f) g.2 ∧ FrOk f := by
  have hgl := h.gl c hc
  rw [bvals_erase _ _ hgl] at hr2
  have hlt : z < (s.bag c).length := (List.getElem?_eq_some_iff.1 hf).1
  have get_erase : ∀ {α : Type} (l : List α) (i : Nat) (y : α), (l.eraseIdx z)[i]? = some y → l[if i < z then i else i + 1]? = some y := by
    intro α l i y hy
    rw [List.getElem?_eraseIdx] at hy
    split at hy
    · rename_i hi; rw [if_pos hi]; exact hy
    · rename_i hi; rw [if_neg hi]; exact hy
  subst hN
  obtain ⟨tag', h1, _⟩ := h.setBag c hc ((s.bag c).eraseIdx z) ((s.g c).eraseIdx z) a' ca' (k2.mono (fun _ _ e => e.elim)) hr2 (fun k hk => Or.inr (hin k hk))
    (by rw [List.length_eraseIdx, List.length_eraseIdx, hgl])
    (fun i g f hg hf => h.buf c hc _ g f (get_erase _ i g hg) (get_erase _ i f hf)) (fun f hf => h.fok c hc f (List.mem_of_mem_eraseIdx hf)) (fun k hk => h.tg c hc k (List.mem_of_mem_eraseIdx hk))
  refine ⟨⟨tag', h1⟩, ?_, h.fok c hc f (List.mem_of_getElem? hf)⟩
  have ks : Keep (only x.tb) W2 (W2.setCell ⟨x.tb, c, none⟩ (.slice a' ((s.bag c).eraseIdx z).length ca')) := (Keep.refl (only x.tb) W2).setCell (p := ⟨x.tb, c, none⟩) (fun _ => rfl) _
  refine ((h.buf c hc z g f hg hf).keep k2 (fun e => e)).keep ks (fun e => ?_)
  have h2 := h.tg c hc g (List.mem_of_getElem? hg)
  rw [show g.1 = x.tb from e, h.t6] at h2
  omega
theorem upd_same {α : Type} (f : Nat → α) (c : Nat) : upd f c (f c) = f := by
  funext i
  unfold upd
  split
  · rename_i h; rw [h]
  · rfl

set_option maxRecDepth 100000 in
set_option maxHeartbeats 4000000 in
theorem taken_any (w0 w : World) (x : Fx) (s : Cy) (tag : Nat → Nat) (h : CS w0 w x s tag) (c d : Nat) (hc : c < 2) (hd : d < 2) (hcd : c ≠ d) (which : Int) (hw0 : -9223372036854775808 ≤ which) (hw1 : which ≤ 9223372036854775807)
    (hb : Both (s.e c) (s.e d) (s.bag c) (s.bag d) (s.sent c) (s.sent d) (s.got c) (s.got d)) (hlen : ((s.bag c).length : Int) < 30000) (hs : (s.sent c : Int) < 30000) (ho : ((s.e d).out.length : Int) < 30000) :
    Calls Try.prog 13 #[.pointer (some ⟨x.b d, 0, none⟩), .pointer (some ⟨x.tb, c, none⟩), .int .i64 which, .pointer (some ⟨x.gb, c, none⟩), .int .i64 (s.sent c : Int)] w fun r w' =>
      r = .returned (.bool true) ∧ ∃ s' tag', CS w0 w' x s' tag' ∧ ((s' = s ∧ ¬ (which = 0 ∧ 0 < (s.bag c).length)) ∨ ∃ k f, (which = 0 → k = 0) ∧ Came s s' c d k f) := by
  have q0 : w.cell? ⟨x.tb, c, none⟩ = some (.slice (s.a c) (s.bag c).length (s.ca c)) := by
    have := h.bags.cell c
    rw [two_get _ _ hc] at this
    exact this
  have f0 := h.bags.frozen c
  have HH : Unit → CS w0 w x s tag := fun _ => h
  have HB : Unit → Both (s.e c) (s.e d) (s.bag c) (s.bag d) (s.sent c) (s.sent d) (s.got c) (s.got d) := fun _ => hb
  have HO : Unit → ((s.e d).out.length : Int) < 30000 := fun _ => ho
  have HS : Unit → (s.sent c : Int) < 30000 := fun _ => hs
  have hrow := h.row c hc
  have hgl := h.gl c hc
  clear h hb ho hs
  obtain ⟨L, hL⟩ : ∃ L, L = (s.bag c).length := ⟨_, rfl⟩
  obtain ⟨cv, hcv⟩ : ∃ cv, cv = s.ca c := ⟨_, rfl⟩
  rw [← hL, ← hcv] at q0
  rw [← hL] at hlen hgl
  rw [← hL, ← hcv] at hrow
  have HL : Unit → L = (s.bag c).length ∧ cv = s.ca c ∧ (s.g c).length = L := fun _ => ⟨hL, hcv, hgl⟩
  clear hL hcv
  by_cases hL0 : L = 0
  · have HR0 : Unit → L = 0 := fun _ => hL0
    rw [hL0] at q0
    clear hL0 hrow hgl
    go_enter Try.func13, Try.ntmps13
    go_wp2_with fail
    refine (pick_all which 1 hw0 hw1 (by omega) (by omega) _).mono ?_
    rintro r w' ⟨z, rfl, hz, hz0, rfl⟩
    have hze : z = 0 := by omega
    subst hze
    clear hz hz0
    go_wp2
    go_ret
    exact ⟨rfl, s, tag, HH (), Or.inl ⟨rfl, fun ⟨e1, e2⟩ => by have := HL (); have := HR0 (); omega⟩⟩
  obtain ⟨ab, ao, ha⟩ : ∃ ab ao, s.a c = some ⟨ab, ao, none⟩ := by
    rcases hrow.2.2 with ⟨_, h0, _⟩ | ⟨g, o, h0, _⟩
    · exact absurd h0 hL0
    · exact ⟨g, o, h0⟩
  rw [ha] at hrow q0
  obtain ⟨hv0, hv1, hv2⟩ := hrow
  have hvb : VBo w ab ao 27 1 (bvals (s.g c) (s.bag c)) cv := by
    rcases hv2 with ⟨h0, _⟩ | ⟨g', o', h0, hv⟩
    · cases h0
    · cases h0; exact hv
  have habl := hvb.lt
  have HV : Unit → VBo w ab ao 27 1 (bvals (s.g c) (s.bag c)) cv ∧ s.a c = some ⟨ab, ao, none⟩ := fun _ => ⟨hvb, ha⟩
  clear hv0 hv2 hvb ha hgl
  go_enter Try.func13, Try.ntmps13
  go_wp2_with fail
  refine (pick_all which ((L : Int) + 1) hw0 hw1 (by omega) (by omega) _).mono ?_
  rintro r w' ⟨z, rfl, hz, hz0, rfl⟩
  have HZ0 : Unit → (which = 0 → z = 0) := fun _ => hz0
  clear hz0 hw0 hw1
  by_cases hzl : z < L
  · obtain ⟨g, hg⟩ : ∃ g, (s.g c)[z]? = some g := ⟨_, List.getElem?_eq_getElem (by have := HL (); omega)⟩
    obtain ⟨f, hf⟩ : ∃ f, (s.bag c)[z]? = some f := ⟨_, List.getElem?_eq_getElem (by have := HL (); omega)⟩
    have cz := (HV ()).1.cell z _ (bvals_get _ _ z g f hg hf)
    have R1 : Reads w (some ⟨ab, ao, none⟩) z 1 ((bvals (s.g c) (s.bag c)).take z) := ⟨by rw [List.length_take, bvals_len _ _ (by have := HL (); omega)]; have := HL (); omega, fun _ => ⟨_, rfl, fun j u hu => by
      rw [Addr.add_lit]
      have hj := (List.getElem?_eq_some_iff.1 hu).1
      rw [List.length_take] at hj
      rw [List.getElem?_take_of_lt (by omega)] at hu
      exact (HV ()).1.cell j u hu⟩⟩
    have R2 : ∀ W1, Keep nil w W1 → Reads W1 (some ⟨ab, ao + (z + 1), none⟩) (L - (z + 1)) 1 ((bvals (s.g c) (s.bag c)).drop (z + 1)) := fun W1 k1 => ⟨by rw [List.length_drop, bvals_len _ _ (by have := HL (); omega)]; have := HL (); omega, fun _ => ⟨_, rfl, fun j u hu => by
      rw [Addr.add_lit, Nat.add_assoc]
      rw [List.getElem?_drop] at hu
      exact (k1.cell ab _ habl (fun x => x)).trans ((HV ()).1.cell _ u hu)⟩⟩
    have R3 : ∀ W1, cv = z + 1 → Reads W1 (some ⟨ab, ao, none⟩) 0 1 ((bvals (s.g c) (s.bag c)).drop (z + 1)) := fun W1 hcv => ⟨by rw [List.length_drop, bvals_len _ _ (by have := HL (); omega)]; have := HL (); omega, fun h0 => by omega⟩
    have HX : Unit → _ := fun _ => (⟨hg, hf, R1, R2, R3⟩ : _ ∧ _ ∧ _ ∧ _ ∧ _)
    clear hg hf R1 R2 R3 hz
    have hzI : (z : Int) < (L : Int) := by omega
    have HONE : Unit → ∀ l : List Value, (∀ u ∈ l, u ∈ bvals (s.g c) (s.bag c)) → ∀ u ∈ l, u.oneCell' = true := fun _ l hl u hu => bvals_one _ _ u (hl u hu)
    have hwz : IntKind.i64.wrap ((z : Int) + 1) = (z : Int) + 1 := by rw [IntKind.wrap_i64]; omega
    have HLEN : Unit → (L : Int) < 30000 := fun _ => hlen
    clear hlen
    rcases Decidable.em (cv = z + 1) with hc1 | hc1
    · have hL1 : L = z + 1 := by omega
      subst hL1
      have HC1 : Unit → cv = z + 1 := fun _ => hc1
      rw [hc1] at q0
      clear hc1 hv1
      go_wp2_with (first
        | (at_builtin; refine wpList_append_rr _ rfl (.tmp 35) (.tmp 40) 38 rfl 27 (.slice none 0 0) 1 24 Try.underlying38 list_info rfl none 0 0 rfl [] (RV.nil _ _ _) (some ⟨ab, ao, none⟩) z (z + 1) rfl ((bvals (s.g c) (s.bag c)).take z) (HX ()).2.2.1 (HONE () _ (fun u hu => List.mem_of_mem_take hu)) (by have := HLEN (); omega) (by have := HLEN (); omega) ?_; intro ar cr W1 hr1 hg1 hk1; have k1 : Keep nil w W1 := hk1.mono (fun _ _ e => (inB_none _ e).elim); have q1 := (k1.cell x.tb c (HH ()).bags.lt (fun e => e)).trans q0; rw [Nat.zero_add, List.nil_append] at hr1)
        | (at_builtin; refine wpList_append_rr _ rfl (.tmp 43) (.tmp 49) 38 rfl 27 (.slice none 0 0) 1 24 Try.underlying38 list_info rfl ar z cr (by simp [Act.eval, Act.put]) ((bvals (s.g c) (s.bag c)).take z) hr1 (some ⟨ab, ao, none⟩) 0 0 (by simp [Act.eval, Act.put]) ((bvals (s.g c) (s.bag c)).drop (z + 1)) ((HX ()).2.2.2.2 W1 (HC1 ())) (HONE () _ (fun u hu => List.mem_of_mem_drop hu)) (by have := HLEN (); omega) (by have := HLEN (); omega) ?_; intro a' ca' W2 hr2 hg2 hk2; have k2 : Keep nil w W2 := k1.trans' hk2 (fun i hi e => (hg1 i e).elim (fun y => inB_none _ y) (fun y => by omega)); have q2 := (k2.cell x.tb c (HH ()).bags.lt (fun e => e)).trans q0; have f2 := (k2.frozen x.tb c (HH ()).bags.lt (fun e => e)).trans f0))
      have hN : z = ((s.bag c).eraseIdx z).length := by
        rw [List.length_eraseIdx]
        have := HL ()
        rw [if_pos (by omega)]
        omega
      rw [Nat.add_zero] at hr2
      clear q0 q1 q2 f2 cz hwz
      obtain ⟨⟨tag1, hcs1⟩, hbuf, hfok⟩ := (HH ()).out_of c hc z g f (HX ()).1 (HX ()).2.1 a' ca' _ hN k2 hr2 (fun k hk => (hg2 k hk).elim (fun y => (hg1 k y).elim (fun y => (inB_none _ y).elim) (fun y => by omega)) (fun y => by rw [y]; exact k1.size))
      clear hr2 hg2 hk2 hr1 hg1 hk1 hN k2
      refine (in_frm zero24 62 (x.b d) 0 (s.e d) (s.p d) g f hfok _ (hcs1.rep d hd) hbuf (by have := HO (); omega)).mono ?_
      rintro r W4 ⟨v, p4, rfl, ⟨ta, tc, rfl, hrv, hta⟩, hr4, hs4⟩
      obtain ⟨tag2, hcs2, _⟩ := hcs1.step d hd ((s.e d).deliver f) p4 hr4 hs4
      have hpure := (HB ()).deliver f (List.mem_of_getElem? (HX ()).2.1)
      have hgb := hcs1.gots.lt
      have HTA : Unit → ∀ k, inB ta k → k ≠ x.gb := fun _ k hk e => by have := (hta k hk).1; omega
      have HP : Unit → _ := fun _ => hpure.2.1
      clear hr4 hs4 hta hpure hbuf hgb
      obtain ⟨l, hl⟩ : ∃ l, l = (s.e d).heard f := ⟨_, rfl⟩
      rw [← hl] at hrv ⊢
      have HP2 : Unit → ∀ i m, l[i]? = some m → m = rmsg (s.got c + i) ∧ s.got c + i < s.sent c := fun _ => by rw [hl]; exact HP ()
      have HLL : Unit → l = (s.e d).heard f := fun _ => hl
      clear hl HP
      obtain ⟨n, hn⟩ : ∃ n, n = l.length := ⟨_, rfl⟩
      rw [← hn] at hrv ⊢
      have HN : Unit → n = l.length := fun _ => hn
      clear hn
      obtain ⟨s2, hs2⟩ : ∃ s2 : Cy, s2 = { s with bag := upd s.bag c ((s.bag c).eraseIdx z), g := upd s.g c ((s.g c).eraseIdx z), a := upd s.a c a', ca := upd s.ca c ca', e := upd s.e d ((s.e d).deliver f), p := upd s.p d p4 } := ⟨_, rfl⟩
      have h2 : CS w0 W4 x s2 tag2 := by rw [hs2]; exact hcs2
      have HS2 : Unit → _ := fun _ => hs2
      have HC2 : Unit → CS w0 W4 x s2 tag2 := fun _ => h2
      have HRV : Unit → RV W4 24 4 ta n tc (mcells l) := fun _ => hrv
      clear hcs1 hcs2 h2 hs2 hrv
      go_wp2_with fail
      go_loopw [15] (fun v wr => ∃ j : Nat, j ≤ n ∧ v = .int .i64 (j : Int) ∧ CS w0 wr x { s2 with got := upd s2.got c (s.got c + j) } tag2 ∧ RV wr 24 4 ta n tc (mcells l)) (fun v _ => n - (intOf v).toNat)
      case atStart =>
        refine ⟨0, by omega, rfl, ?_, HRV ()⟩
        have e1 : s2.got = s.got := by rw [HS2 ()]
        rw [e1, Nat.add_zero, upd_same, ← e1]
        exact HC2 ()
      case round =>
        obtain ⟨j, hj, rfl, hcs, hrv⟩ := hrel
        by_cases hjn : j < n
        · obtain ⟨m, hm⟩ : ∃ m, l[j]? = some m := ⟨_, List.getElem?_eq_getElem (by have := HN (); omega)⟩
          obtain ⟨hmq, hqs⟩ := HP2 () j m hm
          obtain ⟨q, hq⟩ : ∃ q, q = s.got c + j := ⟨_, rfl⟩
          rw [← hq] at hmq hqs hcs
          obtain ⟨tb', to, hta⟩ : ∃ tb' to, ta = some ⟨tb', to, none⟩ := by
            rcases hrv.2.2 with ⟨_, h0, _⟩ | ⟨g, o, h0, _⟩
            · omega
            · exact ⟨g, o, h0⟩
          have hvb : VBo wr tb' to 24 4 (mcells l) tc := by
            rcases hrv.2.2 with ⟨h0, _⟩ | ⟨g', o', h0, hv⟩
            · rw [hta] at h0; cases h0
            · rw [hta] at h0; cases h0; exact hv
          have htl := hvb.lt
          have mc : ∀ i u, (mcell (rmsg q))[i]? = some u → wr.cell? ⟨tb', to + j * 4 + i, none⟩ = some u := fun i u hu => by
            have hi : i < 4 := by have := (List.getElem?_eq_some_iff.1 hu).1; simpa [mcell] using this
            have := hvb.cell (j * 4 + i) u (by rw [mcells_get l j m hm i hi, hmq]; exact hu)
            rw [← Nat.add_assoc] at this
            exact this
          have c0 := mc 0 _ rfl
          have c1 := mc 1 _ rfl
          have c2 := mc 2 _ rfl
          have c3 := mc 3 _ rfl
          rw [Nat.add_zero] at c0
          have qg : wr.cell? ⟨x.gb, c, none⟩ = some (.int .i64 (q : Int)) := by
            have := hcs.gots.cell c
            rw [two_get _ _ hc] at this
            simpa only [upd_self] using this
          have fg := hcs.gots.frozen c
          have hgl := hcs.gots.lt
          have hqI : (q : Int) < (s.sent c : Int) := by omega
          have hdec : decide (s.sent c ≤ q) = false := decide_eq_false (by omega)
          have HQ : Unit → (q : Int) < 1000000 := fun _ => by have := HS (); omega
          have hwq : IntKind.i64.wrap ((q : Int) + 1) = (q : Int) + 1 := by rw [IntKind.wrap_i64]; have := HS (); omega
          have hwj : IntKind.i64.wrap ((j : Int) + 1) = (j : Int) + 1 := by rw [IntKind.wrap_i64]; have := HS (); omega
          have HCS : Unit → _ := fun _ => (⟨hcs, hrv, hq⟩ : _ ∧ _ ∧ _)
          have hjI : (j : Int) < (n : Int) := by omega
          have htv : ta = some ⟨tb', to, none⟩ := hta
          subst htv
          clear hcs hrv hq hta hvb mc hmq hm hqs
          go_wp2_with fail
          go_region_with (go_at_call 10; refine (message_any q (HQ ()) _).mono ?_; rintro r w5 ⟨rfl, hk5⟩; have d0 := (hk5.cell tb' (to + j * 4) htl (fun e => e)).trans c0; have d1 := (hk5.cell tb' (to + j * 4 + 1) htl (fun e => e)).trans c1; have d2 := (hk5.cell tb' (to + j * 4 + 2) htl (fun e => e)).trans c2; have d3 := (hk5.cell tb' (to + j * 4 + 3) htl (fun e => e)).trans c3; have d4 := (hk5.cell x.gb c hgl (fun e => e)).trans qg; have d5 := (hk5.frozen x.gb c hgl (fun e => e)).trans fg)
          all_goals
            go_wp2
            go_roundw
            case rel =>
              obtain ⟨hcs, hrv, hq⟩ := HCS ()
              have kq : Keep nil wr w5 := ((Keep.refl nil wr).drew).trans hk5
              have ks : Keep (only x.gb) w5 (w5.setCell ⟨x.gb, c, none⟩ (.int .i64 ((q : Int) + 1))) := (Keep.refl (only x.gb) w5).setCell (p := ⟨x.gb, c, none⟩) (fun _ => rfl) _
              have h6 := (hcs.same kq (fun _ _ _ e => e)).setGot c hc (q + 1)
              refine ⟨j + 1, by omega, by go_num, ?_, (hrv.keep kq (fun _ _ e => e)).keep ks (fun k hk => HTA () k hk)⟩
              have e1 : upd (upd s2.got c q) c (q + 1) = upd s2.got c (s.got c + (j + 1)) := by
                funext i
                unfold upd
                split
                · omega
                · rfl
              have h7 : CS w0 (w5.setCell ⟨x.gb, c, none⟩ (.int .i64 ((q + 1 : Nat) : Int))) x { s2 with got := upd s2.got c (s.got c + (j + 1)) } tag2 := by rw [← e1]; exact h6
              exact h7
            case measure => simp [intOf]; omega
        · have hnj : (n : Int) ≤ (j : Int) := by omega
          have HCS : Unit → _ := fun _ => (⟨hcs, hrv⟩ : _ ∧ _)
          have HJ : Unit → j = n := fun _ => by omega
          clear hcs hrv
          go_wp2
          go_ret
          refine ⟨rfl, _, tag2, (HCS ()).1, Or.inr ⟨z, f, HZ0 (), (HX ()).2.1, ?_, ?_, ?_, ?_⟩⟩
          · rw [HS2 ()]
          · rw [HS2 ()]
          · rw [HS2 ()]
          · rw [HJ (), HN (), HLL (), HS2 ()]
    · have hc2 : ¬ cv - (z + 1) = 0 := by omega
      go_wp2_with (first
        | (at_builtin; refine wpList_append_rr _ rfl (.tmp 35) (.tmp 40) 38 rfl 27 (.slice none 0 0) 1 24 Try.underlying38 list_info rfl none 0 0 rfl [] (RV.nil _ _ _) (some ⟨ab, ao, none⟩) z cv rfl ((bvals (s.g c) (s.bag c)).take z) (HX ()).2.2.1 (HONE () _ (fun u hu => List.mem_of_mem_take hu)) (by have := HLEN (); omega) (by have := HLEN (); omega) ?_; intro ar cr W1 hr1 hg1 hk1; have k1 : Keep nil w W1 := hk1.mono (fun _ _ e => (inB_none _ e).elim); have q1 := (k1.cell x.tb c (HH ()).bags.lt (fun e => e)).trans q0; rw [Nat.zero_add, List.nil_append] at hr1)
        | (at_builtin; refine wpList_append_rr _ rfl (.tmp 43) (.tmp 49) 38 rfl 27 (.slice none 0 0) 1 24 Try.underlying38 list_info rfl ar z cr (by simp [Act.eval, Act.put]) ((bvals (s.g c) (s.bag c)).take z) hr1 (some ⟨ab, ao + (z + 1), none⟩) (L - (z + 1)) (cv - (z + 1)) (by simp [Act.eval, Act.put]) ((bvals (s.g c) (s.bag c)).drop (z + 1)) ((HX ()).2.2.2.1 W1 k1) (HONE () _ (fun u hu => List.mem_of_mem_drop hu)) (by have := HLEN (); omega) (by have := HLEN (); omega) ?_; intro a' ca' W2 hr2 hg2 hk2; have k2 : Keep nil w W2 := k1.trans' hk2 (fun i hi e => (hg1 i e).elim (fun y => inB_none _ y) (fun y => by omega)); have q2 := (k2.cell x.tb c (HH ()).bags.lt (fun e => e)).trans q0; have f2 := (k2.frozen x.tb c (HH ()).bags.lt (fun e => e)).trans f0))
      have hN : z + (L - (z + 1)) = ((s.bag c).eraseIdx z).length := by
        rw [List.length_eraseIdx]
        have := HL ()
        rw [if_pos (by omega)]
        omega
      clear q0 q1 q2 f2 cz hwz
      obtain ⟨⟨tag1, hcs1⟩, hbuf, hfok⟩ := (HH ()).out_of c hc z g f (HX ()).1 (HX ()).2.1 a' ca' _ hN k2 hr2 (fun k hk => (hg2 k hk).elim (fun y => (hg1 k y).elim (fun y => (inB_none _ y).elim) (fun y => by omega)) (fun y => by rw [y]; exact k1.size))
      clear hr2 hg2 hk2 hr1 hg1 hk1 hN k2
      refine (in_frm zero24 62 (x.b d) 0 (s.e d) (s.p d) g f hfok _ (hcs1.rep d hd) hbuf (by have := HO (); omega)).mono ?_
      rintro r W4 ⟨v, p4, rfl, ⟨ta, tc, rfl, hrv, hta⟩, hr4, hs4⟩
      obtain ⟨tag2, hcs2, _⟩ := hcs1.step d hd ((s.e d).deliver f) p4 hr4 hs4
      have hpure := (HB ()).deliver f (List.mem_of_getElem? (HX ()).2.1)
      have hgb := hcs1.gots.lt
      have HTA : Unit → ∀ k, inB ta k → k ≠ x.gb := fun _ k hk e => by have := (hta k hk).1; omega
      have HP : Unit → _ := fun _ => hpure.2.1
      clear hr4 hs4 hta hpure hbuf hgb
      obtain ⟨l, hl⟩ : ∃ l, l = (s.e d).heard f := ⟨_, rfl⟩
      rw [← hl] at hrv ⊢
      have HP2 : Unit → ∀ i m, l[i]? = some m → m = rmsg (s.got c + i) ∧ s.got c + i < s.sent c := fun _ => by rw [hl]; exact HP ()
      have HLL : Unit → l = (s.e d).heard f := fun _ => hl
      clear hl HP
      obtain ⟨n, hn⟩ : ∃ n, n = l.length := ⟨_, rfl⟩
      rw [← hn] at hrv ⊢
      have HN : Unit → n = l.length := fun _ => hn
      clear hn
      obtain ⟨s2, hs2⟩ : ∃ s2 : Cy, s2 = { s with bag := upd s.bag c ((s.bag c).eraseIdx z), g := upd s.g c ((s.g c).eraseIdx z), a := upd s.a c a', ca := upd s.ca c ca', e := upd s.e d ((s.e d).deliver f), p := upd s.p d p4 } := ⟨_, rfl⟩
      have h2 : CS w0 W4 x s2 tag2 := by rw [hs2]; exact hcs2
      have HS2 : Unit → _ := fun _ => hs2
      have HC2 : Unit → CS w0 W4 x s2 tag2 := fun _ => h2
      have HRV : Unit → RV W4 24 4 ta n tc (mcells l) := fun _ => hrv
      clear hcs1 hcs2 h2 hs2 hrv
      go_wp2_with fail
      go_loopw [15] (fun v wr => ∃ j : Nat, j ≤ n ∧ v = .int .i64 (j : Int) ∧ CS w0 wr x { s2 with got := upd s2.got c (s.got c + j) } tag2 ∧ RV wr 24 4 ta n tc (mcells l)) (fun v _ => n - (intOf v).toNat)
      case atStart =>
        refine ⟨0, by omega, rfl, ?_, HRV ()⟩
        have e1 : s2.got = s.got := by rw [HS2 ()]
        rw [e1, Nat.add_zero, upd_same, ← e1]
        exact HC2 ()
      case round =>
        obtain ⟨j, hj, rfl, hcs, hrv⟩ := hrel
        by_cases hjn : j < n
        · obtain ⟨m, hm⟩ : ∃ m, l[j]? = some m := ⟨_, List.getElem?_eq_getElem (by have := HN (); omega)⟩
          obtain ⟨hmq, hqs⟩ := HP2 () j m hm
          obtain ⟨q, hq⟩ : ∃ q, q = s.got c + j := ⟨_, rfl⟩
          rw [← hq] at hmq hqs hcs
          obtain ⟨tb', to, hta⟩ : ∃ tb' to, ta = some ⟨tb', to, none⟩ := by
            rcases hrv.2.2 with ⟨_, h0, _⟩ | ⟨g, o, h0, _⟩
            · omega
            · exact ⟨g, o, h0⟩
          have hvb : VBo wr tb' to 24 4 (mcells l) tc := by
            rcases hrv.2.2 with ⟨h0, _⟩ | ⟨g', o', h0, hv⟩
            · rw [hta] at h0; cases h0
            · rw [hta] at h0; cases h0; exact hv
          have htl := hvb.lt
          have mc : ∀ i u, (mcell (rmsg q))[i]? = some u → wr.cell? ⟨tb', to + j * 4 + i, none⟩ = some u := fun i u hu => by
            have hi : i < 4 := by have := (List.getElem?_eq_some_iff.1 hu).1; simpa [mcell] using this
            have := hvb.cell (j * 4 + i) u (by rw [mcells_get l j m hm i hi, hmq]; exact hu)
            rw [← Nat.add_assoc] at this
            exact this
          have c0 := mc 0 _ rfl
          have c1 := mc 1 _ rfl
          have c2 := mc 2 _ rfl
          have c3 := mc 3 _ rfl
          rw [Nat.add_zero] at c0
          have qg : wr.cell? ⟨x.gb, c, none⟩ = some (.int .i64 (q : Int)) := by
            have := hcs.gots.cell c
            rw [two_get _ _ hc] at this
            simpa only [upd_self] using this
          have fg := hcs.gots.frozen c
          have hgl := hcs.gots.lt
          have hqI : (q : Int) < (s.sent c : Int) := by omega
          have hdec : decide (s.sent c ≤ q) = false := decide_eq_false (by omega)
          have HQ : Unit → (q : Int) < 1000000 := fun _ => by have := HS (); omega
          have hwq : IntKind.i64.wrap ((q : Int) + 1) = (q : Int) + 1 := by rw [IntKind.wrap_i64]; have := HS (); omega
          have hwj : IntKind.i64.wrap ((j : Int) + 1) = (j : Int) + 1 := by rw [IntKind.wrap_i64]; have := HS (); omega
          have HCS : Unit → _ := fun _ => (⟨hcs, hrv, hq⟩ : _ ∧ _ ∧ _)
          have hjI : (j : Int) < (n : Int) := by omega
          have htv : ta = some ⟨tb', to, none⟩ := hta
          subst htv
          clear hcs hrv hq hta hvb mc hmq hm hqs
          go_wp2_with fail
          go_region_with (go_at_call 10; refine (message_any q (HQ ()) _).mono ?_; rintro r w5 ⟨rfl, hk5⟩; have d0 := (hk5.cell tb' (to + j * 4) htl (fun e => e)).trans c0; have d1 := (hk5.cell tb' (to + j * 4 + 1) htl (fun e => e)).trans c1; have d2 := (hk5.cell tb' (to + j * 4 + 2) htl (fun e => e)).trans c2; have d3 := (hk5.cell tb' (to + j * 4 + 3) htl (fun e => e)).trans c3; have d4 := (hk5.cell x.gb c hgl (fun e => e)).trans qg; have d5 := (hk5.frozen x.gb c hgl (fun e => e)).trans fg)
          all_goals
            go_wp2
            go_roundw
            case rel =>
              obtain ⟨hcs, hrv, hq⟩ := HCS ()
              have kq : Keep nil wr w5 := ((Keep.refl nil wr).drew).trans hk5
              have ks : Keep (only x.gb) w5 (w5.setCell ⟨x.gb, c, none⟩ (.int .i64 ((q : Int) + 1))) := (Keep.refl (only x.gb) w5).setCell (p := ⟨x.gb, c, none⟩) (fun _ => rfl) _
              have h6 := (hcs.same kq (fun _ _ _ e => e)).setGot c hc (q + 1)
              refine ⟨j + 1, by omega, by go_num, ?_, (hrv.keep kq (fun _ _ e => e)).keep ks (fun k hk => HTA () k hk)⟩
              have e1 : upd (upd s2.got c q) c (q + 1) = upd s2.got c (s.got c + (j + 1)) := by
                funext i
                unfold upd
                split
                · omega
                · rfl
              have h7 : CS w0 (w5.setCell ⟨x.gb, c, none⟩ (.int .i64 ((q + 1 : Nat) : Int))) x { s2 with got := upd s2.got c (s.got c + (j + 1)) } tag2 := by rw [← e1]; exact h6
              exact h7
            case measure => simp [intOf]; omega
        · have hnj : (n : Int) ≤ (j : Int) := by omega
          have HCS : Unit → _ := fun _ => (⟨hcs, hrv⟩ : _ ∧ _)
          have HJ : Unit → j = n := fun _ => by omega
          clear hcs hrv
          go_wp2
          go_ret
          refine ⟨rfl, _, tag2, (HCS ()).1, Or.inr ⟨z, f, HZ0 (), (HX ()).2.1, ?_, ?_, ?_, ?_⟩⟩
          · rw [HS2 ()]
          · rw [HS2 ()]
          · rw [HS2 ()]
          · rw [HJ (), HN (), HLL (), HS2 ()]
  · have hge : (L : Int) ≤ (z : Int) := by omega
    go_wp2
    go_ret
    exact ⟨rfl, s, tag, HH (), Or.inl ⟨rfl, fun ⟨e1, e2⟩ => by have := HZ0 () e1; have := HL (); omega⟩⟩
end Go.Proofs.Ytlfijfodklhplaa
