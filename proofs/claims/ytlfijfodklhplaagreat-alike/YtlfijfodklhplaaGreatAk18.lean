import Derived.Test.YtlfijfodklhplaaGreatAk17
import Derived.Deep.RegionHeld3
/- Walks of a node's calls: changeRoot, accept, report. -/
namespace Go.Proofs.YtlfijfodklhplaaGreat
open Go.RowKit
set_option linter.unusedVariables false
set_option linter.unusedSimpArgs false

set_option maxRecDepth 100000 in
set_option maxHeartbeats 2000000 in
theorem changeRoot_any (b : Nat) (n : Nod) (p : Np) (w : World) (h : NRep w b n p) (hf : (n.edges.length : Int) < 1000) (hb : ∀ i, n.best = some i → i < n.edges.length) (hl : (n.sent.length : Int) < 1000000000000) :
    Calls Tryz.prog 206 #[.pointer (some ⟨b, 0, none⟩)] w fun r w' => r = .returned (.tuple #[]) ∧ ∃ p', NRep w' b n.changeRoot p' ∧ NStep w w' b p p' := by
  obtain ⟨c0, c1, c2, c3, c4, c5, c6, c7, c8, c9, c10, c11⟩ := h.cells
  have hbl := h.blk.lt
  cases hbs : n.best with
  | none =>
    have HE : Unit → n.changeRoot = n := fun _ => by unfold Nod.changeRoot; rw [hbs]
    rw [hbs] at c5
    simp only [oi] at c5
    have H : Unit → _ := fun _ => h
    clear h c0 c1 c2 c3 c4 c6 c7 c8 c9 c10 c11 hl hf hb
    go_enter Tryz.func206, Tryz.ntmps206
    go_wp2
    (try simp only [Exit.inBlock, Exit.then])
    refine bodyPost_ret (results_none rfl _ _ _) rfl ?_
    exact ⟨rfl, p, by rw [HE ()]; exact H (), NStep.refl _ _ _⟩
  | some j =>
    have hj := hb j hbs
    obtain ⟨e, he⟩ : ∃ e, n.edges[j]? = some e := ⟨_, List.getElem?_eq_getElem hj⟩
    have hst : n.st j = e.2 := by unfold Nod.st; rw [he]
    rw [hbs] at c5
    simp only [oi] at c5
    have H : Unit → _ := fun _ => h
    have HL : Unit → (n.sent.length : Int) < 1000000000000 := fun _ => hl
    have HJ : Unit → (j : Int) < (n.edges.length : Int) := fun _ => by omega
    have hj2 : ((j : Int) == -1) = false := by rw [beq_eq_false_iff_ne]; omega
    have hj3 : ¬ (j : Int) = -1 := by omega
    have HB : Unit → ∀ w1, Keep nil w w1 → _ := fun _ w1 k1 => isBranch_any b n p j e w1 (h.keep k1 (fun _ _ e => e)) he (by omega)
    have HE1 : Unit → e.2 = 1 → n.changeRoot = n.send j .root := fun _ h1 => by unfold Nod.changeRoot; rw [hbs]; simp only; rw [hst, if_pos h1]
    have HE2 : Unit → ¬ e.2 = 1 → n.changeRoot = (n.send j (.connect n.level)).setSt j 1 := fun _ h1 => by unfold Nod.changeRoot; rw [hbs]; simp only; rw [hst, if_neg h1]
    clear h c0 c1 c2 c3 c4 c6 c7 c8 c9 c10 c11 hl hf hb hst hj
    go_enter Tryz.func206, Tryz.ntmps206
    go_wp2_with fail
    refine Calls.mono (HB () w (Keep.refl _ _)) ?_
    rintro r w1 ⟨rfl, hk1⟩
    have hr1 := (H ()).keep hk1 (fun _ _ e => e)
    have H1 : Unit → NRep w1 b n p ∧ NStep w w1 b p p := fun _ => ⟨hr1, NStep.of_keep b p hk1⟩
    obtain ⟨_, d1, _, d3, _, d5, _⟩ := hr1.cells
    rw [hbs] at d5
    simp only [oi] at d5
    have hbl1 := hr1.blk.lt
    clear hr1 hk1 c5 hbl HB
    by_cases h1 : e.2 = 1
    · have HS : Unit → ∀ w3, Keep nil w1 w3 → _ := fun _ w3 k3 => nsend_any b n p j .root w3 ((H1 ()).1.keep k3 (fun _ _ e => e)) (HL ())
      simp only [NMsg.val] at HS
      have hd : decide (e.2 = 1) = true := decide_eq_true h1
      rw [hd]
      clear d1 d3
      go_wp2_with fail
      refine Calls.mono (HS () _ (Keep.refl nil _)) ?_
      rintro r w3 ⟨rfl, p3, hr3, hs3⟩
      have HP : Unit → ∃ p', NRep w3 b n.changeRoot p' ∧ NStep w w3 b p p' := fun _ => ⟨p3, by rw [HE1 () h1]; exact hr3, (H1 ()).2.trans hs3⟩
      clear hr3 hs3 HS d5
      go_wp2
      (try simp only [Exit.inBlock, Exit.then])
      refine bodyPost_ret (results_none rfl _ _ _) rfl ?_
      exact ⟨rfl, HP ()⟩
    · have HS : Unit → ∀ w3, Keep nil w1 w3 → _ := fun _ w3 k3 => nsend_any b n p j (.connect n.level) w3 ((H1 ()).1.keep k3 (fun _ _ e => e)) (HL ())
      simp only [NMsg.val] at HS
      have hd : decide (e.2 = 1) = false := decide_eq_false h1
      rw [hd]
      clear d3
      go_wp2_with fail
      go_still_tail 11, (by kernel_rfl)
      go_wp2_with fail
      refine Calls.mono (HS () _ ((Keep.refl nil w1).drew)) ?_
      rintro r w3 ⟨rfl, p3, hr3, hs3⟩
      have H3 : Unit → NRep w3 b (n.send j (.connect n.level)) p3 ∧ NStep w w3 b p p3 := fun _ => ⟨hr3, ((H1 ()).2.trans (NStep.of_keep b p ((Keep.refl nil w1).drew))).trans hs3⟩
      obtain ⟨_, _, _, d3, _, d5', _⟩ := hr3.cells
      have d5 : w3.cell? ⟨b, 5, none⟩ = some (.int .i64 (j : Int)) := by rw [d5']; show some (Value.int .i64 (oi n.best)) = _; rw [hbs]; rfl
      have d3' : w3.cell? ⟨b, 3, none⟩ = some (.slice p3.ea n.edges.length p3.ec) := d3
      have he' : (n.send j (.connect n.level)).edges[j]? = some e := he
      obtain ⟨g, o, hga, hgl, e0, e1, fz⟩ := hr3.edge_at j e he'
      have hkd : Keep nil w3 w3.drew := (Keep.refl nil w3).drew
      have h5 := (hr3.keep hkd (fun _ _ e => e)).setEdge j 1 e he' g o hga
      have HP : Unit → ∃ p', NRep (w3.drew.setCell ⟨g, o + j * 2 + 1, none⟩ (.int .i64 1)) b n.changeRoot p' ∧ NStep w (w3.drew.setCell ⟨g, o + j * 2 + 1, none⟩ (.int .i64 1)) b p p' := fun _ => ⟨p3, by rw [HE2 () h1]; exact h5.1, ((H3 ()).2.trans (NStep.of_keep b p3 hkd)).trans h5.2⟩
      have hbl3 := hr3.blk.lt
      have hjI := HJ ()
      rw [hga] at d3'
      clear hr3 hs3 HS d3 d5' h5 he he' d1 hkd
      generalize n.edges.length = nl at *
      go_wp2_with fail
      go_still_tail 8, (by kernel_rfl)
      go_wp2
      go_end0
      exact ⟨rfl, HP ()⟩

set_option maxRecDepth 100000 in
set_option maxHeartbeats 2000000 in
theorem accept_any (b : Nat) (n : Nod) (p : Np) (j : Nat) (w : World) (h : NRep w b n p) (hf : (n.edges.length : Int) < 1000) (hj : j < n.edges.length) (hl : (n.sent.length : Int) < 1000000000000) :
    Calls Tryz.prog 202 #[.pointer (some ⟨b, 0, none⟩), .int .i64 (j : Int)] w fun r w' => r = .returned (.tuple #[]) ∧ ∃ p', NRep w' b (n.accept j) p' ∧ NStep w w' b p p' := by
  obtain ⟨c0, c1, c2, c3, c4, c5, c6, c7, c8, c9, c10, c11⟩ := h.cells
  have hbl := h.blk.lt
  have f7 := h.blk.frozen 7
  obtain ⟨e, he⟩ : ∃ e, n.edges[j]? = some e := ⟨_, List.getElem?_eq_getElem hj⟩
  have hwt : n.wt j = e.1 := by unfold Nod.wt; rw [he]
  have hs := h.set (n' := { n with tested := none }) 7 (.int .i64 (-1)) (by simp [ncells, oi]) rfl rfl rfl
  obtain ⟨g, o, hga, hgl, e0, e1, fz⟩ := h.edge_at j e he
  rw [hga] at c3
  have hgb : ¬ b = g := fun e => h.eb (by rw [hga, e]; exact inB_self g o)
  have hgb2 : ¬ g = b := fun e => hgb e.symm
  have hjI : (j : Int) < (n.edges.length : Int) := by omega
  have HH : Unit → ∀ w1, Keep nil (w.setCell ⟨b, 7, none⟩ (.int .i64 (-1))) w1 → _ := fun _ w1 k1 => hear_any b { n with tested := none } p j e.1 w1 (hs.1.keep k1 (fun _ _ e => e))
  have H1 : Unit → NStep w (w.setCell ⟨b, 7, none⟩ (.int .i64 (-1))) b p p := fun _ => hs.2
  have HRP : Unit → ∀ w2 p2, NRep w2 b (({ n with tested := none } : Nod).hear j e.1) p2 → _ := fun _ w2 p2 h2 => nreports_any b _ p2 w2 h2 (by unfold Nod.hear; split <;> exact hl)
  have HE : Unit → n.accept j = (({ n with tested := none } : Nod).hear j e.1).reports := fun _ => by unfold Nod.accept; rw [hwt]
  clear h hs hf hj hl hwt he c0 c1 c2 c4 c5 c6 c8 c9 c10 c11
  generalize n.edges.length = nl at *
  generalize e.1 = ew at *
  go_enter Tryz.func202, Tryz.ntmps202
  go_wp2_with fail
  obtain ⟨WS, hWS⟩ : ∃ WS, WS = w.setCell ⟨b, 7, none⟩ (.int .i64 (-1)) := ⟨_, rfl⟩
  rw [← hWS] at HH H1 ⊢
  clear hWS c7 f7 c3 e0 e1 fz
  refine Calls.mono (HH () _ (Keep.refl nil _)) ?_
  rintro r w2 ⟨rfl, hr2, hs2⟩
  have H2 : Unit → NRep w2 b (({ n with tested := none } : Nod).hear j ew) p ∧ NStep w w2 b p p := fun _ => ⟨hr2, (H1 ()).trans hs2⟩
  clear hr2 hs2 HH
  go_wp2_with fail
  refine Calls.mono (HRP () _ _ (H2 ()).1) ?_
  rintro r w3 ⟨rfl, p3, hr3, hs3⟩
  have HP : Unit → ∃ p', NRep w3 b (n.accept j) p' ∧ NStep w w3 b p p' := fun _ => ⟨p3, by rw [HE ()]; exact hr3, (H2 ()).2.trans hs3⟩
  clear hr3 hs3 HRP
  go_wp2
  go_end0
  exact ⟨rfl, HP ()⟩


set_option maxRecDepth 100000 in
set_option maxHeartbeats 2000000 in
theorem report_any (b : Nat) (n : Nod) (p : Np) (j x : Nat) (w : World) (h : NRep w b n p) (hf : (n.edges.length : Int) < 1000) (hb : ∀ i, n.best = some i → i < n.edges.length) (hl : (n.sent.length : Int) < 1000000000000) :
    Calls Tryz.prog 205 #[.pointer (some ⟨b, 0, none⟩), .int .i64 (j : Int), .agg #[.int .i64 (x : Int)]] w fun r w' => r = .returned (.bool (n.report j x).2) ∧ ∃ p', NRep w' b (n.report j x).1 p' ∧ NStep w w' b p p' := by
  have H : Unit → NRep w b n p ∧ (n.sent.length : Int) < 1000000000000 := fun _ => ⟨h, hl⟩
  have HC : Unit → ∀ w1, Keep nil w w1 → _ := fun _ w1 k1 => changeRoot_any b n p w1 (h.keep k1 (fun _ _ e => e)) hf hb hl
  have HBL : Unit → ∀ k, NMine b p k → k < w.heap.size := fun _ => h.lt
  have hblw := h.blk.lt
  obtain ⟨c0, c1, c2, c3, c4, c5, c6, c7, c8, c9, c10, c11⟩ := h.cells
  clear h hl hf hb c1 c2 c3 c5 c7 c10 c11
  by_cases hi : n.inn = some j
  · rw [hi] at c4
    simp only [oi] at c4
    by_cases hs : n.state = 1
    · have HE : Unit → n.report j x = (n, false) := fun _ => by unfold Nod.report; rw [if_pos hi, if_pos hs]
      rw [hs] at c0
      clear HC c6 c8 c9
      go_enter Tryz.func205, Tryz.ntmps205
      go_wp2
      go_ret
      exact ⟨by rw [HE ()]; rfl, p, by rw [HE ()]; exact (H ()).1.keep ((Keep.refl nil w).alloc _) (fun _ _ e => e), NStep.of_keep b p ((Keep.refl nil w).alloc _)⟩
    · have hs2 : ((n.state : Int) == 1) = false := by rw [beq_eq_false_iff_ne]; omega
      have hs3 : ¬ (n.state : Int) = 1 := by omega
      have HS0 : Unit → ¬ n.state = 1 := fun _ => hs
      clear hs c6 c8 c9
      generalize n.state = ns at c0 hs2 hs3
      go_enter Tryz.func205, Tryz.ntmps205
      go_wp2_with fail
      obtain ⟨W1, hW1⟩ : ∃ W1, W1 = w.alloc (.cells #[.int .i64 (x : Int)] 319) := ⟨_, rfl⟩
      have hb1 : Blk W1 w.heap.size #[.int .i64 (x : Int)] 319 := by rw [hW1]; exact Blk.new _ _ _
      have hk1 : Keep nil w W1 := by rw [hW1]; exact (Keep.refl nil w).alloc _
      rw [← hW1]
      have x0 := hb1.cell 0
      have hbx := hb1.lt
      simp at x0
      have H1 : Unit → Keep nil w W1 := fun _ => hk1
      have hr1 := (H ()).1.keep hk1 (fun _ _ e => e)
      have f9 := hr1.blk.frozen 9
      have hbl1 := hr1.blk.lt
      obtain ⟨_, _, _, _, _, _, d6, _, _, d9, _⟩ := hr1.cells
      clear hW1 hb1 hk1 hr1 c0 c4
      by_cases hx : n.bw < x
      · have HE : Unit → n.report j x = (n.changeRoot, true) := fun _ => by unfold Nod.report; rw [if_pos hi, if_neg (HS0 ()), if_pos hx]
        have hxI : (n.bw : Int) < (x : Int) := by omega
        clear hx d9 f9
        generalize n.bw = nb at *
        go_still_tail 7, (by kernel_rfl)
        go_wp2_with fail
        refine Calls.mono (HC () _ ((H1 ()).drew)) ?_
        rintro r w3 ⟨rfl, p3, hr3, hs3'⟩
        have HP : Unit → ∃ p', NRep w3 b n.changeRoot p' ∧ NStep w w3 b p p' := fun _ => ⟨p3, hr3, (NStep.of_keep b p ((H1 ()).drew)).trans hs3'⟩
        clear hr3 hs3' HC
        go_wp2
        go_ret
        exact ⟨by rw [HE ()]; rfl, by rw [HE ()]; exact HP ()⟩
      · have hxI : (x : Int) ≤ (n.bw : Int) := by omega
        by_cases hx1 : x = 1001
        · by_cases hb1 : n.bw = 1001
          · have HE : Unit → n.report j x = ({ n with over := true }, true) := fun _ => by unfold Nod.report; rw [if_pos hi, if_neg (HS0 ()), if_neg hx, if_pos ⟨hx1, hb1⟩]
            subst hx1
            rw [hb1] at d6
            clear hx hxI hb1 HC
            go_still_tail 7, (by kernel_rfl)
            go_wp2
            go_ret
            have hO := ((H ()).1.keep (H1 ()) (fun _ _ e => e)).set (n' := { n with over := true }) 9 (.bool true) (by simp [ncells]) rfl rfl rfl
            have hkd : Keep nil (W1.setCell ⟨b, 9, none⟩ (.bool true)) (W1.setCell ⟨b, 9, none⟩ (.bool true)).drew := (Keep.refl nil _).drew
            exact ⟨by rw [HE ()]; rfl, p, by rw [HE ()]; exact hO.1.keep hkd (fun _ _ e => e), ((NStep.of_keep b p (H1 ())).trans hO.2).trans (NStep.of_keep b p hkd)⟩
          · have HE : Unit → n.report j x = (n, true) := fun _ => by unfold Nod.report; rw [if_pos hi, if_neg (HS0 ()), if_neg hx, if_neg (fun e => hb1 e.2)]
            subst hx1
            have hb2 : ((n.bw : Int) == 1001) = false := by rw [beq_eq_false_iff_ne]; omega
            have hb3 : ¬ (n.bw : Int) = 1001 := by omega
            clear hx HC d9 f9 hb1
            generalize n.bw = nb at *
            go_still_tail 7, (by kernel_rfl)
            go_wp2
            go_ret
            exact ⟨by rw [HE ()]; rfl, p, by rw [HE ()]; exact (H ()).1.keep (H1 ()).drew (fun _ _ e => e), NStep.of_keep b p (H1 ()).drew⟩
        · have HE : Unit → n.report j x = (n, true) := fun _ => by unfold Nod.report; rw [if_pos hi, if_neg (HS0 ()), if_neg hx, if_neg (fun e => hx1 e.1)]
          have hb2 : ((x : Int) == 1001) = false := by rw [beq_eq_false_iff_ne]; omega
          have hb3 : ¬ (x : Int) = 1001 := by omega
          clear hx HC d9 f9 hx1
          generalize n.bw = nb at *
          go_still_tail 7, (by kernel_rfl)
          go_wp2
          go_ret
          exact ⟨by rw [HE ()]; rfl, p, by rw [HE ()]; exact (H ()).1.keep (H1 ()).drew (fun _ _ e => e), NStep.of_keep b p (H1 ()).drew⟩
  · have HE : Unit → n.report j x = ((({ n with count := wrap64 (n.count - 1) } : Nod).hear j x).reports, true) := fun _ => by unfold Nod.report; rw [if_neg hi]
    have hi2 : ((j : Int) == oi n.inn) = false := by
      rw [beq_eq_false_iff_ne]; intro e; exact hi (oi_inj (e.symm.trans (oi_some j).symm))
    have hi3 : ¬ (j : Int) = oi n.inn := by rw [beq_eq_false_iff_ne] at hi2; exact hi2
    have f8 := (H ()).1.blk.frozen 8
    have HO : Unit → _ := fun _ => (H ()).1.set (n' := { n with count := wrap64 (n.count - 1) }) 8 (.int .i64 (wrap64 (n.count - 1))) (by simp [ncells]) rfl rfl rfl
    have HH : Unit → _ := fun _ => hear_any b { n with count := wrap64 (n.count - 1) } p j x ((w.setCell ⟨b, 8, none⟩ (.int .i64 (wrap64 (n.count - 1)))).alloc (.cells #[.int .i64 (x : Int)] 319)) ((HO ()).1.keep ((Keep.refl nil _).alloc _) (fun _ _ e => e))
    have HRP : Unit → ∀ w2 p2, NRep w2 b (({ n with count := wrap64 (n.count - 1) } : Nod).hear j x) p2 → _ := fun _ w2 p2 h2 => nreports_any b _ p2 w2 h2 (by unfold Nod.hear; split <;> exact (H ()).2)
    clear c0 c6 c9 HC hi
    generalize oi n.inn = ni at *
    go_enter Tryz.func205, Tryz.ntmps205
    go_wp2_with fail
    refine Calls.mono (HH ()) ?_
    rintro r w2 ⟨rfl, hr2, hs2⟩
    have H2 : Unit → NRep w2 b (({ n with count := wrap64 (n.count - 1) } : Nod).hear j x) p ∧ NStep w w2 b p p := fun _ => ⟨hr2, ((HO ()).2.trans (NStep.of_keep b p ((Keep.refl nil _).alloc _))).trans hs2⟩
    clear hr2 hs2 HH c4 c8 f8 HO
    go_wp2_with fail
    refine Calls.mono (HRP () _ _ (H2 ()).1) ?_
    rintro r w3 ⟨rfl, p3, hr3, hs3⟩
    have HP : Unit → ∃ p', NRep w3 b (({ n with count := wrap64 (n.count - 1) } : Nod).hear j x).reports p' ∧ NStep w w3 b p p' := fun _ => ⟨p3, hr3, (H2 ()).2.trans hs3⟩
    clear hr3 hs3 HRP
    go_wp2
    go_ret
    exact ⟨by rw [HE ()]; rfl, by rw [HE ()]; exact HP ()⟩

end Go.Proofs.YtlfijfodklhplaaGreat
/- Walks of a node's calls: test, connect. -/
namespace Go.Proofs.YtlfijfodklhplaaGreat
open Go.RowKit
set_option linter.unusedVariables false
set_option linter.unusedSimpArgs false

theorem wake_edges (n : Nod) : n.wake.edges.length = n.edges.length ∧ (NRise n → NRise n.wake) := by
  unfold Nod.wake
  split
  · split
    · exact ⟨rfl, fun h => h.of rfl⟩
    · refine ⟨by simp [Nod.send, Nod.setSt], fun h => ?_⟩
      exact NRise.of (NRise.set (NRise.of h rfl) _ _) rfl
  · exact ⟨rfl, id⟩
theorem wake_sent (n : Nod) : n.wake.sent.length ≤ n.sent.length + 1 := by
  unfold Nod.wake
  split
  · split
    · simp
    · simp [Nod.send, Nod.setSt]
  · omega
theorem wake_level (n : Nod) : n.wake.level ≤ n.level := by
  unfold Nod.wake
  split
  · split
    · simp
    · simp [Nod.send, Nod.setSt]
  · omega
theorem reject_same (n : Nod) (j : Nat) : (n.reject j).tested = n.tested ∧ (n.reject j).sent = n.sent ∧ (n.reject j).edges.length = n.edges.length ∧ (NRise n → NRise (n.reject j)) := by
  unfold Nod.reject
  split
  · exact ⟨rfl, rfl, by simp [Nod.setSt], fun h => h.set _ _⟩
  · exact ⟨rfl, rfl, rfl, id⟩

set_option maxRecDepth 100000 in
set_option maxHeartbeats 2000000 in
theorem ntest_any (b : Nat) (n : Nod) (p : Np) (j l nm : Nat) (w : World) (h : NRep w b n p) (hr : NRise n) (hj : j < n.edges.length) (hl : (n.sent.length : Int) < 999000000000) :
    Calls Tryz.prog 201 #[.pointer (some ⟨b, 0, none⟩), .int .i64 (j : Int), .agg #[.int .i64 (l : Int), .int .i64 (nm : Int)]] w fun r w' => r = .returned (.bool (n.test j l nm).2) ∧ ∃ p', NRep w' b (n.test j l nm).1 p' ∧ NStep w w' b p p' := by
  obtain ⟨we, wr⟩ := wake_edges n
  have ws := wake_sent n
  have HW : Unit → ∀ w1, Keep nil w w1 → _ := fun _ w1 k1 => wake_any b n p w1 (h.keep k1 (fun _ _ e => e)) hr (by omega)
  have HBL : Unit → ∀ k, NMine b p k → k < w.heap.size := fun _ => h.lt
  have HI : Unit → (n.wake.sent.length : Int) < 1000000000000 ∧ NRise n.wake ∧ j < n.wake.edges.length ∧ (n.wake.edges.length : Int) < 1000 := fun _ => ⟨by omega, wr hr, by omega, (wr hr).few⟩
  have HE : Unit → n.test j l nm = (if n.wake.level < l then (n.wake, false) else if nm ≠ n.wake.name then (n.wake.send j .accept, true) else if n.wake.tested = some j then ((n.wake.reject j).tests, true) else ((n.wake.reject j).send j .reject, true)) := fun _ => rfl
  have hblw := h.blk.lt
  clear h hr hj hl we wr ws
  go_enter Tryz.func201, Tryz.ntmps201
  go_wp2_with fail
  obtain ⟨W1, hW1⟩ : ∃ W1, W1 = w.alloc (.cells #[.int .i64 (l : Int), .int .i64 (nm : Int)] 315) := ⟨_, rfl⟩
  have hb1 : Blk W1 w.heap.size #[.int .i64 (l : Int), .int .i64 (nm : Int)] 315 := by rw [hW1]; exact Blk.new _ _ _
  have hk1 : Keep nil w W1 := by rw [hW1]; exact (Keep.refl nil w).alloc _
  rw [← hW1]
  clear hW1
  refine Calls.mono (HW () W1 hk1) ?_
  rintro r w2 ⟨rfl, p2, hr2, hs2⟩
  have hb2 := hb1.keep hs2.keep (fun e => by have := HBL () _ e; omega)
  have H2 : Unit → NRep w2 b n.wake p2 ∧ NStep w w2 b p p2 := fun _ => ⟨hr2, (NStep.of_keep b p hk1).trans hs2⟩
  have HX : Unit → Blk w2 w.heap.size #[.int .i64 (l : Int), .int .i64 (nm : Int)] 315 := fun _ => hb2
  have x0 := hb2.cell 0
  simp at x0
  have hbx := hb2.lt
  have hbl2 := hr2.blk.lt
  obtain ⟨-, d1, -⟩ := hr2.cells
  clear hr2 hs2 hb1 hk1 hb2 HW HBL
  generalize n.wake = m at *
  go_wp2_with fail
  by_cases hlv : m.level < l
  · have hlI : (m.level : Int) < (l : Int) := by omega
    have HE2 : Unit → n.test j l nm = (m, false) := fun _ => by rw [HE (), if_pos hlv]
    clear hlv HE
    generalize m.level = ml at *
    go_still_tail 6, (by kernel_rfl)
    go_wp2
    go_ret
    exact ⟨by rw [HE2 ()]; rfl, p2, by rw [HE2 ()]; exact (H2 ()).1.keep ((Keep.refl nil w2).drew) (fun _ _ e => e), (H2 ()).2.trans (NStep.of_keep b p2 ((Keep.refl nil w2).drew))⟩
  · have hlI : (l : Int) ≤ (m.level : Int) := by omega
    have HE2 : Unit → n.test j l nm = (if nm ≠ m.name then (m.send j .accept, true) else if m.tested = some j then ((m.reject j).tests, true) else ((m.reject j).send j .reject, true)) := fun _ => by rw [HE (), if_neg hlv]
    clear hlv HE
    generalize m.level = ml at *
    go_still_tail 6, (by kernel_rfl)
    go_wp2_with fail
    obtain ⟨W3, hW3⟩ : ∃ W3, W3 = w2.drew := ⟨_, rfl⟩
    rw [← hW3]
    have hk3 : Keep nil w2 W3 := by rw [hW3]; exact (Keep.refl nil w2).drew
    have H3 : Unit → NRep W3 b m p2 ∧ NStep w W3 b p p2 := fun _ => ⟨(H2 ()).1.keep hk3 (fun _ _ e => e), (H2 ()).2.trans (NStep.of_keep b p2 hk3)⟩
    have x1 := ((HX ()).keep hk3 id).cell 1
    simp at x1
    have hbx3 := ((HX ()).keep hk3 id).lt
    have hbl3 := (H3 ()).1.blk.lt
    obtain ⟨_, _, e2, _⟩ := (H3 ()).1.cells
    clear x0 d1 hW3 hk3 H2 HX
    by_cases hn : nm ≠ m.name
    · have HE3 : Unit → n.test j l nm = (m.send j .accept, true) := fun _ => by rw [HE2 (), if_pos hn]
      have hn2 : ((nm : Int) == (m.name : Int)) = false := by rw [beq_eq_false_iff_ne]; omega
      have hn3 : ¬ (nm : Int) = (m.name : Int) := by omega
      have HS : Unit → ∀ w3, Keep nil W3 w3 → _ := fun _ w3 k3 => nsend_any b m p2 j .accept w3 ((H3 ()).1.keep k3 (fun _ _ e => e)) (HI ()).1
      simp only [NMsg.val] at HS
      clear hn HE2
      generalize m.name = mn at *
      go_still_tail 6, (by kernel_rfl)
      go_wp2_with fail
      refine Calls.mono (HS () _ ((Keep.refl nil W3).drew)) ?_
      rintro r w4 ⟨rfl, p4, hr4, hs4⟩
      have HP : Unit → ∃ p', NRep w4 b (m.send j .accept) p' ∧ NStep w w4 b p p' := fun _ => ⟨p4, hr4, ((H3 ()).2.trans (NStep.of_keep b p2 ((Keep.refl nil W3).drew))).trans hs4⟩
      clear hr4 hs4 HS x1 e2
      go_wp2
      go_ret
      exact ⟨by rw [HE3 ()]; rfl, by rw [HE3 ()]; exact HP ()⟩
    · have hn' : nm = m.name := by omega
      have HR : Unit → ∀ w3, Keep nil W3 w3 → _ := fun _ w3 k3 => nreject_any b m p2 j w3 ((H3 ()).1.keep k3 (fun _ _ e => e)) (HI ()).2.2.1 (HI ()).2.2.2
      have HE3 : Unit → n.test j l nm = (if m.tested = some j then ((m.reject j).tests, true) else ((m.reject j).send j .reject, true)) := fun _ => by rw [HE2 (), if_neg hn]
      rw [← hn'] at e2
      clear hn HE2 hn'
      go_still_tail 6, (by kernel_rfl)
      go_wp2_with fail
      refine Calls.mono (HR () _ ((Keep.refl nil W3).drew)) ?_
      rintro r w4 ⟨rfl, hr4, hs4⟩
      have H4 : Unit → NRep w4 b (m.reject j) p2 ∧ NStep w w4 b p p2 := fun _ => ⟨hr4, ((H3 ()).2.trans (NStep.of_keep b p2 ((Keep.refl nil W3).drew))).trans hs4⟩
      obtain ⟨r1, r2, r3, r4⟩ := reject_same m j
      obtain ⟨_, _, _, _, _, _, _, d7, _⟩ := hr4.cells
      rw [r1] at d7
      have hbl4 := hr4.blk.lt
      have HI2 : Unit → ((m.reject j).sent.length : Int) < 1000000000000 ∧ NRise (m.reject j) := fun _ => ⟨by rw [r2]; exact (HI ()).1, r4 (HI ()).2.1⟩
      clear hr4 hs4 HR x1 e2 r1 r2 r3 r4 H3
      by_cases ht : m.tested = some j
      · have HE4 : Unit → n.test j l nm = ((m.reject j).tests, true) := fun _ => by rw [HE3 (), if_pos ht]
        have HT : Unit → _ := fun _ => tests_any b (m.reject j) p2 w4 (H4 ()).1 (HI2 ()).2 (HI2 ()).1
        rw [ht] at d7
        simp only [oi] at d7
        go_wp2_with fail
        refine Calls.mono (HT ()) ?_
        rintro r w5 ⟨rfl, p5, hr5, hs5⟩
        have HP : Unit → ∃ p', NRep w5 b (m.reject j).tests p' ∧ NStep w w5 b p p' := fun _ => ⟨p5, hr5, (H4 ()).2.trans hs5⟩
        clear hr5 hs5 HT d7
        go_wp2
        go_ret
        exact ⟨by rw [HE4 ()]; rfl, by rw [HE4 ()]; exact HP ()⟩
      · have HE4 : Unit → n.test j l nm = ((m.reject j).send j .reject, true) := fun _ => by rw [HE3 (), if_neg ht]
        have HT : Unit → _ := fun _ => nsend_any b (m.reject j) p2 j .reject w4 (H4 ()).1 (HI2 ()).1
        simp only [NMsg.val] at HT
        have t3 : ¬ oi m.tested = (j : Int) := fun e => ht (oi_inj (e.trans (oi_some j).symm))
        have t2 : (oi m.tested == (j : Int)) = false := by rw [beq_eq_false_iff_ne]; exact t3
        generalize oi m.tested = mt at *
        go_wp2_with fail
        refine Calls.mono (HT ()) ?_
        rintro r w5 ⟨rfl, p5, hr5, hs5⟩
        have HP : Unit → ∃ p', NRep w5 b ((m.reject j).send j .reject) p' ∧ NStep w w5 b p p' := fun _ => ⟨p5, hr5, (H4 ()).2.trans hs5⟩
        clear hr5 hs5 HT d7
        go_wp2
        go_ret
        exact ⟨by rw [HE4 ()]; rfl, by rw [HE4 ()]; exact HP ()⟩

set_option maxRecDepth 100000 in
set_option maxHeartbeats 2000000 in
theorem nconnect_any (b : Nat) (n : Nod) (p : Np) (j l : Nat) (w : World) (h : NRep w b n p) (hr : NRise n) (hj : j < n.edges.length) (hv : (n.level : Int) < 1000) (hl : (n.sent.length : Int) < 999000000000) :
    Calls Tryz.prog 199 #[.pointer (some ⟨b, 0, none⟩), .int .i64 (j : Int), .agg #[.int .i64 (l : Int)]] w fun r w' => r = .returned (.bool (n.connect j l).2) ∧ ∃ p', NRep w' b (n.connect j l).1 p' ∧ NStep w w' b p p' := by
  obtain ⟨we, wr⟩ := wake_edges n
  have ws := wake_sent n
  have wl := wake_level n
  have HW : Unit → ∀ w1, Keep nil w w1 → _ := fun _ w1 k1 => wake_any b n p w1 (h.keep k1 (fun _ _ e => e)) hr (by omega)
  have HBL : Unit → ∀ k, NMine b p k → k < w.heap.size := fun _ => h.lt
  have HI : Unit → (n.wake.sent.length : Int) < 1000000000000 ∧ j < n.wake.edges.length ∧ (n.wake.edges.length : Int) < 1000 ∧ (n.wake.level : Int) < 1000 := fun _ => ⟨by omega, by omega, (wr hr).few, by omega⟩
  have HE : Unit → n.connect j l = (if l < n.wake.level then ((n.wake.setSt j 1).spread j n.wake.level n.wake.name (n.wake.state == 1), true) else if n.wake.st j = 0 then (n.wake, false) else (n.wake.send j (.initiate (n.wake.level + 1) (n.wake.wt j) true), true)) := fun _ => rfl
  have hblw := h.blk.lt
  clear h hr hj hl we wr ws wl hv
  go_enter Tryz.func199, Tryz.ntmps199
  go_wp2_with fail
  obtain ⟨W1, hW1⟩ : ∃ W1, W1 = w.alloc (.cells #[.int .i64 (l : Int)] 193) := ⟨_, rfl⟩
  have hb1 : Blk W1 w.heap.size #[.int .i64 (l : Int)] 193 := by rw [hW1]; exact Blk.new _ _ _
  have hk1 : Keep nil w W1 := by rw [hW1]; exact (Keep.refl nil w).alloc _
  rw [← hW1]
  clear hW1
  refine Calls.mono (HW () W1 hk1) ?_
  rintro r w2 ⟨rfl, p2, hr2, hs2⟩
  have hb2 := hb1.keep hs2.keep (fun e => by have := HBL () _ e; omega)
  have H2 : Unit → NRep w2 b n.wake p2 ∧ NStep w w2 b p p2 := fun _ => ⟨hr2, (NStep.of_keep b p hk1).trans hs2⟩
  have x0 := hb2.cell 0
  simp at x0
  have hbx := hb2.lt
  have hbl2 := hr2.blk.lt
  obtain ⟨-, d1, -⟩ := hr2.cells
  clear hr2 hs2 hb1 hk1 hb2 HW HBL
  generalize n.wake = m at *
  obtain ⟨e, he⟩ : ∃ e, m.edges[j]? = some e := ⟨_, List.getElem?_eq_getElem (HI ()).2.1⟩
  obtain ⟨g, o, hga, hgl, e0, e1, fz⟩ := (H2 ()).1.edge_at j e he
  obtain ⟨-, -, -, d3, -⟩ := (H2 ()).1.cells
  rw [hga] at d3
  have hgb : ¬ b = g := fun e => (H2 ()).1.eb (by rw [hga, e]; exact inB_self g o)
  have hgb2 : ¬ g = b := fun e => hgb e.symm
  have hjI : (j : Int) < (m.edges.length : Int) := by have := (HI ()).2.1; omega
  have hst : m.st j = e.2 := by unfold Nod.st; rw [he]
  have hwt : m.wt j = e.1 := by unfold Nod.wt; rw [he]
  rw [hst, hwt] at HE
  have h5 := (H2 ()).1.setEdge j 1 e he g o hga
  have H5 : Unit → NRep (w2.setCell ⟨g, o + j * 2 + 1, none⟩ (.int .i64 1)) b (m.setSt j 1) p2 ∧ NStep w (w2.setCell ⟨g, o + j * 2 + 1, none⟩ (.int .i64 1)) b p p2 := fun _ => ⟨h5.1, (H2 ()).2.trans h5.2⟩
  have HLN : Unit → m.edges.length = m.edges.length := fun _ => rfl
  obtain ⟨ew, es⟩ := e
  simp only at e0 e1 HE
  clear h5 he hst hwt hga
  generalize m.edges.length = ml' at d3 hjI
  go_wp2_with fail
  by_cases hlv : l < m.level
  · have hlI : (l : Int) < (m.level : Int) := by omega
    have HE2 : Unit → n.connect j l = ((m.setSt j 1).spread j m.level m.name (m.state == 1), true) := fun _ => by rw [HE (), if_pos hlv]
    clear hlv HE
    generalize hml : m.level = ml at d1 hlI
    go_still_tail 7, (by kernel_rfl)
    go_wp2_with fail
    obtain ⟨W5, hW5⟩ : ∃ W5, W5 = (w2.setCell ⟨g, o + j * 2 + 1, none⟩ (.int .i64 1)).drew := ⟨_, rfl⟩
    have hk5 : Keep nil (w2.setCell ⟨g, o + j * 2 + 1, none⟩ (.int .i64 1)) W5 := by rw [hW5]; exact (Keep.refl nil _).drew
    rw [← hW5]
    have H6 : Unit → NRep W5 b (m.setSt j 1) p2 ∧ NStep w W5 b p p2 := fun _ => ⟨(H5 ()).1.keep hk5 (fun _ _ e => e), (H5 ()).2.trans (NStep.of_keep b p2 hk5)⟩
    obtain ⟨f0, f1, f2, -⟩ := (H6 ()).1.cells
    have hbl5 := (H6 ()).1.blk.lt
    have HS : Unit → ∀ w3, Keep nil W5 w3 → _ := fun _ w3 k3 => spread_any b (m.setSt j 1) p2 j m.level m.name (m.state == 1) w3 ((H6 ()).1.keep k3 (fun _ _ e => e)) (HI ()).1
    simp only [Nod.setSt] at f0 f1 f2
    have hst : (((m.state : Nat) : Int) == 1) = (m.state == 1) := by
      by_cases h : m.state = 1
      · rw [h]; rfl
      · have h1 : (m.state == 1) = false := by rw [beq_eq_false_iff_ne]; exact h
        rw [h1, beq_eq_false_iff_ne]; omega
    clear hW5 hk5 d3 e0 e1 fz hgl hjI x0 d1 hml hlI
    generalize m.level = mlv at *
    generalize m.name = mnm at *
    generalize hsb : (m.state == 1) = sb at *
    clear hsb
    generalize m.state = mst at *
    go_still_tail 16, (by kernel_rfl)
    go_wp2_with fail
    (try simp only [hst])
    refine Calls.mono (HS () _ ((Keep.refl nil W5).drew)) ?_
    rintro r w6 ⟨rfl, p6, hr6, hs6⟩
    have HP : Unit → ∃ p', NRep w6 b (n.connect j l).1 p' ∧ NStep w w6 b p p' := fun _ => ⟨p6, by rw [HE2 ()]; exact hr6, ((H6 ()).2.trans (NStep.of_keep b p2 ((Keep.refl nil W5).drew))).trans hs6⟩
    clear hr6 hs6 HS f0 f1 f2
    go_wp2
    go_ret
    exact ⟨by rw [HE2 ()]; rfl, HP ()⟩
  · have hlI : (m.level : Int) ≤ (l : Int) := by omega
    have HE2 : Unit → n.connect j l = (if es = 0 then (m, false) else (m.send j (.initiate (m.level + 1) ew true), true)) := fun _ => by rw [HE (), if_neg hlv]
    clear hlv HE
    have HK3 : Unit → Keep nil w2 w2.drew := fun _ => (Keep.refl nil w2).drew
    by_cases hs : es = 0
    · have HE3 : Unit → n.connect j l = (m, false) := fun _ => by rw [HE2 (), if_pos hs]
      subst hs
      clear HE2
      generalize m.level = ml at d1 hlI
      go_still_tail 7, (by kernel_rfl)
      go_wp2
      go_ret
      exact ⟨by rw [HE3 ()]; rfl, p2, by rw [HE3 ()]; exact (H2 ()).1.keep (HK3 ()) (fun _ _ e => e), (H2 ()).2.trans (NStep.of_keep b p2 (HK3 ()))⟩
    · have HE3 : Unit → n.connect j l = (m.send j (.initiate (m.level + 1) ew true), true) := fun _ => by rw [HE2 (), if_neg hs]
      have hs2 : ((es : Int) == 0) = false := by rw [beq_eq_false_iff_ne]; omega
      have hs3 : ¬ (es : Int) = 0 := by omega
      have HS : Unit → ∀ w3, Keep nil w2 w3 → _ := fun _ w3 k3 => nsend_any b m p2 j (.initiate (m.level + 1) ew true) w3 ((H2 ()).1.keep k3 (fun _ _ e => e)) (HI ()).1
      simp only [NMsg.val] at HS
      have hlw : wrap64 ((m.level : Int) + 1) = (m.level : Int) + 1 := by unfold wrap64; have := (HI ()).2.2.2; omega
      clear HE2 hs
      go_still_tail 7, (by kernel_rfl)
      go_wp2_with fail
      obtain ⟨W5, hW5⟩ : ∃ W5, W5 = w2.drew := ⟨_, rfl⟩
      have hk5 : Keep nil w2 W5 := by rw [hW5]; exact HK3 ()
      rw [← hW5]
      have H6 : Unit → NRep W5 b m p2 ∧ NStep w W5 b p p2 := fun _ => ⟨(H2 ()).1.keep hk5 (fun _ _ e => e), (H2 ()).2.trans (NStep.of_keep b p2 hk5)⟩
      have HS5 : Unit → _ := fun _ => HS () W5.drew (hk5.trans ((Keep.refl nil W5).drew))
      obtain ⟨-, f1, -⟩ := (H6 ()).1.cells
      have f3 : W5.cell? ⟨b, 3, none⟩ = some (.slice (some ⟨g, o, none⟩) ml' p2.ec) := by rw [hW5]; exact d3
      have g0 : W5.cell? ⟨g, o + j * 2, none⟩ = some (.int .i64 (ew : Int)) := by rw [hW5]; exact e0
      have hbl5 := (H6 ()).1.blk.lt
      have hgl5 : g < W5.heap.size := by rw [hW5]; exact hgl
      clear hW5 hk5 d3 e0 e1 fz hgl x0 d1 hlI HK3 HS
      rw [show ((m.level + 1 : Nat) : Int) = (m.level : Int) + 1 from by omega] at HS5
      generalize hml : m.level = mlv at f1 hlw HS5
      go_still_tail 17, (by kernel_rfl)
      go_wp2_with fail
      simp only [hlw]
      refine Calls.mono (HS5 ()) ?_
      rintro r w6 ⟨rfl, p6, hr6, hs6⟩
      have HP : Unit → ∃ p', NRep w6 b (n.connect j l).1 p' ∧ NStep w w6 b p p' := fun _ => ⟨p6, by rw [HE3 (), hml]; exact hr6, ((H6 ()).2.trans (NStep.of_keep b p2 ((Keep.refl nil W5).drew))).trans hs6⟩
      clear hr6 hs6 HS5 f1 f3 g0
      go_wp2
      go_ret
      exact ⟨by rw [HE3 ()]; rfl, HP ()⟩

end Go.Proofs.YtlfijfodklhplaaGreat
/- Walk of a node's initiate. -/
namespace Go.Proofs.YtlfijfodklhplaaGreat
open Go.RowKit
set_option linter.unusedVariables false
set_option linter.unusedSimpArgs false

/-- What initiate lays down first. -/
def Nod.ini (n : Nod) (fr l nm : Nat) (f : Bool) : Nod := { n with level := l, name := nm, state := if f then 1 else 2, inn := some fr, best := none, bw := 1001 }

theorem spread_same (n : Nod) (j l nm : Nat) (f : Bool) : (n.spread j l nm f).edges = n.edges ∧ (n.spread j l nm f).sent.length = n.sent.length + 1 := by
  unfold Nod.spread
  split <;> exact ⟨rfl, by simp [Nod.send]⟩
theorem spreads_at (q : Nod) (fr l nm : Nat) (f : Bool) (L k : Nat) (h : k < L) : q.spreads fr l nm f (L - k) k = (if k ≠ fr ∧ q.st k = 1 then q.spread k l nm f else q).spreads fr l nm f (L - (k + 1)) (k + 1) := by
  rw [show L - k = (L - (k + 1)) + 1 by omega, Nod.spreads]
/-- Where the loop of initiate stands. -/
structure Ini (w wr : World) (b : Nat) (n : Nod) (p : Np) (fr l nm : Nat) (f : Bool) (xb k : Nat) (q : Nod) (pr : Np) : Prop where
  rep : NRep wr b q pr
  step : NStep w wr b p pr
  edges : q.edges = n.edges
  sent : q.sent.length ≤ n.sent.length + k
  rest : q.spreads fr l nm f (n.edges.length - k) k = (n.ini fr l nm f).spreads fr l nm f n.edges.length 0
  box : Blk wr xb #[.int .i64 (l : Int), .int .i64 (nm : Int), .bool f] 313
  off : ¬ NMine b pr xb
theorem Ini.keep {w wr w' : World} {b : Nat} {n q : Nod} {p pr : Np} {fr l nm xb k : Nat} {f : Bool} (h : Ini w wr b n p fr l nm f xb k q pr) (hk : Keep nil wr w') : Ini w w' b n p fr l nm f xb k q pr :=
  ⟨h.rep.keep hk (fun _ _ e => e), h.step.trans (NStep.of_keep b pr hk), h.edges, h.sent, h.rest, h.box.keep hk id, h.off⟩
theorem Ini.next {w wr w' : World} {b : Nat} {n q : Nod} {p pr p' : Np} {fr l nm xb k : Nat} {f : Bool} (h : Ini w wr b n p fr l nm f xb k q pr) (hkl : k < n.edges.length) (hc : k ≠ fr ∧ q.st k = 1) (hr : NRep w' b (q.spread k l nm f) p') (hs : NStep wr w' b pr p') : Ini w w' b n p fr l nm f xb (k + 1) (q.spread k l nm f) p' := by
  obtain ⟨s1, s2⟩ := spread_same q k l nm f
  refine ⟨hr, h.step.trans hs, by rw [s1]; exact h.edges, by rw [s2]; have := h.sent; omega, ?_, h.box.keep hs.keep h.off, fun e => ?_⟩
  · have := h.rest
    rw [spreads_at _ _ _ _ _ _ _ hkl, if_pos hc] at this
    exact this
  · rcases hs.mine _ e with e | e
    · exact h.off e
    · have := h.box.lt; omega
theorem Ini.skip {w wr : World} {b : Nat} {n q : Nod} {p pr : Np} {fr l nm xb k : Nat} {f : Bool} (h : Ini w wr b n p fr l nm f xb k q pr) (hkl : k < n.edges.length) (hc : ¬ (k ≠ fr ∧ q.st k = 1)) : Ini w wr b n p fr l nm f xb (k + 1) q pr := by
  refine ⟨h.rep, h.step, h.edges, by have := h.sent; omega, ?_, h.box, h.off⟩
  have := h.rest
  rw [spreads_at _ _ _ _ _ _ _ hkl, if_neg hc] at this
  exact this

set_option maxRecDepth 100000 in
set_option maxHeartbeats 2000000 in
theorem initiate_any (b : Nat) (n : Nod) (p : Np) (fr l nm : Nat) (f : Bool) (w : World) (h : NRep w b n p) (hr : NRise n) (hl : (n.sent.length : Int) < 990000000000) :
    Calls Tryz.prog 200 #[.pointer (some ⟨b, 0, none⟩), .int .i64 (fr : Int), .agg #[.int .i64 (l : Int), .int .i64 (nm : Int), .bool f]] w fun r w' => r = .returned (.tuple #[]) ∧ ∃ p', NRep w' b (n.initiate fr l nm f) p' ∧ NStep w w' b p p' := by
  have HBL : Unit → ∀ k, NMine b p k → k < w.heap.size := fun _ => h.lt
  have hblw := h.blk.lt
  have H : Unit → NRep w b n p ∧ NRise n ∧ (n.sent.length : Int) < 990000000000 := fun _ => ⟨h, hr, hl⟩
  clear h hr hl
  go_enter Tryz.func200, Tryz.ntmps200
  go_wp2_with fail
  obtain ⟨W1, hW1⟩ : ∃ W1, W1 = w.alloc (.cells #[.int .i64 (l : Int), .int .i64 (nm : Int), .bool f] 313) := ⟨_, rfl⟩
  obtain ⟨xb, hxb⟩ : ∃ xb, xb = w.heap.size := ⟨_, rfl⟩
  have hb1 : Blk W1 xb #[.int .i64 (l : Int), .int .i64 (nm : Int), .bool f] 313 := by rw [hW1, hxb]; exact Blk.new _ _ _
  have hk1 : Keep nil w W1 := by rw [hW1]; exact (Keep.refl nil w).alloc _
  have hne : ¬ b = xb := by omega
  have hne2 : ¬ xb = b := by omega
  have hr1 := (H ()).1.keep hk1 (fun _ _ e => e)
  have f0 := hr1.blk.frozen 0
  have f1 := hr1.blk.frozen 1
  have f2 := hr1.blk.frozen 2
  have f4 := hr1.blk.frozen 4
  have f5 := hr1.blk.frozen 5
  have f6 := hr1.blk.frozen 6
  obtain ⟨c0, c1, c2, -, c4, c5, c6, -⟩ := hr1.cells
  have x0 := hb1.cell 0
  have x1 := hb1.cell 1
  have x2 := hb1.cell 2
  simp at x0 x1 x2
  have hbl1 := hr1.blk.lt
  have hxl1 := hb1.lt
  rw [← hW1, ← hxb]
  have H1 : Unit → Blk W1 xb #[.int .i64 (l : Int), .int .i64 (nm : Int), .bool f] 313 ∧ Keep nil w W1 ∧ NRep W1 b n p ∧ xb = w.heap.size := fun _ => ⟨hb1, hk1, hr1, hxb⟩
  clear hW1 hb1 hk1 hr1 hxb
  generalize n.state = ns at *
  generalize n.level = nl at *
  generalize n.name = nn at *
  generalize oi n.inn = ni at *
  generalize oi n.best = nb at *
  generalize n.bw = nw at *
  go_region_held3 (fun w' => w'.cell? ⟨xb, 0, none⟩ = some (.int .i64 (l : Int)) ∧ w'.cell? ⟨xb, 1, none⟩ = some (.int .i64 (nm : Int))) (go_keep) (fail)
  have h1 := (H1 ()).2.2.1.set (n' := { n with level := l }) 1 (.int .i64 (l : Int)) (by simp [ncells]) rfl rfl rfl
  have h2 := h1.1.set (n' := { n with level := l, name := nm }) 2 (.int .i64 (nm : Int)) (by simp [ncells]) rfl rfl rfl
  have h3 := h2.1.set (n' := { n with level := l, name := nm, state := 2 }) 0 (.int .i64 2) (by simp [ncells]) rfl rfl rfl
  have h4 := (h1.2.trans h2.2).trans h3.2
  obtain ⟨W2, hW2⟩ : ∃ W2, W2 = (((W1.setCell ⟨b, 1, none⟩ (.int .i64 (l : Int))).setCell ⟨b, 2, none⟩ (.int .i64 (nm : Int))).setCell ⟨b, 0, none⟩ (.int .i64 2)) := ⟨_, rfl⟩
  rw [← hW2] at h3 h4 ⊢
  have hk2 : Keep nil W2 W2.drew := (Keep.refl nil W2).drew
  obtain ⟨W3, hW3⟩ : ∃ W3, W3 = W2.drew := ⟨_, rfl⟩
  rw [← hW3] at hk2 ⊢
  have hr3 := h3.1.keep hk2 (fun _ _ e => e)
  have hs3 := ((NStep.of_keep b p (H1 ()).2.1).trans h4).trans (NStep.of_keep b p hk2)
  have hx3 : Blk W3 xb #[.int .i64 (l : Int), .int .i64 (nm : Int), .bool f] 313 := ((H1 ()).1.keep h4.keep (fun e => by have := HBL () _ e; have := (H1 ()).2.2.2; omega)).keep hk2 id
  clear h1 h2 h3 h4 hW2 hk2 hW3 c0 c1 c2 c4 c5 c6 x0 x1 x2 f0 f1 f2 f4 f5 f6 hbl1 hxl1
  have h5 := hr3.set (n' := { n with level := l, name := nm, state := 2, inn := some fr }) 4 (.int .i64 (fr : Int)) (by simp [ncells, oi]) rfl rfl rfl
  have h6 := h5.1.set (n' := { n with level := l, name := nm, state := 2, inn := some fr, best := none }) 5 (.int .i64 (-1)) (by simp [ncells, oi]) rfl rfl rfl
  have h7 := h6.1.set (n' := { n with level := l, name := nm, state := 2, inn := some fr, best := none, bw := 1001 }) 6 (.int .i64 1001) (by simp [ncells]) rfl rfl rfl
  have h8 := (h5.2.trans h6.2).trans h7.2
  have f0 := hr3.blk.frozen 0
  have f4 := hr3.blk.frozen 4
  have f5 := hr3.blk.frozen 5
  have f6 := hr3.blk.frozen 6
  obtain ⟨c0, -, -, c3, c4, c5, c6, -⟩ := hr3.cells
  have x2 := hx3.cell 2
  simp at x2
  have hxl3 := hx3.lt
  have hbl3 := hr3.blk.lt
  have H3 : Unit → NRep W3 b { n with level := l, name := nm, state := 2 } p ∧ NStep w W3 b p p ∧ Blk W3 xb #[.int .i64 (l : Int), .int .i64 (nm : Int), .bool f] 313 := fun _ => ⟨hr3, hs3, hx3⟩
  have H7 : Unit → NRep (((W3.setCell ⟨b, 4, none⟩ (.int .i64 (fr : Int))).setCell ⟨b, 5, none⟩ (.int .i64 (-1))).setCell ⟨b, 6, none⟩ (.int .i64 1001)) b { n with level := l, name := nm, state := 2, inn := some fr, best := none, bw := 1001 } p ∧ NStep W3 (((W3.setCell ⟨b, 4, none⟩ (.int .i64 (fr : Int))).setCell ⟨b, 5, none⟩ (.int .i64 (-1))).setCell ⟨b, 6, none⟩ (.int .i64 1001)) b p p := fun _ => ⟨h7.1, h8⟩
  clear h5 h6 h7 h8 hr3 hs3 hx3
  simp only at c0 c3 c4 c5 c6
  generalize oi n.inn = ni at *
  generalize oi n.best = nb at *
  generalize n.bw = nw at *
  cases f with
  | true =>
    have h9 := (H7 ()).1.set (n' := n.ini fr l nm true) 0 (.int .i64 1) (by simp [ncells, Nod.ini]) rfl rfl rfl
    obtain ⟨W8, hW8⟩ : ∃ W8, W8 = (((W3.setCell ⟨b, 4, none⟩ (.int .i64 (fr : Int))).setCell ⟨b, 5, none⟩ (.int .i64 (-1))).setCell ⟨b, 6, none⟩ (.int .i64 1001)).setCell ⟨b, 0, none⟩ (.int .i64 1) := ⟨_, rfl⟩
    rw [← hW8] at h9
    have h10 := (H7 ()).2.trans h9.2
    have HI0 : Unit → Ini w W8 b n p fr l nm true xb 0 (n.ini fr l nm true) p := fun _ => ⟨h9.1, (H3 ()).2.1.trans h10, rfl, by simp [Nod.ini], rfl, (H3 ()).2.2.keep h10.keep (fun e => by have := HBL () _ e; have := (H1 ()).2.2.2; omega), fun e => by have := HBL () _ e; have := (H1 ()).2.2.2; omega⟩
    have HF : Unit → (n.edges.length : Int) < 1000 := fun _ => (H ()).2.1.few
    go_wp2_with fail
    rw [← hW8]
    clear hW8 h9 h10 H7 H3 c0 c3 c4 c5 c6 f0 f4 f5 f6 x2 hxl3 hbl3
    go_loopw [40] (fun v wr => ∃ (k : Nat) (q : Nod) (pr : Np), k ≤ n.edges.length ∧ v = .int .i64 (k : Int) ∧ Ini w wr b n p fr l nm true xb k q pr) (fun v _ => n.edges.length - (intOf v).toNat)
    case atStart => exact ⟨0, _, p, by omega, rfl, HI0 ()⟩
    case round =>
      obtain ⟨k, q, pr, hk, rfl, hini⟩ := hrel
      have HQ : Unit → Ini w wr b n p fr l nm true xb k q pr ∧ k ≤ n.edges.length := fun _ => ⟨hini, hk⟩
      have hbr := hini.rep.blk.lt
      clear hini
      by_cases hkl : k < n.edges.length
      · have HKL : Unit → k < n.edges.length := fun _ => hkl
        have hkI : (k : Int) < (n.edges.length : Int) := by omega
        obtain ⟨e, he⟩ : ∃ e, q.edges[k]? = some e := ⟨_, List.getElem?_eq_getElem (by rw [(HQ ()).1.edges]; exact hkl)⟩
        have hst : q.st k = e.2 := by unfold Nod.st; rw [he]
        have HST : Unit → q.st k = e.2 := fun _ => hst
        have HB : Unit → _ := fun _ => isBranch_any b q pr k e wr (HQ ()).1.rep he (by rw [(HQ ()).1.edges]; have := HF (); omega)
        have hk9 : (k : Int) < 1000 := by have := HF (); omega
        clear he hst hkl hk
        by_cases hfr : k = fr
        · subst hfr
          clear HB
          have HP : Unit → Ini w wr b n p k l nm true xb (k + 1) q pr := fun _ => (HQ ()).1.skip (HKL ()) (fun e => e.1 rfl)
          go_wp2
          exact ⟨⟨k + 1, q, pr, by have := HKL (); omega, by go_num, HP ()⟩, by have := HKL (); simp [intOf]; omega⟩
        · have hfr2 : ((k : Int) == (fr : Int)) = false := by rw [beq_eq_false_iff_ne]; omega
          have hfr3 : ¬ (k : Int) = (fr : Int) := by omega
          have HFR : Unit → k ≠ fr := fun _ => hfr
          clear hfr
          go_wp2_with fail
          refine Calls.mono (HB ()) ?_
          rintro r w2 ⟨rfl, hk2⟩
          have HQ2 : Unit → Ini w w2 b n p fr l nm true xb k q pr := fun _ => (HQ ()).1.keep hk2
          have x0 := (HQ2 ()).box.cell 0
          have x1 := (HQ2 ()).box.cell 1
          have x2 := (HQ2 ()).box.cell 2
          simp at x0 x1 x2
          have hxl := (HQ2 ()).box.lt
          clear hk2 HB
          by_cases h1 : e.2 = 1
          · have hd : decide (e.2 = 1) = true := decide_eq_true h1
            rw [hd]
            have HS : Unit → _ := fun _ => spread_any b q pr k l nm true w2 (HQ2 ()).rep (by have := (HQ2 ()).sent; have := (H ()).2.2; have := HF (); have := HKL (); omega)
            go_wp2_with fail
            refine Calls.mono (HS ()) ?_
            rintro r w3 ⟨rfl, p3, hr3, hs3⟩
            have HP : Unit → Ini w w3 b n p fr l nm true xb (k + 1) (q.spread k l nm true) p3 := fun _ => (HQ2 ()).next (HKL ()) ⟨HFR (), by rw [HST ()]; exact h1⟩ hr3 hs3
            clear hr3 hs3 HS x0 x1 x2
            go_wp2
            exact ⟨⟨k + 1, _, p3, by have := HKL (); omega, by go_num, HP ()⟩, by have := HKL (); simp [intOf]; omega⟩
          · have hd : decide (e.2 = 1) = false := decide_eq_false h1
            rw [hd]
            have HP : Unit → Ini w w2 b n p fr l nm true xb (k + 1) q pr := fun _ => (HQ2 ()).skip (HKL ()) (fun e => h1 (by rw [← HST ()]; exact e.2))
            clear x0 x1 x2
            go_wp2
            exact ⟨⟨k + 1, q, pr, by have := HKL (); omega, by go_num, HP ()⟩, by have := HKL (); simp [intOf]; omega⟩
      · have ek : k = n.edges.length := by omega
        subst ek
        have x2 := (HQ ()).1.box.cell 2
        simp at x2
        have hxl := (HQ ()).1.box.lt
        have HN : Unit → q = (n.ini fr l nm true).spreads fr l nm true n.edges.length 0 := fun _ => by have := (HQ ()).1.rest; rw [Nat.sub_self, Nod.spreads] at this; exact this
        clear hkl hk
        have HT : Unit → _ := fun _ => tests_any b q pr wr (HQ ()).1.rep ((H ()).2.1.of (HQ ()).1.edges) (by have := (HQ ()).1.sent; have := (H ()).2.2; have := HF (); omega)
        go_wp2_with fail
        refine Calls.mono (HT ()) ?_
        rintro r w3 ⟨rfl, p3, hr3, hs3⟩
        have HP : Unit → ∃ p', NRep w3 b (n.initiate fr l nm true) p' ∧ NStep w w3 b p p' := fun _ => ⟨p3, by rw [HN ()] at hr3; exact hr3, (HQ ()).1.step.trans hs3⟩
        clear hr3 hs3 HT x2
        go_wp2
        go_end0
        exact ⟨rfl, HP ()⟩
  | false =>
    have h9 := H7 ()
    obtain ⟨W8, hW8⟩ : ∃ W8, W8 = ((W3.setCell ⟨b, 4, none⟩ (.int .i64 (fr : Int))).setCell ⟨b, 5, none⟩ (.int .i64 (-1))).setCell ⟨b, 6, none⟩ (.int .i64 1001) := ⟨_, rfl⟩
    rw [← hW8] at h9
    have h10 := h9.2
    have HI0 : Unit → Ini w W8 b n p fr l nm false xb 0 (n.ini fr l nm false) p := fun _ => ⟨h9.1, (H3 ()).2.1.trans h10, rfl, by simp [Nod.ini], rfl, (H3 ()).2.2.keep h10.keep (fun e => by have := HBL () _ e; have := (H1 ()).2.2.2; omega), fun e => by have := HBL () _ e; have := (H1 ()).2.2.2; omega⟩
    have HF : Unit → (n.edges.length : Int) < 1000 := fun _ => (H ()).2.1.few
    go_wp2_with fail
    rw [← hW8]
    clear hW8 h9 h10 H7 H3 c0 c3 c4 c5 c6 f0 f4 f5 f6 x2 hxl3 hbl3
    go_loopw [40] (fun v wr => ∃ (k : Nat) (q : Nod) (pr : Np), k ≤ n.edges.length ∧ v = .int .i64 (k : Int) ∧ Ini w wr b n p fr l nm false xb k q pr) (fun v _ => n.edges.length - (intOf v).toNat)
    case atStart => exact ⟨0, _, p, by omega, rfl, HI0 ()⟩
    case round =>
      obtain ⟨k, q, pr, hk, rfl, hini⟩ := hrel
      have HQ : Unit → Ini w wr b n p fr l nm false xb k q pr ∧ k ≤ n.edges.length := fun _ => ⟨hini, hk⟩
      have hbr := hini.rep.blk.lt
      clear hini
      by_cases hkl : k < n.edges.length
      · have HKL : Unit → k < n.edges.length := fun _ => hkl
        have hkI : (k : Int) < (n.edges.length : Int) := by omega
        obtain ⟨e, he⟩ : ∃ e, q.edges[k]? = some e := ⟨_, List.getElem?_eq_getElem (by rw [(HQ ()).1.edges]; exact hkl)⟩
        have hst : q.st k = e.2 := by unfold Nod.st; rw [he]
        have HST : Unit → q.st k = e.2 := fun _ => hst
        have HB : Unit → _ := fun _ => isBranch_any b q pr k e wr (HQ ()).1.rep he (by rw [(HQ ()).1.edges]; have := HF (); omega)
        have hk9 : (k : Int) < 1000 := by have := HF (); omega
        clear he hst hkl hk
        by_cases hfr : k = fr
        · subst hfr
          clear HB
          have HP : Unit → Ini w wr b n p k l nm false xb (k + 1) q pr := fun _ => (HQ ()).1.skip (HKL ()) (fun e => e.1 rfl)
          go_wp2
          exact ⟨⟨k + 1, q, pr, by have := HKL (); omega, by go_num, HP ()⟩, by have := HKL (); simp [intOf]; omega⟩
        · have hfr2 : ((k : Int) == (fr : Int)) = false := by rw [beq_eq_false_iff_ne]; omega
          have hfr3 : ¬ (k : Int) = (fr : Int) := by omega
          have HFR : Unit → k ≠ fr := fun _ => hfr
          clear hfr
          go_wp2_with fail
          refine Calls.mono (HB ()) ?_
          rintro r w2 ⟨rfl, hk2⟩
          have HQ2 : Unit → Ini w w2 b n p fr l nm false xb k q pr := fun _ => (HQ ()).1.keep hk2
          have x0 := (HQ2 ()).box.cell 0
          have x1 := (HQ2 ()).box.cell 1
          have x2 := (HQ2 ()).box.cell 2
          simp at x0 x1 x2
          have hxl := (HQ2 ()).box.lt
          clear hk2 HB
          by_cases h1 : e.2 = 1
          · have hd : decide (e.2 = 1) = true := decide_eq_true h1
            rw [hd]
            have HS : Unit → _ := fun _ => spread_any b q pr k l nm false w2 (HQ2 ()).rep (by have := (HQ2 ()).sent; have := (H ()).2.2; have := HF (); have := HKL (); omega)
            go_wp2_with fail
            refine Calls.mono (HS ()) ?_
            rintro r w3 ⟨rfl, p3, hr3, hs3⟩
            have HP : Unit → Ini w w3 b n p fr l nm false xb (k + 1) (q.spread k l nm false) p3 := fun _ => (HQ2 ()).next (HKL ()) ⟨HFR (), by rw [HST ()]; exact h1⟩ hr3 hs3
            clear hr3 hs3 HS x0 x1 x2
            go_wp2
            exact ⟨⟨k + 1, _, p3, by have := HKL (); omega, by go_num, HP ()⟩, by have := HKL (); simp [intOf]; omega⟩
          · have hd : decide (e.2 = 1) = false := decide_eq_false h1
            rw [hd]
            have HP : Unit → Ini w w2 b n p fr l nm false xb (k + 1) q pr := fun _ => (HQ2 ()).skip (HKL ()) (fun e => h1 (by rw [← HST ()]; exact e.2))
            clear x0 x1 x2
            go_wp2
            exact ⟨⟨k + 1, q, pr, by have := HKL (); omega, by go_num, HP ()⟩, by have := HKL (); simp [intOf]; omega⟩
      · have ek : k = n.edges.length := by omega
        subst ek
        have x2 := (HQ ()).1.box.cell 2
        simp at x2
        have hxl := (HQ ()).1.box.lt
        have HN : Unit → q = (n.ini fr l nm false).spreads fr l nm false n.edges.length 0 := fun _ => by have := (HQ ()).1.rest; rw [Nat.sub_self, Nod.spreads] at this; exact this
        clear hkl hk
        have HP : Unit → ∃ p', NRep wr b (n.initiate fr l nm false) p' ∧ NStep w wr b p p' := fun _ => ⟨pr, by have := (HQ ()).1.rep; rw [HN ()] at this; exact this, (HQ ()).1.step⟩
        go_wp2
        go_end0
        exact ⟨rfl, HP ()⟩
end Go.Proofs.YtlfijfodklhplaaGreat
