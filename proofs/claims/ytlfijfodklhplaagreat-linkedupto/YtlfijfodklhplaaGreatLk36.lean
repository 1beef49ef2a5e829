import Derived.Test.YtlfijfodklhplaaGreatLk35
import Derived.StillTailTactics
import Derived.Deep.DeepCutAuto
/- The document's end: NewEnd, Out, shows, Tick. -/
namespace Go.Proofs.YtlfijfodklhplaaGreat
open Go.RowKit
set_option linter.unusedVariables false
set_option linter.unusedSimpArgs false

def Rf.showsTo (e : Rf) (t : Nat) : Rf := { e with shown := t, out := e.out ++ En.frames e.shown ((e.sent.take t).drop e.shown) }
theorem showsTo_zero (e : Rf) : e.showsTo e.shown = e := by
  unfold Rf.showsTo
  rw [List.drop_of_length_le (by simp; omega)]
  simp [En.frames]
theorem showsTo_succ (e : Rf) (t : Nat) (m : Fr.Msg) (h : e.shown ≤ t) (hm : e.sent[t]? = some m) : e.showsTo (t + 1) = { e.showsTo t with shown := t + 1, out := (e.showsTo t).out ++ [⟨true, t, m⟩] } := by
  have hl := (List.getElem?_eq_some_iff.1 hm).1
  unfold Rf.showsTo
  simp only [Rf.mk.injEq, true_and]
  rw [List.take_add_one, hm, List.drop_append_of_le_length (by simp; omega), frames_append, ← List.append_assoc]
  simp [En.frames, List.length_drop, List.length_take]
  omega
theorem RRep.sent_at {w : World} {b : Nat} {e : Rf} {p : Rp} (h : RRep w b e p) (t : Nat) (m : Fr.Msg) (hm : e.sent[t]? = some m) : ∃ g o, p.sa = some ⟨g, o, none⟩ ∧ g < w.heap.size ∧ w.cell? ⟨g, o + t * 4, none⟩ = some (.int .i64 (m.kind : Int)) ∧ w.cell? ⟨g, o + t * 4 + 1, none⟩ = some (.int .i64 (m.level : Int)) ∧ w.cell? ⟨g, o + t * 4 + 2, none⟩ = some (.int .i64 (m.name : Int)) ∧ w.cell? ⟨g, o + t * 4 + 3, none⟩ = some (.bool m.finding) := by
  rcases h.srow.2.2 with ⟨_, h0, _⟩ | ⟨g, o, h0, hv⟩
  · have := (List.getElem?_eq_some_iff.1 hm).1; omega
  · have key : ∀ i u, (mcell m)[i]? = some u → w.cell? ⟨g, o + t * 4 + i, none⟩ = some u := fun i u hu => by
      have hi : i < 4 := by have := (List.getElem?_eq_some_iff.1 hu).1; simpa [mcell] using this
      have := hv.cell (t * 4 + i) u (by rw [mcells_get e.sent t m hm i hi]; exact hu)
      rw [← Nat.add_assoc] at this
      exact this
    exact ⟨g, o, h0, hv.lt, key 0 _ rfl, key 1 _ rfl, key 2 _ rfl, key 3 _ rfl⟩

theorem refNew_any (w : World) : Calls Tryz.prog 42 #[] w fun r w' => r = .returned (.pointer (some ⟨w.heap.size, 0, none⟩)) ∧ RRep w' w.heap.size Rf.new Rp.new ∧ Keep nil w w' := by
  go_enter Tryz.func42, Tryz.ntmps42
  go_wp2
  go_ret
  refine ⟨rfl, ⟨Blk.new _ _ _, RV.nil _ _ _, RV.nil _ _ _, RV.nil _ _ _, rfl, fun i g f hg => by simp [Rp.new] at hg, inB_none _, inB_none _, inB_none _, fun k h => (inB_none k h).elim, fun k h => (inB_none k h).elim, fun k h => (inB_none k h).elim, fun k c h => by simp [Rp.new] at h, fun m h => by simp [Rf.new] at h, by simp [Rf.new], by simp [Rf.new], by simp [Rf.new], fun f h => by simp [Rf.new] at h⟩, (Keep.refl nil w).alloc _⟩

def Rf.outs (e : Rf) : Rf := { e with out := [] }
theorem RRep.outs {w : World} {b : Nat} {e : Rf} {p : Rp} (h : RRep w b e p) : RRep (w.setCell ⟨b, 5, none⟩ (.slice none 0 0)) b e.outs { p with fa := none, fc := 0, gs := [] } := by
  have ks : Keep (only b) w (w.setCell ⟨b, 5, none⟩ (.slice none 0 0)) := (Keep.refl (only b) w).setCell (p := ⟨b, 5, none⟩) (fun _ => rfl) _
  refine ⟨?_, h.srow.keep ks (fun k x y => h.sb (y ▸ x)), h.krow.keep ks (fun k x y => h.kb (y ▸ x)), RV.nil _ _ _, rfl, fun i g f hg => by simp at hg, h.sb, h.kb, inB_none _, h.sk, fun k _ => inB_none k, fun k _ => inB_none k, fun k c hk => by simp at hk, h.wok, h.most, h.sh, h.ac, fun f hf => by simp [Rf.outs] at hf⟩
  have := h.blk.set 5 (.slice none 0 0)
  have e1 : (rcells e p).setIfInBounds 5 (.slice none 0 0) = rcells e.outs { p with fa := none, fc := 0, gs := [] } := by simp [rcells, Rf.outs]
  rwa [e1] at this
theorem refOut_any (b : Nat) (e : Rf) (p : Rp) (w : World) (h : RRep w b e p) :
    Calls Tryz.prog 135 #[.pointer (some ⟨b, 0, none⟩)] w fun r w' => r = .returned (.slice p.fa e.out.length p.fc) ∧ RRep w' b e.outs { p with fa := none, fc := 0, gs := [] } ∧ Keep (only b) w w' := by
  have q1 := h.blk.cell 5
  simp [rcells] at q1
  have q2 := h.blk.frozen 5
  have HR : Unit → RRep w b e p := fun _ => h
  clear h
  go_enter Tryz.func135, Tryz.ntmps135
  go_wp2
  go_ret
  exact ⟨rfl, (HR ()).outs, (Keep.refl (only b) w).setCell (p := ⟨b, 5, none⟩) (fun _ => rfl) _⟩

theorem frames_ok {n : Nat} {l : List Fr.Msg} (h : ∀ m ∈ l, MOk m) (hn : n + l.length ≤ 65536) : ∀ f ∈ En.frames n l, FrOk f := by
  induction l generalizing n with
  | nil => intro f hf; simp [En.frames] at hf
  | cons m r ih =>
    intro f hf
    simp only [En.frames, List.mem_cons] at hf
    rcases hf with rfl | hf
    · simp at hn
      exact ⟨by simp only; omega, Or.inl ⟨rfl, h m (by simp)⟩⟩
    · exact ih (fun x hx => h x (by simp [hx])) (by simp at hn; omega) f hf

/-- A number in a cell. -/
def natAt (w : World) (b i : Nat) : Nat := match w.cell? ⟨b, i, none⟩ with | some (.int _ z) => z.toNat | _ => 0
theorem natAt_of {w : World} {b i : Nat} {n : Nat} (h : w.cell? ⟨b, i, none⟩ = some (.int .i64 (n : Int))) : natAt w b i = n := by
  unfold natAt; rw [h]; simp

set_option maxRecDepth 100000 in
set_option maxHeartbeats 1000000 in
theorem refShows_any (b : Nat) (e : Rf) (p : Rp) (w : World) (h : RRep w b e p) (hn : (e.out.length : Int) < 5864061014000) :
    Calls Tryz.prog 130 #[.pointer (some ⟨b, 0, none⟩)] w fun r w' => r = .returned (.tuple #[]) ∧ ∃ p', RRep w' b (e.showsTo (max e.shown (min e.sent.length (e.acked + 4)))) p' ∧ RStep w w' b p p' ∧ p'.ka = p.ka ∧ p'.kc = p.kc := by
  have HR : Unit → RRep w b e p := fun _ => h
  have HN : Unit → (e.out.length : Int) < 5864061014000 := fun _ => hn
  clear h hn
  obtain ⟨T, hT⟩ : ∃ T, T = max e.shown (min e.sent.length (e.acked + 4)) := ⟨_, rfl⟩
  rw [← hT]
  have HT : Unit → T = max e.shown (min e.sent.length (e.acked + 4)) := fun _ => hT
  clear hT
  go_enter Tryz.func130, Tryz.ntmps130
  go_wp2_with fail
  go_loopw [] (fun wr => ∃ (t : Nat) (p1 : Rp), e.shown ≤ t ∧ t ≤ T ∧ RRep wr b (e.showsTo t) p1 ∧ RStep w wr b p p1 ∧ p1.ka = p.ka ∧ p1.kc = p.kc) (fun wr => T - natAt wr b 2)
  case atStart => exact ⟨e.shown, p, Nat.le_refl _, by have := HT (); omega, by rw [showsTo_zero]; exact HR (), RStep.refl _ _ _, rfl, rfl⟩
  case round =>
    obtain ⟨t, p1, ht1, ht2, hr, hs, hka, hkc⟩ := hrel
    have q0 := hr.blk.cell 0
    have q1 := hr.blk.cell 1
    have q2 := hr.blk.cell 2
    have f2 := hr.blk.frozen 2
    simp [rcells, Rf.showsTo] at q0 q1 q2
    have hbw := hr.blk.lt
    have HRR : Unit → RRep wr b (e.showsTo t) p1 ∧ RStep w wr b p p1 ∧ p1.ka = p.ka ∧ p1.kc = p.kc ∧ e.shown ≤ t ∧ t ≤ T := fun _ => ⟨hr, hs, hka, hkc, ht1, ht2⟩
    have hml : (e.sent.length : Int) ≤ 65536 := by have := (HR ()).most; omega
    have hma : (e.acked : Int) ≤ 65536 := by have := (HR ()).most; have := (HR ()).sh; have := (HR ()).ac; omega
    clear hr hs hka hkc ht1 ht2
    by_cases h1 : t < e.sent.length
    · have h1I : (t : Int) < (e.sent.length : Int) := by omega
      by_cases h2 : t < e.acked + 4
      · have h2I : (t : Int) < (e.acked : Int) + 4 := by omega
        have HTT : Unit → t + 1 ≤ T := fun _ => by have := HT (); omega
        obtain ⟨m, hm⟩ : ∃ m, e.sent[t]? = some m := ⟨_, List.getElem?_eq_getElem h1⟩
        obtain ⟨g, o, hga, hgl, m0, m1, m2, m3⟩ := (HRR ()).1.sent_at t m hm
        rw [hga] at q0
        have HMM : Unit → e.sent[t]? = some m := fun _ => hm
        clear hga hm
        go_wp2_with fail
        go_quiet (fail)
        go_wp2_with fail
        obtain ⟨W1, hW1⟩ : ∃ W1, W1 = wr.drewN nq := ⟨_, rfl⟩
        have HD : Unit → Keep nil wr W1.drew := fun _ => by rw [hW1]; exact ((Keep.refl nil wr).drewN nq).drew
        have kd : Keep nil wr W1 := by rw [hW1]; exact (Keep.refl nil wr).drewN nq
        rw [← hW1]
        replace q0 := (kd.cell b 0 hbw (fun e => e)).trans q0
        replace q1 := (kd.cell b 1 hbw (fun e => e)).trans q1
        replace q2 := (kd.cell b 2 hbw (fun e => e)).trans q2
        replace m0 := (kd.cell g _ hgl (fun e => e)).trans m0
        replace m1 := (kd.cell g _ hgl (fun e => e)).trans m1
        replace m2 := (kd.cell g _ hgl (fun e => e)).trans m2
        replace m3 := (kd.cell g _ hgl (fun e => e)).trans m3
        have hbW : b < W1.heap.size := Nat.lt_of_lt_of_le hbw kd.size
        have hgW : g < W1.heap.size := Nat.lt_of_lt_of_le hgl kd.size
        clear hW1 kd hbw hgl f2
        have hfr : FrOk ⟨true, t, m⟩ := by
          have h1 := (HR ()).wok m (List.mem_of_getElem? (HMM ()))
          exact ⟨by simp only; omega, Or.inl ⟨rfl, h1⟩⟩
        have HFR : Unit → Calls Tryz.prog 134 #[.pointer (some ⟨b, 0, none⟩), .agg (fv ⟨true, t, m⟩)] W1.drew fun r w' => r = .returned (.tuple #[]) ∧ ∃ p', RRep w' b { e.showsTo t with out := (e.showsTo t).out ++ [⟨true, t, m⟩] } p' ∧ RStep W1.drew w' b p1 p' ∧ p'.sa = p1.sa ∧ p'.sc = p1.sc ∧ p'.ka = p1.ka ∧ p'.kc = p1.kc := fun _ =>
          refFrame_any b (e.showsTo t) p1 ⟨true, t, m⟩ hfr W1.drew ((HRR ()).1.keep (HD ()) (fun _ _ x => x)) (by
            have := HN ()
            have h65 := (HR ()).most
            simp only [Rf.showsTo, List.length_append, frames_len, List.length_drop, List.length_take]
            omega)
        clear hfr
        go_still_tail 16, (by kernel_rfl)
        go_wp2_with fail
        refine Calls.mono (HFR ()) ?_
        rintro r w2 ⟨rfl, p2, hr2, hs2, _, _, hka2, hkc2⟩
        clear q0 q1 q2 m0 m1 m2 m3
        have q2 := hr2.blk.cell 2
        have f2 := hr2.blk.frozen 2
        simp [rcells, Rf.showsTo] at q2
        have hb2 := hr2.blk.lt
        have hset := hr2.set (e' := e.showsTo (t + 1)) 2 (.int .i64 ((t : Int) + 1)) (by rw [showsTo_succ e t m (HRR ()).2.2.2.2.1 (HMM ())]; simp [rcells]) (by rfl) (by rfl) (by rw [showsTo_succ e t m (HRR ()).2.2.2.2.1 (HMM ())]) (by show t + 1 ≤ e.sent.length; omega) (by show e.acked ≤ t + 1; have := (HR ()).ac; have := (HRR ()).2.2.2.2.1; omega)
        have HQ : Unit → RRep (w2.setCell ⟨b, 2, none⟩ (.int .i64 ((t : Int) + 1))) b (e.showsTo (t + 1)) p2 ∧ RStep w (w2.setCell ⟨b, 2, none⟩ (.int .i64 ((t : Int) + 1))) b p p2 ∧ p2.ka = p.ka ∧ p2.kc = p.kc := fun _ =>
          ⟨hset.1, (((HRR ()).2.1.trans (RStep.of_keep b p1 (HD ()))).trans hs2).trans hset.2, hka2.trans (HRR ()).2.2.1, hkc2.trans (HRR ()).2.2.2.1⟩
        have HC2 : Unit → wr.cell? ⟨b, 2, none⟩ = some (.int .i64 (t : Int)) := fun _ => (HRR ()).1.blk.cell 2
        clear hset hr2 hs2 hka2 hkc2 HFR
        have ht3 : (t : Int) < 65536 := by omega
        go_wp2
        go_roundw
        case rel => exact ⟨t + 1, p2, by have := (HRR ()).2.2.2.2.1; omega, HTT (), (HQ ()).1, (HQ ()).2.1, (HQ ()).2.2.1, (HQ ()).2.2.2⟩
        case measure =>
          rw [natAt_of (HC2 ()), natAt_of (n := t + 1) ((HQ ()).1.blk.cell 2)]
          have := HTT ()
          omega
      · have h2I : (e.acked : Int) + 4 ≤ (t : Int) := by omega
        have HTE : Unit → t = T := fun _ => by have := HT (); have := (HRR ()).2.2.2.2.2; have := (HRR ()).2.2.2.2.1; omega
        go_wp2_with fail
        go_quiet (fail)
        go_wp2
        go_end0
        refine ⟨rfl, p1, ?_, (HRR ()).2.1.trans (RStep.of_keep b p1 ((Keep.refl nil wr).drewN nq)), (HRR ()).2.2.1, (HRR ()).2.2.2.1⟩
        have := (HRR ()).1.keep ((Keep.refl nil wr).drewN nq) (fun _ _ x => x)
        rwa [HTE ()] at this
    · have h1I : (e.sent.length : Int) ≤ (t : Int) := by omega
      have HTE : Unit → t = T := fun _ => by have := HT (); have := (HRR ()).2.2.2.2.2; have := (HRR ()).2.2.2.2.1; omega
      go_wp2_with fail
      go_quiet (fail)
      go_wp2
      go_end0
      refine ⟨rfl, p1, ?_, (HRR ()).2.1.trans (RStep.of_keep b p1 ((Keep.refl nil wr).drewN nq)), (HRR ()).2.2.1, (HRR ()).2.2.2.1⟩
      have := (HRR ()).1.keep ((Keep.refl nil wr).drewN nq) (fun _ _ x => x)
      rwa [HTE ()] at this
end Go.Proofs.YtlfijfodklhplaaGreat
/- The document's end: Tick and Send. -/
namespace Go.Proofs.YtlfijfodklhplaaGreat
open Go.RowKit
set_option linter.unusedVariables false
set_option linter.unusedSimpArgs false

/-- Again, up to a number. -/
def Rf.again (e : Rf) (t : Nat) : Rf := { e with out := e.out ++ En.frames e.acked ((e.sent.take t).drop e.acked) }
theorem again_zero (e : Rf) : e.again e.acked = e := by
  unfold Rf.again
  rw [List.drop_of_length_le (by simp; omega)]
  simp [En.frames]
theorem again_succ (e : Rf) (t : Nat) (m : Fr.Msg) (h : e.acked ≤ t) (hm : e.sent[t]? = some m) : e.again (t + 1) = { e.again t with out := (e.again t).out ++ [⟨true, t, m⟩] } := by
  have hl := (List.getElem?_eq_some_iff.1 hm).1
  unfold Rf.again
  simp only [Rf.mk.injEq, true_and]
  rw [List.take_add_one, hm, List.drop_append_of_le_length (by simp; omega), frames_append, ← List.append_assoc]
  simp [En.frames, List.length_drop, List.length_take]
  omega

set_option maxRecDepth 100000 in
set_option maxHeartbeats 1000000 in
theorem refTick_any (b : Nat) (e : Rf) (p : Rp) (w : World) (h : RRep w b e p) (hn : (e.out.length : Int) < 5864061014000) :
    Calls Tryz.prog 88 #[.pointer (some ⟨b, 0, none⟩)] w fun r w' => r = .returned (.tuple #[]) ∧ ∃ p', RRep w' b (e.again e.shown) p' ∧ RStep w w' b p p' := by
  have HR : Unit → RRep w b e p := fun _ => h
  have HN : Unit → (e.out.length : Int) < 5864061014000 := fun _ => hn
  have q1 := h.blk.cell 1
  simp [rcells] at q1
  have hbl := h.blk.lt
  clear h hn
  go_enter Tryz.func88, Tryz.ntmps88
  go_wp2_with fail
  clear q1 hbl
  go_loopw [2] (fun v wr => ∃ (t : Nat) (p1 : Rp), e.acked ≤ t ∧ t ≤ e.shown ∧ v = .int .i64 (t : Int) ∧ RRep wr b (e.again t) p1 ∧ RStep w wr b p p1) (fun v _ => e.shown - (intOf v).toNat)
  case atStart => exact ⟨e.acked, p, Nat.le_refl _, (HR ()).ac, rfl, by rw [again_zero]; exact HR (), RStep.refl _ _ _⟩
  case round =>
    obtain ⟨t, p1, ht1, ht2, rfl, hr, hs⟩ := hrel
    have q0 := hr.blk.cell 0
    have q2 := hr.blk.cell 2
    simp [rcells, Rf.again] at q0 q2
    have hbw := hr.blk.lt
    have HRR : Unit → RRep wr b (e.again t) p1 ∧ RStep w wr b p p1 ∧ e.acked ≤ t ∧ t ≤ e.shown ∧ e.shown ≤ e.sent.length := fun _ => ⟨hr, hs, ht1, ht2, (HR ()).sh⟩
    have hml : (e.sent.length : Int) ≤ 65536 := by have := (HR ()).most; omega
    have hms : (e.shown : Int) ≤ (e.sent.length : Int) := by have := (HR ()).sh; omega
    clear hr hs ht1
    by_cases h1 : t < e.shown
    · have h1I : (t : Int) < (e.shown : Int) := by omega
      have h1L : (t : Int) < (e.sent.length : Int) := by omega
      obtain ⟨m, hm⟩ : ∃ m, e.sent[t]? = some m := ⟨_, List.getElem?_eq_getElem (by omega)⟩
      obtain ⟨g, o, hga, hgl, m0, m1, m2, m3⟩ := (HRR ()).1.sent_at t m hm
      rw [hga] at q0
      have HMM : Unit → e.sent[t]? = some m := fun _ => hm
      clear hga hm
      have hfr : FrOk ⟨true, t, m⟩ := by
        have h1 := (HR ()).wok m (List.mem_of_getElem? (HMM ()))
        exact ⟨by simp only; omega, Or.inl ⟨rfl, h1⟩⟩
      have HFR : Unit → Calls Tryz.prog 134 #[.pointer (some ⟨b, 0, none⟩), .agg (fv ⟨true, t, m⟩)] wr fun r w' => r = .returned (.tuple #[]) ∧ ∃ p', RRep w' b { e.again t with out := (e.again t).out ++ [⟨true, t, m⟩] } p' ∧ RStep wr w' b p1 p' ∧ p'.sa = p1.sa ∧ p'.sc = p1.sc ∧ p'.ka = p1.ka ∧ p'.kc = p1.kc := fun _ =>
        refFrame_any b (e.again t) p1 ⟨true, t, m⟩ hfr wr (HRR ()).1 (by
          have := HN ()
          have h65 := (HR ()).most
          simp only [Rf.again, List.length_append, frames_len, List.length_drop, List.length_take]
          omega)
      clear hfr
      go_wp2_with fail
      refine Calls.mono (HFR ()) ?_
      rintro r w2 ⟨rfl, p2, hr2, hs2, _⟩
      rw [← again_succ e t m (HRR ()).2.2.1 (HMM ())] at hr2
      have HQ : Unit → RRep w2 b (e.again (t + 1)) p2 ∧ RStep w w2 b p p2 := fun _ => ⟨hr2, (HRR ()).2.1.trans hs2⟩
      clear hr2 hs2 HFR q0 q2 m0 m1 m2 m3
      go_wp2
      go_roundw
      case rel => exact ⟨t + 1, p2, by have := HRR (); omega, by omega, by go_num, (HQ ()).1, (HQ ()).2⟩
      case measure => simp [intOf]; omega
    · have h1I : (e.shown : Int) ≤ (t : Int) := by omega
      have hte : t = e.shown := by omega
      have HTE : Unit → t = e.shown := fun _ => hte
      clear hte
      go_wp2
      go_end0
      refine ⟨rfl, p1, ?_, (HRR ()).2.1⟩
      have := (HRR ()).1
      rwa [HTE ()] at this

theorem refSend_no (b : Nat) (k l n : Int) (f : Bool) (hm : may k l n f = false) (w : World) :
    Calls Tryz.prog 85 #[.pointer (some ⟨b, 0, none⟩), .agg #[.int .i64 k, .int .i64 l, .int .i64 n, .bool f]] w fun r w' => r = .returned (.int .i64 10) ∧ Keep nil w w' := by
  have HM : Unit → ∀ w, Calls Tryz.prog 125 #[.agg #[.int .i64 k, .int .i64 l, .int .i64 n, .bool f]] w fun r w' => r = .returned (.bool false) ∧ Keep nil w w' := fun _ w => by
    have := refmay_any k l n f w
    rwa [hm] at this
  clear hm
  go_enter Tryz.func85, Tryz.ntmps85
  go_wp2_with fail
  refine (HM () _).mono ?_
  rintro r w1 ⟨rfl, hk1⟩
  have HK : Unit → Keep nil w w1 := fun _ => ((Keep.refl nil w).alloc _).trans hk1
  clear hk1
  go_wp2
  go_ret
  exact ⟨rfl, HK ()⟩

theorem refSend_full (b : Nat) (e : Rf) (p : Rp) (m : Fr.Msg) (hm : MOk m) (w : World) (h : RRep w b e p) (hf : e.sent.length = 65536) :
    Calls Tryz.prog 85 #[.pointer (some ⟨b, 0, none⟩), mv m] w fun r w' => r = .returned (.int .i64 1) ∧ Keep nil w w' := by
  have HM : Unit → ∀ w, Calls Tryz.prog 125 #[mv m] w fun r w' => r = .returned (.bool true) ∧ Keep nil w w' := fun _ w => by
    have := refmay_any (m.kind : Int) (m.level : Int) (m.name : Int) m.finding w
    rwa [hm.2.2.2] at this
  have HR : Unit → RRep w b e p := fun _ => h
  have hfI : (e.sent.length : Int) = 65536 := by omega
  have hbl := h.blk.lt
  clear hm h hf
  go_enter Tryz.func85, Tryz.ntmps85
  go_wp2_with fail
  refine (HM () _).mono ?_
  rintro r w1 ⟨rfl, hk1⟩
  have HK : Unit → Keep nil w w1 := fun _ => ((Keep.refl nil w).alloc _).trans hk1
  clear hk1
  have q0 := ((HR ()).keep (HK ()) (fun _ _ x => x)).blk.cell 0
  simp [rcells] at q0
  have hbw := ((HR ()).keep (HK ()) (fun _ _ x => x)).blk.lt
  go_wp2
  go_ret
  exact ⟨rfl, HK ()⟩
end Go.Proofs.YtlfijfodklhplaaGreat
/- The document's end: Send, of a message that may be. -/
namespace Go.Proofs.YtlfijfodklhplaaGreat
open Go.RowKit
set_option linter.unusedVariables false
set_option linter.unusedSimpArgs false

def Rf.put (e : Rf) (m : Fr.Msg) : Rf := { e with sent := e.sent ++ [m] }
theorem RRep.sent_one {w w1 : World} {b : Nat} {e : Rf} {p : Rp} (h : RRep w b e p) (m : Fr.Msg) (hm : MOk m) (hl : e.sent.length < 65536) (a' : Option Addr) (c' : Nat)
    (hr : RV w1 76 4 a' (e.sent.length + 1) c' (mcells e.sent ++ mcell m)) (ha : ∀ k, inB a' k → inB p.sa k ∨ w.heap.size ≤ k) (hk : Keep (inB p.sa) w w1) :
    RRep (w1.setCell ⟨b, 0, none⟩ (.slice a' (e.sent.length + 1) c')) b (e.put m) { p with sa := a', sc := c' } ∧ RStep w (w1.setCell ⟨b, 0, none⟩ (.slice a' (e.sent.length + 1) c')) b p { p with sa := a', sc := c' } := by
  have ks : Keep (only b) w1 (w1.setCell ⟨b, 0, none⟩ (.slice a' (e.sent.length + 1) c')) := (Keep.refl (only b) w1).setCell (p := ⟨b, 0, none⟩) (fun _ => rfl) _
  have hlt := h.lt
  have hb0 := h.blk.lt
  have hab : ∀ k, inB a' k → k ≠ b := fun k hk' e => (ha k hk').elim (fun x => h.sb (e ▸ x)) (fun x => by omega)
  have hk2 : ∀ k, inB a' k → ¬ inB p.ka k := fun k hk' e => (ha k hk').elim (fun x => h.sk k x e) (fun x => by have := h.krow.lt k e; omega)
  have hf2 : ∀ k, inB a' k → ¬ inB p.fa k := fun k hk' e => (ha k hk').elim (fun x => h.sf k x e) (fun x => by have := h.frow.lt k e; omega)
  refine ⟨⟨?_, ?_, ?_, ?_, h.gl, ?_, fun x => hab b x rfl, h.kb, h.fb, hk2, hf2, h.kf, ?_, ?_, ?_, ?_, h.ac, h.fok⟩, ⟨fun k hk' => ?_, fun k c hk' => Or.inl ⟨c, hk'⟩, ?_⟩⟩
  · have := (h.blk.keep hk h.sb).set 0 (.slice a' (e.sent.length + 1) c')
    have e1 : (rcells e p).setIfInBounds 0 (.slice a' (e.sent.length + 1) c') = rcells (e.put m) { p with sa := a', sc := c' } := by
      simp [rcells, Rf.put]
    rwa [e1] at this
  · show RV _ _ _ a' (e.sent ++ [m]).length c' (mcells (e.sent ++ [m]))
    rw [mcells_append, List.length_append]
    have : mcells [m] = mcell m := by simp [mcells]
    rw [this]
    exact hr.keep ks (fun k x => hab k x)
  · exact (h.krow.keep hk (fun k x y => h.sk k y x)).keep ks (fun k x y => h.kb (y ▸ x))
  · exact (h.frow.keep hk (fun k x y => h.sf k y x)).keep ks (fun k x y => h.fb (y ▸ x))
  · intro i g f hg hf
    have := h.bufs i g f hg hf
    have hw := h.gw g.1 g.2 (List.mem_of_getElem? hg)
    exact ⟨(this.1.keep hk (fun x => hw (Or.inr (Or.inl x)))).keep ks (fun x => hw (Or.inl x)), this.2⟩
  · intro k c hkc h3
    have h1 := h.gw k c hkc
    have h2 := hlt k (Or.inr ⟨c, hkc⟩)
    rcases h3 with x | x | x | x
    · exact h1 (Or.inl x)
    · rcases ha k x with y | y
      · exact h1 (Or.inr (Or.inl y))
      · omega
    · exact h1 (Or.inr (Or.inr (Or.inl x)))
    · exact h1 (Or.inr (Or.inr (Or.inr x)))
  · intro x hx
    rcases List.mem_append.1 hx with y | y
    · exact h.wok x y
    · simp at y; subst y; exact hm
  · show (e.sent ++ [m]).length ≤ 65536
    simp; omega
  · show e.shown ≤ (e.sent ++ [m]).length
    have := h.sh; simp; omega
  · rcases hk' with x | x | x | x
    · exact Or.inl (Or.inl x)
    · exact (ha k x).imp (fun y => Or.inr (Or.inl y)) id
    · exact Or.inl (Or.inr (Or.inr (Or.inl x)))
    · exact Or.inl (Or.inr (Or.inr (Or.inr x)))
  · exact (hk.mono (ex' := RWri b p) (fun _ _ e => Or.inr (Or.inl e))).setCell (p := ⟨b, 0, none⟩) (fun _ => Or.inl rfl) _

/-- A message is sent. -/
def Rf.send (e : Rf) (m : Fr.Msg) : Rf := (e.put m).showsTo (max e.shown (min (e.sent.length + 1) (e.acked + 4)))
set_option maxRecDepth 100000 in
set_option maxHeartbeats 1000000 in
theorem refSend_yes (b : Nat) (e : Rf) (p : Rp) (m : Fr.Msg) (hm : MOk m) (w : World) (h : RRep w b e p) (hf : e.sent.length < 65536) (hn : (e.out.length : Int) < 5864061014000) :
    Calls Tryz.prog 85 #[.pointer (some ⟨b, 0, none⟩), mv m] w fun r w' => r = .returned (.int .i64 0) ∧ ∃ p', RRep w' b (e.send m) p' ∧ RStep w w' b p p' := by
  have HM : Unit → ∀ w, Calls Tryz.prog 125 #[mv m] w fun r w' => r = .returned (.bool true) ∧ Keep nil w w' := fun _ w => by
    have := refmay_any (m.kind : Int) (m.level : Int) (m.name : Int) m.finding w
    rwa [hm.2.2.2] at this
  have HR : Unit → RRep w b e p := fun _ => h
  have HH : Unit → MOk m ∧ e.sent.length < 65536 ∧ (e.out.length : Int) < 5864061014000 := fun _ => ⟨hm, hf, hn⟩
  have hbl := h.blk.lt
  clear hm h hf hn
  go_enter Tryz.func85, Tryz.ntmps85
  go_wp2_with fail
  refine (HM () _).mono ?_
  rintro r w1 ⟨rfl, hk1⟩
  have HK : Unit → Keep nil w w1 := fun _ => ((Keep.refl nil w).alloc _).trans hk1
  have hbox := (Blk.new w (mcell m).toArray 76).keep hk1 (fun x => x)
  clear hk1
  have h1 := (HR ()).keep (HK ()) (fun _ _ x => x)
  have H1 : Unit → RRep w1 b e p := fun _ => h1
  have q0 := h1.blk.cell 0
  simp [rcells] at q0
  have hf0 := h1.blk.frozen 0
  have hbw := h1.blk.lt
  have hr := h1.srow
  have hsb := h1.sb
  obtain ⟨xb, hxb⟩ : ∃ xb, xb = w.heap.size := ⟨_, rfl⟩
  rw [← hxb] at hbox ⊢
  have b0 := hbox.cell 0
  have b1 := hbox.cell 1
  have b2 := hbox.cell 2
  have b3 := hbox.cell 3
  simp [mcell] at b0 b1 b2 b3
  have hxl := hbox.lt
  clear h1 hbox hxb
  go_upto_region 4 with fail
  go_cut [15] (fun v wx => v = .bool false ∧ wx = w1)
  case first =>
    go_wp2
    go_meet
    case rel =>
      refine ⟨?_, rfl⟩
      have := (HH ()).2.1
      simp
      omega
  case rest =>
  obtain ⟨rfl, rfl⟩ := hcut
  go_wp2_with fail
  go_region_law (refine step_append_rv rfl (.tmp 20) (.tmp 22) 112 rfl 76 (.agg #[.int .i64 0, .int .i64 0, .int .i64 0, .bool false]) 4 32 Tryz.underlying112 msg_info rfl p.sa e.sent.length p.sc rfl (mcells e.sent) (hr.drew.alloc _) ⟨wc.heap.size, 0, none⟩ 1 1 (by omega) rfl (mcell m) rfl (cells_list wc.drew (mcell m) 76 _ (by simp)) (by simpa [mcells] using mcells_one [m]) (by have := (HH ()).2.1; omega) (by have := (HH ()).2.1; omega) ?_; intro a' c' w2 hr2 hg2 hk2; have hk3 : Keep (inB p.sa) wc w2 := (((Keep.refl _ wc).drew).alloc _).trans hk2; have q1 := (hk3.cell b 0 hbw hsb).trans q0; have q2 := (hk3.frozen b 0 hbw hsb).trans hf0)
  all_goals
    have hone := (H1 ()).sent_one m (HH ()).1 (HH ()).2.1 a' c' hr2 (fun k hk => (hg2 k hk).imp id (fun e => by rw [e]; simp)) hk3
    have HO : Unit → RRep (w2.setCell ⟨b, 0, none⟩ (.slice a' (e.sent.length + 1) c')) b (e.put m) { p with sa := a', sc := c' } ∧ RStep w (w2.setCell ⟨b, 0, none⟩ (.slice a' (e.sent.length + 1) c')) b p { p with sa := a', sc := c' } := fun _ => ⟨hone.1, (RStep.of_keep b p (HK ())).trans hone.2⟩
    have HSH : Unit → Calls Tryz.prog 130 #[.pointer (some ⟨b, 0, none⟩)] (w2.setCell ⟨b, 0, none⟩ (.slice a' (e.sent.length + 1) c')) fun r w' => r = .returned (.tuple #[]) ∧ ∃ p', RRep w' b (e.send m) p' ∧ RStep (w2.setCell ⟨b, 0, none⟩ (.slice a' (e.sent.length + 1) c')) w' b { p with sa := a', sc := c' } p' ∧ p'.ka = p.ka ∧ p'.kc = p.kc := fun _ => by
      have := refShows_any b (e.put m) { p with sa := a', sc := c' } _ (HO ()).1 (HH ()).2.2
      have e1 : (e.put m).showsTo (max (e.put m).shown (min (e.put m).sent.length ((e.put m).acked + 4))) = e.send m := by
        simp [Rf.send, Rf.put]
      rwa [e1] at this
    clear hone hr2 hg2 hk2 hk3 q1 q2 q0 hf0 hr hsb b0 b1 b2 b3 hxl hbw
    go_wp2_with fail
    refine Calls.mono (HSH ()) ?_
    rintro r w3 ⟨rfl, p3, hr3, hs3, _, _⟩
    have HQ : Unit → RRep w3 b (e.send m) p3 ∧ RStep w w3 b p p3 := fun _ => ⟨hr3, (HO ()).2.trans hs3⟩
    clear hr3 hs3 HSH
    go_wp2
    go_ret
    exact ⟨rfl, p3, (HQ ()).1, (HQ ()).2⟩
end Go.Proofs.YtlfijfodklhplaaGreat
