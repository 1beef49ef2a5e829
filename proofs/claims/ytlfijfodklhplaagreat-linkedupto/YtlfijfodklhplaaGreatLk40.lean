import Derived.Test.YtlfijfodklhplaaGreatLk39
import Derived.Test.YtlfijfodklhplaaGreatLk38
/- The document's end: In, of a frame with a message. -/
namespace Go.Proofs.YtlfijfodklhplaaGreat
open Go.RowKit
set_option linter.unusedVariables false
set_option linter.unusedSimpArgs false

theorem keep_kn {e : En} {n : Nat} {m : Fr.Msg} (hk : ∀ (i : Nat) (x : Fr.Msg), e.kept[i]? = some (some x) → e.await + i < 65536) (hn : n < 65536) : ∀ (i : Nat) (x : Fr.Msg), (e.keep n m).kept[i]? = some (some x) → (e.keep n m).await + i < 65536 := by
  unfold En.keep
  by_cases h1 : e.await ≤ n
  · rw [if_pos h1]
    split
    · intro i x hx
      simp only at hx ⊢
      by_cases hi : i = n - e.await
      · omega
      · rw [List.getElem?_set_ne (by omega)] at hx
        exact hk i x hx
    · exact hk
  · rw [if_neg h1]; exact hk
theorem pops_first {e : En} {j : Nat} {m : Fr.Msg} (h : (e.pops j).kept[0]? = some (some m)) : j < e.kept.length ∧ e.kept[j]? = some (some m) := by
  unfold En.pops at h
  simp only at h
  by_cases hj : j < e.kept.length
  · rw [List.getElem?_append_left (by rw [List.length_drop]; omega), List.getElem?_drop, Nat.add_zero] at h
    exact ⟨hj, h⟩
  · rw [List.drop_of_length_le (by omega), List.nil_append] at h
    cases j with
    | zero => simp at h
    | succ j => simp [List.replicate_succ] at h
theorem pops_some {e : En} {j : Nat} (h4 : e.kept.length = 4) : ∃ x, (e.pops j).kept[0]? = some x := by
  have hl : 0 < (e.pops j).kept.length := by unfold En.pops; simp only [List.length_append, List.length_drop, List.length_replicate]; omega
  exact ⟨_, List.getElem?_eq_getElem hl⟩
theorem ready_none {l : List (Option Fr.Msg)} (h : l[0]? = some none) : En.ready l = [] := by
  cases l with
  | nil => rfl
  | cons x t => simp at h; subst h; rfl

set_option maxRecDepth 100000 in
set_option maxHeartbeats 8000000 in
theorem refIn_msg (b : Nat) (e : En) (r : Rf) (p : Rp) (n : Nat) (m : Fr.Msg) (v : Value) (w : World) (h : RRep w b r p) (hlk : Lk e r) (hd : Calls Tryz.prog 81 #[v] w fun e w' => e = .returned (.tuple #[.agg (fc true (n : Int) (m.kind : Int) (m.level : Int) (m.name : Int) m.finding), .int .i64 0]) ∧ Keep nil w w')
    (hn : n < 65536) (hkn : ∀ (i : Nat) (x : Fr.Msg), e.kept[i]? = some (some x) → e.await + i < 65536) (haw : e.await ≤ 65536) (ho : (r.out.length : Int) < 5864061014000) :
    Calls Tryz.prog 132 #[.pointer (some ⟨b, 0, none⟩), v] w fun x w' => ∃ ta tc r' p', x = .returned (.slice ta (e.told n m).length tc) ∧ RV w' 76 4 ta (e.told n m).length tc (mcells (e.told n m)) ∧ (∀ g, inB ta g → w.heap.size ≤ g ∧ ¬ RMine b p' g) ∧ RRep w' b r' p' ∧ Lk (e.came n m) r' ∧ RStep w w' b p p' := by
  have HD : Unit → _ := fun _ => hd
  have HR : Unit → RRep w b r p ∧ Lk e r := fun _ => ⟨h, hlk⟩
  have HN : Unit → n < 65536 ∧ (∀ (i : Nat) (x : Fr.Msg), e.kept[i]? = some (some x) → e.await + i < 65536) ∧ e.await ≤ 65536 ∧ (r.out.length : Int) < 5864061014000 := fun _ => ⟨hn, hkn, haw, ho⟩
  clear hd h hlk hn hkn haw ho
  go_enter Tryz.func132, Tryz.ntmps132
  go_wp2_with fail
  refine (HD ()).mono ?_
  rintro x w1 ⟨rfl, hk1⟩
  have HK : Unit → Keep nil w w1 := fun _ => hk1
  clear HD hk1
  go_wp2_with fail
  obtain ⟨W1, hW1⟩ : ∃ W1, W1 = w1.alloc (.cells #[.bool true, .int .i64 (n : Int), .int .i64 (m.kind : Int), .int .i64 (m.level : Int), .int .i64 (m.name : Int), .bool m.finding] 78) := ⟨_, rfl⟩
  have hbx : Blk W1 w1.heap.size #[.bool true, .int .i64 (n : Int), .int .i64 (m.kind : Int), .int .i64 (m.level : Int), .int .i64 (m.name : Int), .bool m.finding] 78 := by rw [hW1]; exact Blk.new _ _ _
  have k1 : Keep nil w W1 := by rw [hW1]; exact (HK ()).alloc _
  rw [← hW1]
  obtain ⟨xb, hxb⟩ : ∃ xb, xb = w1.heap.size := ⟨_, rfl⟩
  rw [← hxb] at hbx ⊢
  have HB : Unit → Blk W1 xb #[.bool true, .int .i64 (n : Int), .int .i64 (m.kind : Int), .int .i64 (m.level : Int), .int .i64 (m.name : Int), .bool m.finding] 78 ∧ Keep nil w W1 ∧ RRep W1 b r p ∧ w.heap.size ≤ xb := fun _ => ⟨hbx, k1, (HR ()).1.keep k1 (fun _ _ x => x), by have := (HK ()).size; omega⟩
  have hne : ¬ b = xb := by have h2 := (HR ()).1.blk.lt; have h3 := (HK ()).size; omega
  have hne' : ¬ xb = b := fun e => hne e.symm
  clear hW1 hbx hxb k1
  go_loopw [7, 8] (fun th v wr => ∃ (i : Nat) (t : Bool), i ≤ r.kept.length ∧ v = .int .i64 (i : Int) ∧ th = .bool t ∧ (t = true ↔ ∃ x ∈ r.kept.take i, x.1 = n) ∧ Keep nil W1 wr) (fun _ v _ => r.kept.length - (intOf v).toNat)
  case atStart => exact ⟨0, false, by omega, rfl, rfl, by simp, Keep.refl _ _⟩
  case round =>
    obtain ⟨i, t, hi, rfl, rfl, ht, hkw⟩ := hrel
    have HW : Unit → (t = true ↔ ∃ x ∈ r.kept.take i, x.1 = n) ∧ Keep nil W1 wr := fun _ => ⟨ht, hkw⟩
    have hr := (HB ()).2.2.1.keep hkw (fun _ _ x => x)
    have hxk := (HB ()).1.keep hkw (fun e => e)
    have q4 := hr.blk.cell 4
    simp [rcells] at q4
    have z1 := hxk.cell 1
    simp at z1
    have hbw := hr.blk.lt
    have hxw := hxk.lt
    have HRW : Unit → RRep wr b r p ∧ Blk wr xb #[.bool true, .int .i64 (n : Int), .int .i64 (m.kind : Int), .int .i64 (m.level : Int), .int .i64 (m.name : Int), .bool m.finding] 78 := fun _ => ⟨hr, hxk⟩
    clear ht hkw hxk
    by_cases hil : i < r.kept.length
    · as_aux_lemma =>
      obtain ⟨x, hx⟩ : ∃ x, r.kept[i]? = some x := ⟨_, List.getElem?_eq_getElem hil⟩
      obtain ⟨g, o, hga, hgl, hcell⟩ := hr.kept_at i x hx
      rw [hga] at q4
      have m0 := hcell 0 _ rfl
      have hiI : (i : Int) < (r.kept.length : Int) := by omega
      have hi2 : (i : Int) < 1000 := by have := (HR ()).2.kl; omega
      have HT : Unit → r.kept.take (i + 1) = r.kept.take i ++ [x] := fun _ => by rw [List.take_add_one, hx]; rfl
      obtain ⟨xn, xm⟩ := x
      simp only [Nat.add_zero] at m0
      clear hr hga hcell hx
      have HI : Unit → i < r.kept.length := fun _ => hil
      clear hi hil
      cases t
      · by_cases hxe : xn = n
        · subst hxe
          go_wp2_with fail
          go_quiet (fail)
          go_wp2
          refine ⟨⟨i + 1, true, by have := HI (); omega, by go_num, by simp, ?_, (HW ()).2.drewN _⟩, by have := HI (); simp [intOf]; omega⟩
          rw [HT ()]
          simp
        · have hxeI : ¬ (xn : Int) = (n : Int) := by omega
          have HX : Unit → ¬ xn = n := fun _ => hxe
          clear hxe
          go_wp2_with fail
          go_quiet (fail)
          go_wp2
          refine ⟨⟨i + 1, false, by have := HI (); omega, by go_num, by simp [hxeI], ?_, (HW ()).2.drewN _⟩, by have := HI (); simp [intOf]; omega⟩
          rw [HT ()]
          have h1 := (HW ()).1
          constructor
          · intro h; cases h
          · rintro ⟨y, hy, he⟩
            rcases List.mem_append.1 hy with hy | hy
            · exact h1.2 ⟨y, hy, he⟩
            · simp at hy; subst hy; exact (HX () he).elim
      · go_wp2_with fail
        go_quiet (fail)
        go_wp2
        refine ⟨⟨i + 1, true, by have := HI (); omega, by go_num, by simp, ?_, (HW ()).2.drewN _⟩, by have := HI (); simp [intOf]; omega⟩
        rw [HT ()]
        obtain ⟨y, hy, he⟩ := (HW ()).1.1 (by trivial)
        exact ⟨fun _ => ⟨y, List.mem_append_left _ hy, he⟩, fun _ => rfl⟩
    · have ei : i = r.kept.length := by omega
      subst ei
      have HT : Unit → (t = true ↔ ∃ x ∈ r.kept, x.1 = n) := fun _ => by have := (HW ()).1; rwa [List.take_length] at this
      have q3 := hr.blk.cell 3
      simp [rcells] at q3
      clear hr hil hi
      go_upto_region 14 with fail
      go_cut [88] (fun v wx => ∃ c : Bool, v = .bool c ∧ (c = true ↔ (r.await ≤ n ∧ n < r.await + 4 ∧ ¬ ∃ x ∈ r.kept, x.1 = n)) ∧ Keep nil wr wx)
      case first =>
        have hawI : (r.await : Int) ≤ 65536 := by have h1 := (HN ()).2.2.1; have h2 := (HR ()).2.aw; omega
        by_cases c1 : r.await ≤ n
        · have c1I : (r.await : Int) ≤ (n : Int) := by omega
          by_cases c2 : n < r.await + 4
          · have c2I : (n : Int) < (r.await : Int) + 4 := by omega
            cases t
            · have HC : Unit → (r.await ≤ n ∧ n < r.await + 4 ∧ ¬ ∃ x ∈ r.kept, x.1 = n) := fun _ => ⟨c1, c2, fun hx => by have := (HT ()).2 hx; cases this⟩
              clear c1 c2
              go_wp2_with fail
              go_quiet (fail)
              go_wp2
              go_meet
              case rel => exact ⟨true, by simp, ⟨fun _ => HC (), fun _ => rfl⟩, (Keep.refl nil wr).drewN _⟩
            · have HC : Unit → ¬ (r.await ≤ n ∧ n < r.await + 4 ∧ ¬ ∃ x ∈ r.kept, x.1 = n) := fun _ hh => hh.2.2 ((HT ()).1 (by trivial))
              clear c1 c2
              go_wp2_with fail
              go_quiet (fail)
              go_wp2
              go_meet
              case rel => exact ⟨false, by simp, ⟨fun hh => Bool.noConfusion hh, fun hh => (HC () hh).elim⟩, (Keep.refl nil wr).drewN _⟩
          · have c2I : (r.await : Int) + 4 ≤ (n : Int) := by omega
            have HC : Unit → ¬ (r.await ≤ n ∧ n < r.await + 4 ∧ ¬ ∃ x ∈ r.kept, x.1 = n) := fun _ hh => c2 hh.2.1
            have c2B : decide ((n : Int) < (r.await : Int) + 4) = false := by simp; omega
            have c2N : decide (n < r.await + 4) = false := by simp; omega
            cases t
            all_goals
            go_wp2_with fail
            go_quiet (fail)
            go_wp2
            go_meet
            case rel => exact ⟨false, by simp, ⟨fun hh => Bool.noConfusion hh, fun hh => (HC () hh).elim⟩, (Keep.refl nil wr).drewN _⟩
        · have c1I : (n : Int) < (r.await : Int) := by omega
          have HC : Unit → ¬ (r.await ≤ n ∧ n < r.await + 4 ∧ ¬ ∃ x ∈ r.kept, x.1 = n) := fun _ hh => c1 hh.1
          have c1B : decide ((r.await : Int) ≤ (n : Int)) = false := by simp; omega
          have c1N : decide (r.await ≤ n) = false := by simp; omega
          cases t
          all_goals
          go_wp2_with fail
          go_quiet (fail)
          go_wp2
          go_meet
          case rel => exact ⟨false, by simp, ⟨fun hh => Bool.noConfusion hh, fun hh => (HC () hh).elim⟩, (Keep.refl nil wr).drewN _⟩
      case rest =>
      obtain ⟨c, rfl, hcc, hkc⟩ := hcut
      have HC : Unit → (c = true ↔ (r.await ≤ n ∧ n < r.await + 4 ∧ ¬ ∃ x ∈ r.kept, x.1 = n)) ∧ Keep nil wr wc := fun _ => ⟨hcc, hkc⟩
      clear hcc hkc q3 q4 z1 hbw hxw
      have HK4 : Unit → (e.keep n m).kept.length = 4 := fun _ => by
        have h4 := (HR ()).2.four
        unfold En.keep
        split
        · split
          · simpa using h4
          · exact h4
        · exact h4
      have HWC : Unit → RRep wc b r p ∧ Blk wc xb #[.bool true, .int .i64 (n : Int), .int .i64 (m.kind : Int), .int .i64 (m.level : Int), .int .i64 (m.name : Int), .bool m.finding] 78 ∧ Keep nil w wc := fun _ => ⟨(HRW ()).1.keep (HC ()).2 (fun _ _ x => x), (HRW ()).2.keep (HC ()).2 (fun e => e), ((HB ()).2.1.trans (HW ()).2).trans (HC ()).2⟩
      cases c
      · have hcut : ∃ (r1 : Rf) (p1 : Rp), RRep wc b r1 p1 ∧ Lk (e.keep n m) r1 ∧ RStep w wc b p p1 ∧ r1.out = r.out := ⟨r, p, (HWC ()).1, by
          rw [(HR ()).2.keep_no n m (fun hh => by have := (HC ()).1.2 hh; cases this)]; exact (HR ()).2, RStep.of_keep b p (HWC ()).2.2, rfl⟩
        clear HWC HC HRW HW HT
        obtain ⟨r1, p1, hr1, hl1, hs1, ho1⟩ := hcut
        have H1 : Unit → RRep wc b r1 p1 ∧ Lk (e.keep n m) r1 ∧ RStep w wc b p p1 ∧ r1.out = r.out := fun _ => ⟨hr1, hl1, hs1, ho1⟩
        clear hr1 hl1 hs1 ho1
        go_wp2_with fail
        go_loopw [9] (fun v wr => ∃ (l : List Fr.Msg) (ta : Option Addr) (tc : Nat) (r2 : Rf) (p2 : Rp), v = .slice ta l.length tc ∧ l.length ≤ 4 ∧ RV wr 76 4 ta l.length tc (mcells l) ∧ (∀ g, inB ta g → w.heap.size ≤ g ∧ ¬ RMine b p2 g) ∧ En.ready (e.keep n m).kept = l ++ En.ready ((e.keep n m).pops l.length).kept ∧ Lk ((e.keep n m).pops l.length) r2 ∧ RRep wr b r2 p2 ∧ RStep w wr b p p2 ∧ r2.out = r.out) (fun v _ => 4 - lenV v)
        case atStart => exact ⟨[], none, 0, r1, p1, rfl, by simp, RV.nil _ _ _, fun g hg => (inB_none g hg).elim, by rw [List.length_nil, pops_zero]; rfl, by rw [List.length_nil, pops_zero]; exact (H1 ()).2.1, (H1 ()).1, (H1 ()).2.2.1, (H1 ()).2.2.2⟩
        case round =>
          obtain ⟨l, ta, tc, r2, p2, rfl, hl4, hrv, hta, hrd, hl2, hr2, hs2, ho2⟩ := hrel
          have H2 : Unit → l.length ≤ 4 ∧ RV wr 76 4 ta l.length tc (mcells l) ∧ (∀ g, inB ta g → w.heap.size ≤ g ∧ ¬ RMine b p2 g) ∧ En.ready (e.keep n m).kept = l ++ En.ready ((e.keep n m).pops l.length).kept ∧ Lk ((e.keep n m).pops l.length) r2 ∧ RRep wr b r2 p2 ∧ RStep w wr b p p2 ∧ r2.out = r.out := fun _ => ⟨hl4, hrv, hta, hrd, hl2, hr2, hs2, ho2⟩
          clear hl4 hrv hta hrd hl2 hr2 hs2 ho2 H1
          have hk4 : (e.keep n m).kept.length = 4 := HK4 ()
          obtain ⟨x0, hx0⟩ := pops_some (j := l.length) hk4
          cases x0 with
          | none =>
            as_aux_lemma =>
            have HT : Unit → _ := fun _ => takes_no b r2 p2 wr (H2 ()).2.2.2.2.2.1 ((H2 ()).2.2.2.2.1.none0 hx0) (by have := (H2 ()).2.2.2.2.1.kl; omega)
            have HE : Unit → l = e.told n m ∧ (e.keep n m).pops l.length = (e.keep n m).take := fun _ => by
              have h1 := (H2 ()).2.2.2.1
              rw [ready_none hx0, List.append_nil] at h1
              refine ⟨h1.symm, ?_⟩
              rw [← h1]
              rfl
            clear hx0 hk4
            go_wp2_with fail
            refine Calls.mono (HT ()) ?_
            rintro x w3 ⟨rfl, hk3⟩
            have HK3 : Unit → Keep nil wr w3 := fun _ => hk3
            have h3 := (H2 ()).2.2.2.2.2.1.keep hk3 (fun _ _ x => x)
            have q3 := h3.blk.cell 3
            simp [rcells] at q3
            have hbw := h3.blk.lt
            have HR3 : Unit → ∀ o, RRep (w3.alloc o) b r2 p2 ∧ Keep nil wr (w3.alloc o) := fun _ o => ⟨h3.keep ((Keep.refl nil w3).alloc o) (fun _ _ x => x), hk3.alloc o⟩
            clear HT hk3 h3
            go_upto_region 20 with fail
            go_cut [118] (fun v wx => v = .bool (decide (r2.await < 65536)) ∧ RRep wx b r2 p2 ∧ Keep nil wr wx)
            case first =>
              go_wp2
              go_meet
              case rel => exact ⟨by simp; omega, (HR3 () _).1, (HR3 () _).2⟩
            case rest =>
            obtain ⟨rfl, hrc, hkc⟩ := hcut
            have HRC : Unit → RRep wc b r2 p2 ∧ Keep nil wr wc := fun _ => ⟨hrc, hkc⟩
            have q3c := hrc.blk.cell 3
            simp [rcells] at q3c
            have hbc := hrc.blk.lt
            clear hrc hkc q3 hbw HR3 HK3
            cases hdec : decide (r2.await < 65536)
            · have HAN : Unit → r2.answer = r2 := fun _ => by unfold Rf.answer; rw [if_neg (by simpa using hdec)]
              clear hdec
              go_wp2
              go_ret
              refine ⟨ta, tc, r2, p2, by rw [← (HE ()).1]; rfl, ?_, (H2 ()).2.2.1, (HRC ()).1, ?_, (H2 ()).2.2.2.2.2.2.1.trans (RStep.of_keep b p2 (HRC ()).2)⟩
              · rw [← (HE ()).1]
                exact (H2 ()).2.1.keep (HRC ()).2 (fun _ _ x => x)
              · have h1 := (H2 ()).2.2.2.2.1
                rw [(HE ()).2] at h1
                have h2 := h1.answer
                rw [HAN ()] at h2
                exact h2
            · have HAN : Unit → r2.answer = { r2 with out := r2.out ++ [⟨false, r2.await, Fr.none0⟩] } ∧ r2.await < 65536 := fun _ => ⟨by unfold Rf.answer; rw [if_pos (by simpa using hdec)], by simpa using hdec⟩
              have HFR : Unit → Calls Tryz.prog 134 #[.pointer (some ⟨b, 0, none⟩), .agg #[.bool false, .int .i64 (r2.await : Int), .int .i64 0, .int .i64 0, .int .i64 0, .bool false]] wc fun x w' => x = .returned (.tuple #[]) ∧ ∃ p', RRep w' b { r2 with out := r2.out ++ [⟨false, r2.await, Fr.none0⟩] } p' ∧ RStep wc w' b p2 p' ∧ p'.sa = p2.sa ∧ p'.sc = p2.sc ∧ p'.ka = p2.ka ∧ p'.kc = p2.kc := fun _ =>
                refFrame_any b r2 p2 ⟨false, r2.await, Fr.none0⟩ ⟨(HAN ()).2, Or.inr ⟨rfl, rfl⟩⟩ wc (HRC ()).1 (by rw [(H2 ()).2.2.2.2.2.2.2]; have := (HN ()).2.2.2; omega)
              clear hdec
              go_wp2_with fail
              refine Calls.mono (HFR ()) ?_
              rintro x w5 ⟨rfl, p5, hr5, hs5, _⟩
              have HQ : Unit → RRep w5 b { r2 with out := r2.out ++ [⟨false, r2.await, Fr.none0⟩] } p5 ∧ RStep wc w5 b p2 p5 := fun _ => ⟨hr5, hs5⟩
              clear hr5 hs5 HFR q3c hbc
              go_wp2
              go_ret
              refine ⟨ta, tc, r2.answer, p5, by rw [← (HE ()).1]; rfl, ?_, fun g hg => ⟨((H2 ()).2.2.1 g hg).1, fun x => ?_⟩, by rw [(HAN ()).1]; exact (HQ ()).1, ?_, ((H2 ()).2.2.2.2.2.2.1.trans (RStep.of_keep b p2 (HRC ()).2)).trans (HQ ()).2⟩
              · rw [← (HE ()).1]
                exact ((H2 ()).2.1.keep (HRC ()).2 (fun _ _ x => x)).keep (HQ ()).2.keep (fun g hg x => ((H2 ()).2.2.1 g hg).2 (Or.inl x))
              · rcases (HQ ()).2.mine g x with y | y
                · exact ((H2 ()).2.2.1 g hg).2 y
                · have h1 := (H2 ()).2.1.lt g hg
                  have h2 := (HRC ()).2.size
                  omega
              · have h1 := (H2 ()).2.2.2.2.1
                rw [(HE ()).2] at h1
                exact h1.answer
          | some m' =>
            as_aux_lemma =>
            obtain ⟨hj1, hj2⟩ := pops_first hx0
            obtain ⟨l1, l2, hsp, hsn⟩ := (H2 ()).2.2.2.2.1.split m' hx0
            have hnk := keep_kn (m := m) (HN ()).2.1 (HN ()).1 _ _ hj2
            have haw2 : r2.await = (e.keep n m).await + l.length := ((H2 ()).2.2.2.2.1.aw).symm
            have HT : Unit → _ := fun _ => takes_yes b r2 p2 wr (H2 ()).2.2.2.2.2.1 l1 l2 m' hsp hsn (by have := (H2 ()).2.2.2.2.1.kl; omega) (by omega)
            have HNX : Unit → Lk ((e.keep n m).pops (l ++ [m']).length) { r2 with kept := l1 ++ l2, await := r2.await + 1 } ∧ En.ready (e.keep n m).kept = (l ++ [m']) ++ En.ready ((e.keep n m).pops (l ++ [m']).length).kept ∧ l.length < 4 := fun _ => by
              refine ⟨?_, ready_pops _ l m' (H2 ()).2.2.2.1 hx0 hj1, by omega⟩
              have h1 := (H2 ()).2.2.2.2.1.pop m' hx0 l1 l2 hsp
              rw [pops_succ _ _ hj1] at h1
              rw [List.length_append, List.length_singleton]
              exact h1
            clear hx0 hj1 hj2 hsp hsn hnk haw2 hk4
            go_wp2_with fail
            refine Calls.mono (HT ()) ?_
            rintro x w3 ⟨rfl, p3, hr3, hs3⟩
            have hrv3 := (H2 ()).2.1.keep hs3.keep (fun g hg x => ((H2 ()).2.2.1 g hg).2 (Or.inl x))
            have HR3 : Unit → RRep w3 b { r2 with kept := l1 ++ l2, await := r2.await + 1 } p3 ∧ RStep wr w3 b p2 p3 ∧ RV w3 76 4 ta l.length tc (mcells l) := fun _ => ⟨hr3, hs3, hrv3⟩
            clear hr3 hs3 HT hrv3
            go_upto_region 19 with fail
            obtain ⟨W4, hW4⟩ : ∃ W4, W4 = w3.alloc (.cells #[.int .i64 (m'.kind : Int), .int .i64 (m'.level : Int), .int .i64 (m'.name : Int), .bool m'.finding] 76) := ⟨_, rfl⟩
            have hmx : Blk W4 w3.heap.size #[.int .i64 (m'.kind : Int), .int .i64 (m'.level : Int), .int .i64 (m'.name : Int), .bool m'.finding] 76 := by rw [hW4]; exact Blk.new _ _ _
            have k4 : Keep nil w3 W4 := by rw [hW4]; exact (Keep.refl nil w3).alloc _
            rw [← hW4]
            obtain ⟨mb, hmb⟩ : ∃ mb, mb = w3.heap.size := ⟨_, rfl⟩
            rw [← hmb] at hmx ⊢
            have m0 := hmx.cell 0
            have m1 := hmx.cell 1
            have m2 := hmx.cell 2
            have m3 := hmx.cell 3
            simp at m0 m1 m2 m3
            have hml := hmx.lt
            have hrv4 := (HR3 ()).2.2.keep k4 (fun _ _ x => x)
            have HR4 : Unit → Keep nil w3 W4 := fun _ => k4
            have hl3 : (l.length : Int) < 4 := by have := (HNX ()).2.2; omega
            clear hW4 hmx hmb k4
            go_wp2_with (at_builtin; refine wpList_append_rv _ rfl (.tmp 110) (.tmp 112) 112 rfl 76 (.agg #[.int .i64 0, .int .i64 0, .int .i64 0, .bool false]) 4 32 Tryz.underlying112 msg_info rfl ta l.length tc rfl (mcells l) (hrv4.alloc _) ⟨W4.heap.size, 0, none⟩ 1 1 (by omega) rfl (mcell m') rfl (cells_list W4 (mcell m') 76 _ rfl) (by simpa [mcells] using mcells_one [m']) (by omega) (by omega) ?_; intro a5 c5 w5 hr5 hg5 hk5)
            have hk45 : Keep (inB ta) W4 w5 := ((Keep.refl _ W4).alloc _).trans hk5
            have HQ : Unit → RV w5 76 4 a5 (l.length + 1) c5 (mcells l ++ mcell m') ∧ (∀ g, inB a5 g → inB ta g ∨ W4.heap.size ≤ g) ∧ Keep (inB ta) W4 w5 := fun _ => ⟨hr5, fun g hg => (hg5 g hg).imp id (fun e => by rw [e]; simp), hk45⟩
            clear hr5 hg5 hk5 hk45 hrv4 m0 m1 m2 m3 hml
            go_roundw
            case rel =>
              have hlt := (H2 ()).2.1.lt
              have hsz3 := (HR3 ()).2.1.keep.size
              have hsz4 := (HR4 ()).size
              have hw0 := (H2 ()).2.2.2.2.2.2.1.keep.size
              have hmine : ∀ g, inB ta g → ¬ RMine b p3 g := fun g hg x => by
                rcases (HR3 ()).2.1.mine g x with y | y
                · exact ((H2 ()).2.2.1 g hg).2 y
                · have := hlt g hg; omega
              refine ⟨l ++ [m'], a5, c5, { r2 with kept := l1 ++ l2, await := r2.await + 1 }, p3, by simp, by have := (HNX ()).2.2; simp; omega, ?_, fun g hg => ?_, (HNX ()).2.1, (HNX ()).1, ((HR3 ()).1.keep (HR4 ()) (fun _ _ x => x)).keep (HQ ()).2.2 (fun i hi x => hmine i x hi), ?_, (H2 ()).2.2.2.2.2.2.2⟩
              · rw [mcells_append, List.length_append]
                have : mcells [m'] = mcell m' := by simp [mcells]
                rw [this]
                exact (HQ ()).1
              · rcases (HQ ()).2.1 g hg with y | y
                · exact ⟨((H2 ()).2.2.1 g y).1, hmine g y⟩
                · refine ⟨by omega, fun x => ?_⟩
                  have := (HR3 ()).1.lt g x
                  omega
              · have s := ((H2 ()).2.2.2.2.2.2.1.trans (HR3 ()).2.1).trans (RStep.of_keep b p3 (HR4 ()))
                refine ⟨s.wri, s.gs, s.keep.trans' (HQ ()).2.2 (fun i hi x => ?_)⟩
                have := ((H2 ()).2.2.1 i x).1
                omega
            case measure => simp [lenV]; have := (HNX ()).2.2; omega
      · have hadd : Lk (e.keep n m) (r.add n m) := by
          have hh := (HC ()).1.1 (by trivial)
          exact (HR ()).2.add n m hh.1 hh.2.1 hh.2.2
        have HA : Unit → Lk (e.keep n m) (r.add n m) := fun _ => hadd
        have q4 := (HWC ()).1.blk.cell 4
        simp [rcells] at q4
        have f4 := (HWC ()).1.blk.frozen 4
        have hbw := (HWC ()).1.blk.lt
        have hxw := (HWC ()).2.1.lt
        have hkr := (HWC ()).1.krow
        have hkb := (HWC ()).1.kb
        have z1 := (HWC ()).2.1.cell 1
        have z2 := (HWC ()).2.1.cell 2
        have z3 := (HWC ()).2.1.cell 3
        have z4 := (HWC ()).2.1.cell 4
        have z5 := (HWC ()).2.1.cell 5
        simp at z1 z2 z3 z4 z5
        have hk4 := (HR ()).2.kl
        clear hadd
        go_upto_region 15 with fail
        go_cut [] (fun wx => ∃ (r1 : Rf) (p1 : Rp), RRep wx b r1 p1 ∧ Lk (e.keep n m) r1 ∧ RStep w wx b p p1 ∧ r1.out = r.out)
        case first =>
          go_region_law (refine step_append_rv rfl (.tmp 93) (.tmp 99) 148 rfl 283 (.agg #[.int .i64 0, .int .i64 0, .int .i64 0, .int .i64 0, .bool false]) 5 40 Tryz.underlying148 kept_info rfl p.ka r.kept.length p.kc rfl (kcells r.kept) (hkr.drew.alloc _) ⟨wc.heap.size, 0, none⟩ 1 1 (by omega) rfl (kcell (n, m)) rfl (cells_list wc.drew (kcell (n, m)) 283 _ (by simp)) (by simpa [kcells] using kcells_one [(n, m)]) (by omega) (by omega) ?_; intro a' c' w2 hr2 hg2 hk2; have hk3 : Keep (inB p.ka) wc w2 := (((Keep.refl _ wc).drew).alloc _).trans hk2; have q1 := (hk3.cell b 4 hbw hkb).trans q4; have q2 := (hk3.frozen b 4 hbw hkb).trans f4)
          all_goals
            have hto := (HWC ()).1.kept_to (w1 := w2) (r.kept ++ [(n, m)]) a' c' (by rw [List.length_append, kcells_append]; simpa [kcells] using hr2) (fun k hk => (hg2 k hk).imp id (fun e => by rw [e]; simp)) hk3
            have hl1 : (r.kept ++ [(n, m)]).length = r.kept.length + 1 := by simp
            rw [hl1] at hto
            go_wp2_with fail
            go_meet
            case rel => exact ⟨r.add n m, { p with ka := a', kc := c' }, hto.1, HA (), (RStep.of_keep b p (HWC ()).2.2).trans hto.2, rfl⟩
        case rest =>
        clear HWC HC HRW HW HT HA q4 f4 hbw hxw hkr hkb z1 z2 z3 z4 z5 hk4
        obtain ⟨r1, p1, hr1, hl1, hs1, ho1⟩ := hcut
        have H1 : Unit → RRep wc b r1 p1 ∧ Lk (e.keep n m) r1 ∧ RStep w wc b p p1 ∧ r1.out = r.out := fun _ => ⟨hr1, hl1, hs1, ho1⟩
        clear hr1 hl1 hs1 ho1
        go_wp2_with fail
        go_loopw [9] (fun v wr => ∃ (l : List Fr.Msg) (ta : Option Addr) (tc : Nat) (r2 : Rf) (p2 : Rp), v = .slice ta l.length tc ∧ l.length ≤ 4 ∧ RV wr 76 4 ta l.length tc (mcells l) ∧ (∀ g, inB ta g → w.heap.size ≤ g ∧ ¬ RMine b p2 g) ∧ En.ready (e.keep n m).kept = l ++ En.ready ((e.keep n m).pops l.length).kept ∧ Lk ((e.keep n m).pops l.length) r2 ∧ RRep wr b r2 p2 ∧ RStep w wr b p p2 ∧ r2.out = r.out) (fun v _ => 4 - lenV v)
        case atStart => exact ⟨[], none, 0, r1, p1, rfl, by simp, RV.nil _ _ _, fun g hg => (inB_none g hg).elim, by rw [List.length_nil, pops_zero]; rfl, by rw [List.length_nil, pops_zero]; exact (H1 ()).2.1, (H1 ()).1, (H1 ()).2.2.1, (H1 ()).2.2.2⟩
        case round =>
          obtain ⟨l, ta, tc, r2, p2, rfl, hl4, hrv, hta, hrd, hl2, hr2, hs2, ho2⟩ := hrel
          have H2 : Unit → l.length ≤ 4 ∧ RV wr 76 4 ta l.length tc (mcells l) ∧ (∀ g, inB ta g → w.heap.size ≤ g ∧ ¬ RMine b p2 g) ∧ En.ready (e.keep n m).kept = l ++ En.ready ((e.keep n m).pops l.length).kept ∧ Lk ((e.keep n m).pops l.length) r2 ∧ RRep wr b r2 p2 ∧ RStep w wr b p p2 ∧ r2.out = r.out := fun _ => ⟨hl4, hrv, hta, hrd, hl2, hr2, hs2, ho2⟩
          clear hl4 hrv hta hrd hl2 hr2 hs2 ho2 H1
          have hk4 : (e.keep n m).kept.length = 4 := HK4 ()
          obtain ⟨x0, hx0⟩ := pops_some (j := l.length) hk4
          cases x0 with
          | none =>
            as_aux_lemma =>
            have HT : Unit → _ := fun _ => takes_no b r2 p2 wr (H2 ()).2.2.2.2.2.1 ((H2 ()).2.2.2.2.1.none0 hx0) (by have := (H2 ()).2.2.2.2.1.kl; omega)
            have HE : Unit → l = e.told n m ∧ (e.keep n m).pops l.length = (e.keep n m).take := fun _ => by
              have h1 := (H2 ()).2.2.2.1
              rw [ready_none hx0, List.append_nil] at h1
              refine ⟨h1.symm, ?_⟩
              rw [← h1]
              rfl
            clear hx0 hk4
            go_wp2_with fail
            refine Calls.mono (HT ()) ?_
            rintro x w3 ⟨rfl, hk3⟩
            have HK3 : Unit → Keep nil wr w3 := fun _ => hk3
            have h3 := (H2 ()).2.2.2.2.2.1.keep hk3 (fun _ _ x => x)
            have q3 := h3.blk.cell 3
            simp [rcells] at q3
            have hbw := h3.blk.lt
            have HR3 : Unit → ∀ o, RRep (w3.alloc o) b r2 p2 ∧ Keep nil wr (w3.alloc o) := fun _ o => ⟨h3.keep ((Keep.refl nil w3).alloc o) (fun _ _ x => x), hk3.alloc o⟩
            clear HT hk3 h3
            go_upto_region 20 with fail
            go_cut [118] (fun v wx => v = .bool (decide (r2.await < 65536)) ∧ RRep wx b r2 p2 ∧ Keep nil wr wx)
            case first =>
              go_wp2
              go_meet
              case rel => exact ⟨by simp; omega, (HR3 () _).1, (HR3 () _).2⟩
            case rest =>
            obtain ⟨rfl, hrc, hkc⟩ := hcut
            have HRC : Unit → RRep wc b r2 p2 ∧ Keep nil wr wc := fun _ => ⟨hrc, hkc⟩
            have q3c := hrc.blk.cell 3
            simp [rcells] at q3c
            have hbc := hrc.blk.lt
            clear hrc hkc q3 hbw HR3 HK3
            cases hdec : decide (r2.await < 65536)
            · have HAN : Unit → r2.answer = r2 := fun _ => by unfold Rf.answer; rw [if_neg (by simpa using hdec)]
              clear hdec
              go_wp2
              go_ret
              refine ⟨ta, tc, r2, p2, by rw [← (HE ()).1]; rfl, ?_, (H2 ()).2.2.1, (HRC ()).1, ?_, (H2 ()).2.2.2.2.2.2.1.trans (RStep.of_keep b p2 (HRC ()).2)⟩
              · rw [← (HE ()).1]
                exact (H2 ()).2.1.keep (HRC ()).2 (fun _ _ x => x)
              · have h1 := (H2 ()).2.2.2.2.1
                rw [(HE ()).2] at h1
                have h2 := h1.answer
                rw [HAN ()] at h2
                exact h2
            · have HAN : Unit → r2.answer = { r2 with out := r2.out ++ [⟨false, r2.await, Fr.none0⟩] } ∧ r2.await < 65536 := fun _ => ⟨by unfold Rf.answer; rw [if_pos (by simpa using hdec)], by simpa using hdec⟩
              have HFR : Unit → Calls Tryz.prog 134 #[.pointer (some ⟨b, 0, none⟩), .agg #[.bool false, .int .i64 (r2.await : Int), .int .i64 0, .int .i64 0, .int .i64 0, .bool false]] wc fun x w' => x = .returned (.tuple #[]) ∧ ∃ p', RRep w' b { r2 with out := r2.out ++ [⟨false, r2.await, Fr.none0⟩] } p' ∧ RStep wc w' b p2 p' ∧ p'.sa = p2.sa ∧ p'.sc = p2.sc ∧ p'.ka = p2.ka ∧ p'.kc = p2.kc := fun _ =>
                refFrame_any b r2 p2 ⟨false, r2.await, Fr.none0⟩ ⟨(HAN ()).2, Or.inr ⟨rfl, rfl⟩⟩ wc (HRC ()).1 (by rw [(H2 ()).2.2.2.2.2.2.2]; have := (HN ()).2.2.2; omega)
              clear hdec
              go_wp2_with fail
              refine Calls.mono (HFR ()) ?_
              rintro x w5 ⟨rfl, p5, hr5, hs5, _⟩
              have HQ : Unit → RRep w5 b { r2 with out := r2.out ++ [⟨false, r2.await, Fr.none0⟩] } p5 ∧ RStep wc w5 b p2 p5 := fun _ => ⟨hr5, hs5⟩
              clear hr5 hs5 HFR q3c hbc
              go_wp2
              go_ret
              refine ⟨ta, tc, r2.answer, p5, by rw [← (HE ()).1]; rfl, ?_, fun g hg => ⟨((H2 ()).2.2.1 g hg).1, fun x => ?_⟩, by rw [(HAN ()).1]; exact (HQ ()).1, ?_, ((H2 ()).2.2.2.2.2.2.1.trans (RStep.of_keep b p2 (HRC ()).2)).trans (HQ ()).2⟩
              · rw [← (HE ()).1]
                exact ((H2 ()).2.1.keep (HRC ()).2 (fun _ _ x => x)).keep (HQ ()).2.keep (fun g hg x => ((H2 ()).2.2.1 g hg).2 (Or.inl x))
              · rcases (HQ ()).2.mine g x with y | y
                · exact ((H2 ()).2.2.1 g hg).2 y
                · have h1 := (H2 ()).2.1.lt g hg
                  have h2 := (HRC ()).2.size
                  omega
              · have h1 := (H2 ()).2.2.2.2.1
                rw [(HE ()).2] at h1
                exact h1.answer
          | some m' =>
            as_aux_lemma =>
            obtain ⟨hj1, hj2⟩ := pops_first hx0
            obtain ⟨l1, l2, hsp, hsn⟩ := (H2 ()).2.2.2.2.1.split m' hx0
            have hnk := keep_kn (m := m) (HN ()).2.1 (HN ()).1 _ _ hj2
            have haw2 : r2.await = (e.keep n m).await + l.length := ((H2 ()).2.2.2.2.1.aw).symm
            have HT : Unit → _ := fun _ => takes_yes b r2 p2 wr (H2 ()).2.2.2.2.2.1 l1 l2 m' hsp hsn (by have := (H2 ()).2.2.2.2.1.kl; omega) (by omega)
            have HNX : Unit → Lk ((e.keep n m).pops (l ++ [m']).length) { r2 with kept := l1 ++ l2, await := r2.await + 1 } ∧ En.ready (e.keep n m).kept = (l ++ [m']) ++ En.ready ((e.keep n m).pops (l ++ [m']).length).kept ∧ l.length < 4 := fun _ => by
              refine ⟨?_, ready_pops _ l m' (H2 ()).2.2.2.1 hx0 hj1, by omega⟩
              have h1 := (H2 ()).2.2.2.2.1.pop m' hx0 l1 l2 hsp
              rw [pops_succ _ _ hj1] at h1
              rw [List.length_append, List.length_singleton]
              exact h1
            clear hx0 hj1 hj2 hsp hsn hnk haw2 hk4
            go_wp2_with fail
            refine Calls.mono (HT ()) ?_
            rintro x w3 ⟨rfl, p3, hr3, hs3⟩
            have hrv3 := (H2 ()).2.1.keep hs3.keep (fun g hg x => ((H2 ()).2.2.1 g hg).2 (Or.inl x))
            have HR3 : Unit → RRep w3 b { r2 with kept := l1 ++ l2, await := r2.await + 1 } p3 ∧ RStep wr w3 b p2 p3 ∧ RV w3 76 4 ta l.length tc (mcells l) := fun _ => ⟨hr3, hs3, hrv3⟩
            clear hr3 hs3 HT hrv3
            go_upto_region 19 with fail
            obtain ⟨W4, hW4⟩ : ∃ W4, W4 = w3.alloc (.cells #[.int .i64 (m'.kind : Int), .int .i64 (m'.level : Int), .int .i64 (m'.name : Int), .bool m'.finding] 76) := ⟨_, rfl⟩
            have hmx : Blk W4 w3.heap.size #[.int .i64 (m'.kind : Int), .int .i64 (m'.level : Int), .int .i64 (m'.name : Int), .bool m'.finding] 76 := by rw [hW4]; exact Blk.new _ _ _
            have k4 : Keep nil w3 W4 := by rw [hW4]; exact (Keep.refl nil w3).alloc _
            rw [← hW4]
            obtain ⟨mb, hmb⟩ : ∃ mb, mb = w3.heap.size := ⟨_, rfl⟩
            rw [← hmb] at hmx ⊢
            have m0 := hmx.cell 0
            have m1 := hmx.cell 1
            have m2 := hmx.cell 2
            have m3 := hmx.cell 3
            simp at m0 m1 m2 m3
            have hml := hmx.lt
            have hrv4 := (HR3 ()).2.2.keep k4 (fun _ _ x => x)
            have HR4 : Unit → Keep nil w3 W4 := fun _ => k4
            have hl3 : (l.length : Int) < 4 := by have := (HNX ()).2.2; omega
            clear hW4 hmx hmb k4
            go_wp2_with (at_builtin; refine wpList_append_rv _ rfl (.tmp 110) (.tmp 112) 112 rfl 76 (.agg #[.int .i64 0, .int .i64 0, .int .i64 0, .bool false]) 4 32 Tryz.underlying112 msg_info rfl ta l.length tc rfl (mcells l) (hrv4.alloc _) ⟨W4.heap.size, 0, none⟩ 1 1 (by omega) rfl (mcell m') rfl (cells_list W4 (mcell m') 76 _ rfl) (by simpa [mcells] using mcells_one [m']) (by omega) (by omega) ?_; intro a5 c5 w5 hr5 hg5 hk5)
            have hk45 : Keep (inB ta) W4 w5 := ((Keep.refl _ W4).alloc _).trans hk5
            have HQ : Unit → RV w5 76 4 a5 (l.length + 1) c5 (mcells l ++ mcell m') ∧ (∀ g, inB a5 g → inB ta g ∨ W4.heap.size ≤ g) ∧ Keep (inB ta) W4 w5 := fun _ => ⟨hr5, fun g hg => (hg5 g hg).imp id (fun e => by rw [e]; simp), hk45⟩
            clear hr5 hg5 hk5 hk45 hrv4 m0 m1 m2 m3 hml
            go_roundw
            case rel =>
              have hlt := (H2 ()).2.1.lt
              have hsz3 := (HR3 ()).2.1.keep.size
              have hsz4 := (HR4 ()).size
              have hw0 := (H2 ()).2.2.2.2.2.2.1.keep.size
              have hmine : ∀ g, inB ta g → ¬ RMine b p3 g := fun g hg x => by
                rcases (HR3 ()).2.1.mine g x with y | y
                · exact ((H2 ()).2.2.1 g hg).2 y
                · have := hlt g hg; omega
              refine ⟨l ++ [m'], a5, c5, { r2 with kept := l1 ++ l2, await := r2.await + 1 }, p3, by simp, by have := (HNX ()).2.2; simp; omega, ?_, fun g hg => ?_, (HNX ()).2.1, (HNX ()).1, ((HR3 ()).1.keep (HR4 ()) (fun _ _ x => x)).keep (HQ ()).2.2 (fun i hi x => hmine i x hi), ?_, (H2 ()).2.2.2.2.2.2.2⟩
              · rw [mcells_append, List.length_append]
                have : mcells [m'] = mcell m' := by simp [mcells]
                rw [this]
                exact (HQ ()).1
              · rcases (HQ ()).2.1 g hg with y | y
                · exact ⟨((H2 ()).2.2.1 g y).1, hmine g y⟩
                · refine ⟨by omega, fun x => ?_⟩
                  have := (HR3 ()).1.lt g x
                  omega
              · have s := ((H2 ()).2.2.2.2.2.2.1.trans (HR3 ()).2.1).trans (RStep.of_keep b p3 (HR4 ()))
                refine ⟨s.wri, s.gs, s.keep.trans' (HQ ()).2.2 (fun i hi x => ?_)⟩
                have := ((H2 ()).2.2.1 i x).1
                omega
            case measure => simp [lenV]; have := (HNX ()).2.2; omega
end Go.Proofs.YtlfijfodklhplaaGreat
