/- Carried: the walk. -/
import Derived.Test.YtlfijfodklhplaaFin
import Derived.BigRegion
import Derived.Deep.DeepCutAuto
import Derived.Deep.CutBlock
import Derived.StillTailTactics
import Derived.Deep.RegionHeld
namespace Go.Proofs.Ytlfijfodklhplaa
open Go.RowKit
set_option linter.unusedVariables false
set_option linter.unusedSimpArgs false

def lenO : Option Value → Nat
  | some (.slice _ n _) => n
  | _ => 0
/-- The steps, as they lie in memory. -/
structure Steps (w : World) (sa : Option Addr) (n cp : Nat) : Prop where
  cap : n ≤ cp
  cell : ∀ i, i < n → ∃ (ab ao : Nat) (k a b : Int), sa = some ⟨ab, ao, none⟩ ∧ ab < w.heap.size ∧ w.cell? ⟨ab, ao + i * 3, none⟩ = some (.int .i64 k) ∧ w.cell? ⟨ab, ao + i * 3 + 1, none⟩ = some (.int .i64 a) ∧ w.cell? ⟨ab, ao + i * 3 + 2, none⟩ = some (.int .i64 b) ∧
    (-9223372036854775808 ≤ k ∧ k ≤ 9223372036854775807) ∧ (-9223372036854775808 ≤ a ∧ a ≤ 9223372036854775807) ∧ (-9223372036854775808 ≤ b ∧ b ≤ 9223372036854775807)

set_option maxRecDepth 100000 in
set_option maxHeartbeats 80000000 in
theorem carried_walk (sa : Option Addr) (n cp : Nat) (w : World) (hst : Steps w sa n cp) :
    Calls Try.prog 4 #[.slice sa n cp] w fun r w' => r = .returned (.bool true) ∧ Keep nil w w' := by
  have HST : Unit → Steps w sa n cp := fun _ => hst
  clear hst
  go_enter Try.func4, Try.ntmps4
  go_wp2_with fail
  refine (newEnd_any w).mono ?_
  rintro r w1 ⟨rfl, hr1, hk1⟩
  have HR1 : Unit → _ := fun _ => (⟨hr1, hk1⟩ : _ ∧ _)
  clear hr1 hk1
  go_wp2_with fail
  refine (newEnd_any w1).mono ?_
  rintro r w2 ⟨rfl, hr2, hk2⟩
  have HR2 : Unit → _ := fun _ => (⟨hr2, hk2⟩ : _ ∧ _)
  clear hr2 hk2
  go_upto_block 0 with fail
  obtain ⟨tag0, hcs0⟩ := cs_new w w1 w2 (HR1 ()).1 (HR1 ()).2 (HR2 ()).1 (HR2 ()).2 (HR1 ()).1.blk.lt (HR2 ()).1.blk.lt
  obtain ⟨W0, hW0⟩ : ∃ W0, W0 = ((((w2.alloc (.cells #[.pointer (some ⟨w.heap.size, 0, none⟩), .pointer (some ⟨w1.heap.size, 0, none⟩)] 35)).alloc (.cells #[.slice none 0 0, .slice none 0 0] 39)).alloc (.cells #[.int .i64 0, .int .i64 0] 40)).alloc (.cells #[.int .i64 0, .int .i64 0] 40)) := ⟨_, rfl⟩
  rw [← hW0] at hcs0 ⊢
  obtain ⟨x, hx⟩ : ∃ x : Fx, x = ⟨w2.heap.size, w2.heap.size + 1, w2.heap.size + 2, w2.heap.size + 3, fun i => if i = 0 then w.heap.size else w1.heap.size⟩ := ⟨_, rfl⟩
  rw [← hx] at hcs0
  have e1 : w2.heap.size = x.eb := by rw [hx]
  have e2 : w2.heap.size + 1 = x.tb := by rw [hx]
  have e3 : w2.heap.size + 1 + 1 = x.sb := by rw [hx]
  have e4 : w2.heap.size + 1 + 1 + 1 = x.gb := by rw [hx]
  rw [e4, e3, e2, e1]
  have H0 : Unit → CS w W0 x Cy.new tag0 := fun _ => hcs0
  clear hcs0 hW0 hx e1 e2 e3 e4 HR1 HR2
  have HCONST : Unit → ∀ wr, Keep nil w wr → ∀ i, i < n → ∃ (ab ao : Nat) (k a b : Int), sa = some ⟨ab, ao, none⟩ ∧ wr.cell? ⟨ab, ao + i * 3, none⟩ = some (.int .i64 k) ∧ wr.cell? ⟨ab, ao + i * 3 + 1, none⟩ = some (.int .i64 a) ∧ wr.cell? ⟨ab, ao + i * 3 + 2, none⟩ = some (.int .i64 b) ∧
      (-9223372036854775808 ≤ k ∧ k ≤ 9223372036854775807) ∧ (-9223372036854775808 ≤ a ∧ a ≤ 9223372036854775807) ∧ (-9223372036854775808 ≤ b ∧ b ≤ 9223372036854775807) := fun _ wr kw i hi => by
    obtain ⟨ab, ao, k, a, b, h1, h2, h3, h4, h5, h6⟩ := (HST ()).cell i hi
    exact ⟨ab, ao, k, a, b, h1, (kw.cell ab _ h2 (fun e => e)).trans h3, (kw.cell ab _ h2 (fun e => e)).trans h4, (kw.cell ab _ h2 (fun e => e)).trans h5, h6⟩
  go_cut [] (fun wx => ∃ (i : Nat) (s : Cy) (tag : Nat → Nat), i ≤ 300 ∧ CS w wx x s tag ∧ Ok s (6 * i) i ∧ ∀ c, c < 2 → (s.e c).out = [])
  case first =>
    go_wp2_with fail
    go_loopw [7] (fun v wr => ∃ (i : Nat) (s : Cy) (tag : Nat → Nat), i ≤ 300 ∧ v = .int .i64 (i : Int) ∧ CS w wr x s tag ∧ Ok s (6 * i) i ∧ ∀ c, c < 2 → (s.e c).out = []) (fun v _ => 300 - (intOf v).toNat)
    case atStart => exact ⟨0, Cy.new, tag0, by omega, rfl, H0 (), ⟨⟨dir_new, dir_new⟩, fun c hc => by simp [Cy.new, En.new], fun c hc => by simp [Cy.new]⟩, fun c hc => rfl⟩
    case round =>
      obtain ⟨i, s, tag, hi, rfl, hcs, hok, hout⟩ := hrel
      have HS : Unit → _ := fun _ => (⟨hcs, hok, hout⟩ : _ ∧ _ ∧ _)
      have hkw := hcs.keep
      clear hcs hok hout
      by_cases hin : i < n ∧ i < 300
      · obtain ⟨hi1, hi2⟩ := hin
        obtain ⟨ab, ao, kS, aS, bS, rfl, m0, m1, m2, rk, ra, rb⟩ := HCONST () wr hkw i hi1
        have hi1I : (i : Int) < (n : Int) := by omega
        have hi2I : (i : Int) < 300 := by omega
        have habl : ab < wr.heap.size := World.block_lt_of_cell? wr _ m0
        have HRK : Unit → _ := fun _ => (⟨rk, ra, rb⟩ : _ ∧ _ ∧ _)
        clear rk ra rb hkw
        go_wp2_with fail
        refine (pick_all aS 2 (HRK ()).2.1.1 (HRK ()).2.1.2 (by omega) (by omega) _).mono ?_
        rintro r w' ⟨c, rfl, hcI, _, rfl⟩
        go_wp2_with fail
        refine (pick_all kS 10 (HRK ()).1.1 (HRK ()).1.2 (by omega) (by omega) _).mono ?_
        rintro r w' ⟨kz, rfl, hkz, _, rfl⟩
        go_upto_block 2 with fail
        obtain ⟨d, hd⟩ : ∃ d, d = 1 - c := ⟨_, rfl⟩
        have hc : c < 2 := by omega
        have hd2 : d < 2 := by omega
        have hcd : c ≠ d := by omega
        have hdI : (1 : Int) - (c : Int) = (d : Int) := by omega
        have hd2I : (d : Int) < 2 := by omega
        clear hd
        obtain ⟨Wb, hWb⟩ : ∃ Wb, Wb = wr.alloc (.cells #[.int .i64 kS, .int .i64 aS, .int .i64 bS] 42) := ⟨_, rfl⟩
        have hcs1 : CS w Wb x s tag := by rw [hWb]; exact (HS ()).1.same ((Keep.refl nil wr).alloc _) (fun _ _ _ e => e)
        have hbox : Blk Wb wr.heap.size #[.int .i64 kS, .int .i64 aS, .int .i64 bS] 42 := by rw [hWb]; exact Blk.new _ _ _
        rw [← hWb]
        obtain ⟨xb, hxb⟩ : ∃ xb, xb = wr.heap.size := ⟨_, rfl⟩
        rw [← hxb] at hbox ⊢
        have HB : Unit → _ := fun _ => (⟨hcs1, hbox⟩ : _ ∧ _)
        obtain ⟨t1, t2, t3, t4, t5, t6⟩ := hcs1.at c hc
        obtain ⟨v1, v2, v3, v4, v5, v6⟩ := hcs1.at d hd2
        have bx := hbox.cell 2
        simp at bx
        clear hWb hxb hcs1 hbox m0 m1 m2 habl
        go_cut [] (fun wx => ∃ (s1 : Cy) (tag1 : Nat → Nat), CS w wx x s1 tag1 ∧ Ok s1 (6 * (i + 1)) (i + 1))
        case first =>
          have hkc : kz = 0 ∨ kz = 1 ∨ kz = 2 ∨ kz = 3 ∨ kz = 4 ∨ (5 : Int) ≤ (kz : Int) := by omega
          clear hkz
          rcases hkc with rfl | rfl | rfl | rfl | rfl | hk5
          · as_aux_lemma =>
              have HSL : Unit → (s.sent c : Int) < 1000000 := fun _ => by have := (HS ()).2.1.sent c hc; omega
              have hwS : IntKind.i64.wrap ((s.sent c : Int) + 1) = (s.sent c : Int) + 1 := by rw [IntKind.wrap_i64]; have := HSL (); omega
              have hebl : x.eb < Wb.heap.size := (HB ()).1.ends.lt
              have hne : ¬ x.eb = x.sb := fun e => by have h1 := (HB ()).1.t5; rw [e, (HB ()).1.t7] at h1; omega
              have hne2 : ¬ x.eb = x.tb := fun e => by have h1 := (HB ()).1.t5; rw [e, (HB ()).1.t6] at h1; omega
              have HSEND : Unit → ∀ w5, Keep nil Wb w5 → _ := fun _ w5 k5 => send_yes zero24 62 (x.b c) 0 (s.e c) (s.p c) (rmsg (s.sent c)) (rmsg_ok _) w5 (((HB ()).1.rep c hc).keep k5 (fun _ _ e => e)) (by have := ((HS ()).2.1.pair hc hd2 hcd).there.len; have := (HS ()).2.1.sent c hc; omega) (by rw [(HS ()).2.2 c hc]; simp)
              go_wp2_with fail
              go_region_with (first
                | (go_at_call 10; refine (message_any (s.sent c) (HSL ()) _).mono ?_; rintro r w5 ⟨rfl, hk5⟩; have d0 := (hk5.cell x.eb c hebl (fun e => e)).trans t1)
                | (go_at_call 9; refine (HSEND () _ (((Keep.refl nil Wb).drew).trans hk5)).mono ?_; rintro r w6 ⟨rfl, p6, hr6, hs6⟩))
              all_goals
                obtain ⟨tag6, hcs6, _⟩ := ((HB ()).1.same (((Keep.refl nil Wb).drew).trans hk5) (fun _ _ _ e => e)).step c hc _ _ hr6 hs6
                have HC6 : Unit → CS w w6 x { s with e := upd s.e c ((s.e c).send (rmsg (s.sent c))), p := upd s.p c p6 } tag6 := fun _ => hcs6
                obtain ⟨q1, q2, q3, q4, q5, q6⟩ := hcs6.at c hc
                clear hcs6 hr6 hs6 t1 t2 t3 t4 t5 t6 v1 v2 v3 v4 v5 v6 bx q2 q4 q5
                go_wp2_with fail
                obtain ⟨WX, hWX⟩ : ∃ WX, WX = w6.setCell ⟨x.sb, c, none⟩ (.int .i64 ((s.sent c : Int) + 1)) := ⟨_, rfl⟩
                obtain ⟨s1, hs1⟩ : ∃ s1 : Cy, s1 = { s with e := upd s.e c ((s.e c).send (rmsg (s.sent c))), p := upd s.p c p6, sent := upd s.sent c (s.sent c + 1) } := ⟨_, rfl⟩
                obtain ⟨tag1, ht1⟩ : ∃ tag1, tag1 = tag6 := ⟨_, rfl⟩
                rw [← hWX]
                have HT : Unit → CS w WX x s1 tag1 ∧ Ok s1 (6 * (i + 1)) (i + 1) := fun _ => ⟨by rw [hWX, hs1, ht1]; exact (HC6 ()).setSent c hc (s.sent c + 1), by
                  rw [hs1]
                  exact (HS ()).2.1.sent_one hc hd2 hcd ((HS ()).2.2)⟩
                clear hWX hs1 ht1 q1 q3 q6
                go_meet
                case rel => exact ⟨s1, tag1, HT ()⟩
          · as_aux_lemma =>
              have HSL : Unit → (s.sent c : Int) < 1000000 := fun _ => by have := (HS ()).2.1.sent c hc; omega
              have hwS : IntKind.i64.wrap ((s.sent c : Int) + 1) = (s.sent c : Int) + 1 := by rw [IntKind.wrap_i64]; have := HSL (); omega
              have hebl : x.eb < Wb.heap.size := (HB ()).1.ends.lt
              have hne : ¬ x.eb = x.sb := fun e => by have h1 := (HB ()).1.t5; rw [e, (HB ()).1.t7] at h1; omega
              have hne2 : ¬ x.eb = x.tb := fun e => by have h1 := (HB ()).1.t5; rw [e, (HB ()).1.t6] at h1; omega
              have HSEND : Unit → ∀ w5, Keep nil Wb w5 → _ := fun _ w5 k5 => send_yes zero24 62 (x.b c) 0 (s.e c) (s.p c) (rmsg (s.sent c)) (rmsg_ok _) w5 (((HB ()).1.rep c hc).keep k5 (fun _ _ e => e)) (by have := ((HS ()).2.1.pair hc hd2 hcd).there.len; have := (HS ()).2.1.sent c hc; omega) (by rw [(HS ()).2.2 c hc]; simp)
              go_wp2_with fail
              go_region_with (first
                | (go_at_call 10; refine (message_any (s.sent c) (HSL ()) _).mono ?_; rintro r w5 ⟨rfl, hk5⟩; have d0 := (hk5.cell x.eb c hebl (fun e => e)).trans t1)
                | (go_at_call 9; refine (HSEND () _ (((Keep.refl nil Wb).drew).trans hk5)).mono ?_; rintro r w6 ⟨rfl, p6, hr6, hs6⟩))
              all_goals
                obtain ⟨tag6, hcs6, _⟩ := ((HB ()).1.same (((Keep.refl nil Wb).drew).trans hk5) (fun _ _ _ e => e)).step c hc _ _ hr6 hs6
                have HC6 : Unit → CS w w6 x { s with e := upd s.e c ((s.e c).send (rmsg (s.sent c))), p := upd s.p c p6 } tag6 := fun _ => hcs6
                obtain ⟨q1, q2, q3, q4, q5, q6⟩ := hcs6.at c hc
                clear hcs6 hr6 hs6 t1 t2 t3 t4 t5 t6 v1 v2 v3 v4 v5 v6 bx q2 q4 q5
                go_wp2_with fail
                obtain ⟨WX, hWX⟩ : ∃ WX, WX = w6.setCell ⟨x.sb, c, none⟩ (.int .i64 ((s.sent c : Int) + 1)) := ⟨_, rfl⟩
                obtain ⟨s1, hs1⟩ : ∃ s1 : Cy, s1 = { s with e := upd s.e c ((s.e c).send (rmsg (s.sent c))), p := upd s.p c p6, sent := upd s.sent c (s.sent c + 1) } := ⟨_, rfl⟩
                obtain ⟨tag1, ht1⟩ : ∃ tag1, tag1 = tag6 := ⟨_, rfl⟩
                rw [← hWX]
                have HT : Unit → CS w WX x s1 tag1 ∧ Ok s1 (6 * (i + 1)) (i + 1) := fun _ => ⟨by rw [hWX, hs1, ht1]; exact (HC6 ()).setSent c hc (s.sent c + 1), by
                  rw [hs1]
                  exact (HS ()).2.1.sent_one hc hd2 hcd ((HS ()).2.2)⟩
                clear hWX hs1 ht1 q1 q3 q6
                go_meet
                case rel => exact ⟨s1, tag1, HT ()⟩
          · as_aux_lemma =>
              have hebl : x.eb < Wb.heap.size := (HB ()).1.ends.lt
              have hne2 : ¬ x.eb = x.tb := fun e => by have h1 := (HB ()).1.t5; rw [e, (HB ()).1.t6] at h1; omega
              go_wp2_with fail
              refine (tick_any zero24 62 (x.b c) 0 (s.e c) (s.p c) Wb ((HB ()).1.rep c hc) (by rw [(HS ()).2.2 c hc]; simp)).mono ?_
              rintro r w6 ⟨rfl, p6, hr6, hs6⟩
              obtain ⟨tag6, hcs6, _⟩ := (HB ()).1.step c hc _ _ hr6 hs6
              have HC6 : Unit → CS w w6 x { s with e := upd s.e c (s.e c).tick, p := upd s.p c p6 } tag6 := fun _ => hcs6
              obtain ⟨q1, q2, q3, q4, q5, q6⟩ := hcs6.at c hc
              clear hcs6 hr6 hs6 t1 t2 t3 t4 t5 t6 v1 v2 v3 v4 v5 v6 bx q2 q3 q4 q5 q6
              go_wp2_with fail
              obtain ⟨WX, hWX⟩ : ∃ WX, WX = w6 := ⟨_, rfl⟩
              obtain ⟨s1, hs1⟩ : ∃ s1 : Cy, s1 = { s with e := upd s.e c (s.e c).tick, p := upd s.p c p6 } := ⟨_, rfl⟩
              obtain ⟨tag1, ht1⟩ : ∃ tag1, tag1 = tag6 := ⟨_, rfl⟩
              rw [← hWX]
              have HT : Unit → CS w WX x s1 tag1 ∧ Ok s1 (6 * (i + 1)) (i + 1) := fun _ => ⟨by rw [hWX, hs1, ht1]; exact HC6 (), by
                rw [hs1]
                exact (HS ()).2.1.ticked hc hd2 hcd⟩
              clear hWX hs1 ht1 q1
              go_meet
              case rel => exact ⟨s1, tag1, HT ()⟩
          · as_aux_lemma =>
              have hebl : x.eb < Wb.heap.size := (HB ()).1.ends.lt
              have hne2 : ¬ x.eb = x.tb := fun e => by have h1 := (HB ()).1.t5; rw [e, (HB ()).1.t6] at h1; omega
              obtain ⟨L, hL⟩ : ∃ L, L = (s.bag c).length := ⟨_, rfl⟩
              obtain ⟨cv, hcv⟩ : ∃ cv, cv = s.ca c := ⟨_, rfl⟩
              rw [← hL, ← hcv] at t2
              have HLC : Unit → L = (s.bag c).length ∧ cv = s.ca c := fun _ => ⟨hL, hcv⟩
              clear hL hcv
              by_cases hL0 : L = 0
              · rw [hL0] at t2
                clear hL0
                go_wp2_with fail
                clear t2 t3 t4 t5 t6 v1 v2 v3 v4 v5 v6 bx
                obtain ⟨WX, hWX⟩ : ∃ WX, WX = Wb := ⟨_, rfl⟩
                obtain ⟨s1, hs1⟩ : ∃ s1 : Cy, s1 = s := ⟨_, rfl⟩
                obtain ⟨tag1, ht1⟩ : ∃ tag1, tag1 = tag := ⟨_, rfl⟩
                rw [← hWX]
                have HT : Unit → CS w WX x s1 tag1 ∧ Ok s1 (6 * (i + 1)) (i + 1) := fun _ => ⟨by rw [hWX, hs1, ht1]; exact (HB ()).1, by rw [hs1]; exact (HS ()).2.1.more⟩
                clear hWX hs1 ht1
                go_meet
                case rel => exact ⟨s1, tag1, HT ()⟩
              · obtain ⟨rb, ro, hra, hrv⟩ : ∃ rb ro, s.a c = some ⟨rb, ro, none⟩ ∧ RV Wb 27 1 (some ⟨rb, ro, none⟩) L cv (bvals (s.g c) (s.bag c)) := by
                  have hrow := (HB ()).1.row c hc
                  rw [← (HLC ()).1, ← (HLC ()).2] at hrow
                  rcases hrow.2.2 with ⟨_, h0, _⟩ | ⟨g, o, h0, _⟩
                  · exact absurd h0 hL0
                  · exact ⟨g, o, h0, by rw [← h0]; exact hrow⟩
                rw [hra] at t2
                have hLc : L ≤ cv := hrv.2.1
                have hL1 : 1 ≤ L := by omega
                have HRV : Unit → _ := fun _ => (⟨hra, hrv⟩ : _ ∧ _)
                have hLp : (0 : Int) < (L : Int) := by omega
                clear hra hrv hL0
                rcases Decidable.em (cv = 1) with hc1 | hc1
                · have hLe : L = 1 := by omega
                  subst hLe
                  have HC1 : Unit → cv = 1 := fun _ => hc1
                  rw [hc1] at t2
                  clear hc1 hLc hL1 hLp
                  go_wp2_with fail
                  obtain ⟨tag6, hcs6, _⟩ := (HB ()).1.setBag (w1 := Wb) c hc ((s.bag c).drop 1) ((s.g c).drop 1) (some ⟨rb, ro, none⟩) 0 (Keep.refl _ _) (drop_row (HRV ()).2 ((HB ()).1.gl c hc) (HLC ()).1 (by omega) ro (Or.inr ⟨HC1 (), rfl⟩) 0 (by have := HC1 (); omega)) (fun k hk => Or.inl (by rw [(HRV ()).1]; exact inB_some.2 (inB_some.1 hk))) (by simp [(HB ()).1.gl c hc]) (fun i g f hg hf => (HB ()).1.buf c hc (1 + i) g f (by rw [← List.getElem?_drop]; exact hg) (by rw [← List.getElem?_drop]; exact hf)) (fun f hf => (HB ()).1.fok c hc f (List.mem_of_mem_drop hf)) (fun k hk => (HB ()).1.tg c hc k (List.mem_of_mem_drop hk))
                  have e0 : ((s.bag c).drop 1).length = 0 := by rw [List.length_drop, ← (HLC ()).1]
                  rw [e0] at hcs6
                  obtain ⟨WX, hWX⟩ : ∃ WX, WX = Wb.setCell ⟨x.tb, c, none⟩ (.slice (some ⟨rb, ro, none⟩) 0 0) := ⟨_, rfl⟩
                  rw [← hWX] at hcs6 ⊢
                  obtain ⟨s1, hs1⟩ : ∃ s1 : Cy, s1 = { s with bag := upd s.bag c ((s.bag c).drop 1), g := upd s.g c ((s.g c).drop 1), a := upd s.a c (some ⟨rb, ro, none⟩), ca := upd s.ca c 0 } := ⟨_, rfl⟩
                  obtain ⟨tag1, ht1⟩ : ∃ tag1, tag1 = tag6 := ⟨_, rfl⟩
                  have HT : Unit → CS w WX x s1 tag1 ∧ Ok s1 (6 * (i + 1)) (i + 1) := fun _ => ⟨by rw [hs1, ht1]; exact hcs6, by
                    rw [hs1]
                    exact (HS ()).2.1.bagged hc hd2 hcd _ (fun f hf => List.mem_of_mem_drop hf) (by simp; omega)⟩
                  clear hWX hs1 ht1 hcs6 t1 t2 t3 t4 t5 t6 v1 v2 v3 v4 v5 v6 bx
                  go_meet
                  case rel => exact ⟨s1, tag1, HT ()⟩
                · have hc2 : ¬ cv - 1 = 0 := by omega
                  go_wp2_with fail
                  obtain ⟨tag6, hcs6, _⟩ := (HB ()).1.setBag (w1 := Wb) c hc ((s.bag c).drop 1) ((s.g c).drop 1) (some ⟨rb, ro + 1, none⟩) (cv - 1) (Keep.refl _ _) (drop_row (HRV ()).2 ((HB ()).1.gl c hc) (HLC ()).1 (by omega) (ro + 1) (Or.inl rfl) (cv - 1) rfl) (fun k hk => Or.inl (by rw [(HRV ()).1]; exact inB_some.2 (inB_some.1 hk))) (by simp [(HB ()).1.gl c hc]) (fun i g f hg hf => (HB ()).1.buf c hc (1 + i) g f (by rw [← List.getElem?_drop]; exact hg) (by rw [← List.getElem?_drop]; exact hf)) (fun f hf => (HB ()).1.fok c hc f (List.mem_of_mem_drop hf)) (fun k hk => (HB ()).1.tg c hc k (List.mem_of_mem_drop hk))
                  have e0 : ((s.bag c).drop 1).length = L - 1 := by rw [List.length_drop, ← (HLC ()).1]
                  rw [e0] at hcs6
                  obtain ⟨WX, hWX⟩ : ∃ WX, WX = Wb.setCell ⟨x.tb, c, none⟩ (.slice (some ⟨rb, ro + 1, none⟩) (L - 1) (cv - 1)) := ⟨_, rfl⟩
                  rw [← hWX] at hcs6 ⊢
                  obtain ⟨s1, hs1⟩ : ∃ s1 : Cy, s1 = { s with bag := upd s.bag c ((s.bag c).drop 1), g := upd s.g c ((s.g c).drop 1), a := upd s.a c (some ⟨rb, ro + 1, none⟩), ca := upd s.ca c (cv - 1) } := ⟨_, rfl⟩
                  obtain ⟨tag1, ht1⟩ : ∃ tag1, tag1 = tag6 := ⟨_, rfl⟩
                  have HT : Unit → CS w WX x s1 tag1 ∧ Ok s1 (6 * (i + 1)) (i + 1) := fun _ => ⟨by rw [hs1, ht1]; exact hcs6, by
                    rw [hs1]
                    exact (HS ()).2.1.bagged hc hd2 hcd _ (fun f hf => List.mem_of_mem_drop hf) (by simp; omega)⟩
                  clear hWX hs1 ht1 hcs6 t1 t2 t3 t4 t5 t6 v1 v2 v3 v4 v5 v6 bx
                  go_meet
                  case rel => exact ⟨s1, tag1, HT ()⟩
          · as_aux_lemma =>
              have hebl : x.eb < Wb.heap.size := (HB ()).1.ends.lt
              have hne2 : ¬ x.eb = x.tb := fun e => by have h1 := (HB ()).1.t5; rw [e, (HB ()).1.t6] at h1; omega
              obtain ⟨L, hL⟩ : ∃ L, L = (s.bag c).length := ⟨_, rfl⟩
              obtain ⟨cv, hcv⟩ : ∃ cv, cv = s.ca c := ⟨_, rfl⟩
              rw [← hL, ← hcv] at t2
              have HLC : Unit → L = (s.bag c).length ∧ cv = s.ca c := fun _ => ⟨hL, hcv⟩
              have HLB : Unit → (L : Int) < 2000 := fun _ => by have := (HS ()).2.1.len c hc; omega
              obtain ⟨z, hz, hp⟩ := pick_nat bS ((L : Int) + 1) (HRK ()).2.2.1 (HRK ()).2.2.2 (by omega) (by have := HLB (); omega)
              have HP : Unit → ∀ w, Calls Try.prog 5 #[.int .i64 bS, .int .i64 ((L : Int) + 1)] w fun e w' => e = .returned (.int .i64 (z : Int)) ∧ w = w' := fun _ => hp
              have hwL : IntKind.i64.wrap ((L : Int) + 1) = (L : Int) + 1 := by rw [IntKind.wrap_i64]; have := HLB (); omega
              clear hL hcv hp hz
              all_goals
                by_cases hzl : z < L
                · obtain ⟨rb, ro, hra, hrv⟩ : ∃ rb ro, s.a c = some ⟨rb, ro, none⟩ ∧ VBo Wb rb ro 27 1 (bvals (s.g c) (s.bag c)) cv := by
                    have hrow := (HB ()).1.row c hc
                    rw [← (HLC ()).1, ← (HLC ()).2] at hrow
                    rcases hrow.2.2 with ⟨_, h0, _⟩ | ⟨g, o, h0, hv⟩
                    · omega
                    · exact ⟨g, o, h0, hv⟩
                  rw [hra] at t2
                  obtain ⟨g, hg⟩ : ∃ g, (s.g c)[z]? = some g := ⟨_, List.getElem?_eq_getElem (by have := (HB ()).1.gl c hc; have := HLC (); omega)⟩
                  obtain ⟨f, hf⟩ : ∃ f, (s.bag c)[z]? = some f := ⟨_, List.getElem?_eq_getElem (by have := HLC (); omega)⟩
                  have cz := hrv.cell z _ (bvals_get _ _ z g f hg hf)
                  have hbuf := (HB ()).1.buf c hc z g f hg hf
                  have HX : Unit → _ := fun _ => (⟨hg, hf, hbuf, (HB ()).1.fok c hc f (List.mem_of_getElem? hf)⟩ : _ ∧ _ ∧ _ ∧ _)
                  have HF : Unit → flen f = 5 ∨ flen f = 10 := fun _ => flen_two f
                  have hzI : (z : Int) < (L : Int) := by omega
                  have hxl : xb < Wb.heap.size := (HB ()).2.lt
                  have HRA : Unit → s.a c = some ⟨rb, ro, none⟩ := fun _ => hra
                  clear hg hf hrv hbuf hra
                  go_wp2_with fail
                  go_region_held (fun w' => w'.cell? ⟨xb, 2, none⟩ = some (.int .i64 bS) ∧ w'.cell? ⟨x.tb, c, none⟩ = some (.slice (some ⟨rb, ro, none⟩) L cv)) (go_keep) ((go_at_call 5; refine (HP () _).mono ?_; rintro e w' ⟨rfl, rfl⟩))
                  go_wp2_with (at_builtin; refine wpList_append_new _ rfl (.tmp 130) (.tmp 136) 27 rfl 5 (.int .u8 0) 1 1 Try.underlying27 u8_info rfl rfl ⟨g.1, 0, none⟩ (flen f) g.2 (by have := HF (); omega) rfl ((Fr.enc f).map bv) (by rw [List.length_map, enc_len, Nat.mul_one]) (cells_row (HX ()).2.2.1.row) (by have := HF (); omega) (by have := HF (); omega) ?_; intro cb W1 hb1 hcb hk1; have bx1 := (hk1.cell xb 2 hxl (fun e => e)).trans bx)
                  have hF1 : wrap64 ((flen f : Int) + 1) = (flen f : Int) + 1 := by unfold wrap64; have := HF (); omega
                  rw [hF1]
                  clear hF1
                  have hD7 : -9223372036854775808 ≤ wrap64 (bS.tdiv 7) ∧ wrap64 (bS.tdiv 7) ≤ 9223372036854775807 := by unfold wrap64; omega
                  refine (pick_all _ ((flen f : Int) + 1) hD7.1 hD7.2 (by omega) (by have := HF (); omega) _).mono ?_
                  rintro r w' ⟨at', rfl, hat, _, rfl⟩
                  clear hD7
                  have kb1 : Keep nil Wb W1 := ((Keep.refl nil Wb).drew).trans hk1
                  have HB1 : Unit → Buf W1 Wb.heap.size (Fr.enc f) cb ∧ Keep nil Wb W1 := fun _ => ⟨hb1.bytes, kb1⟩
                  have u1 := (kb1.cell x.eb c hebl (fun e => e)).trans t1
                  have u2 := (kb1.cell x.tb c (HB ()).1.bags.lt (fun e => e)).trans t2
                  have u5 := (kb1.frozen x.tb c (HB ()).1.bags.lt (fun e => e)).trans t5
                  have u7 := (kb1.cell x.eb d hebl (fun e => e)).trans v1
                  clear hb1 hk1 kb1 t1 t2 t3 t4 t5 t6 v1 v2 v3 v4 v5 v6 bx cz
                  by_cases hal : at' = flen f
                  · subst hal
                    clear hat
                    have HROW : Unit → RV W1 27 1 (some ⟨rb, ro, none⟩) L cv (bvals (s.g c) (s.bag c)) := fun _ => by
                      have hrow := ((HB ()).1.row c hc).keep (HB1 ()).2 (fun _ _ e => e)
                      rw [← (HLC ()).1, ← (HLC ()).2, HRA ()] at hrow
                      exact hrow
                    have hnt : ¬ inB (some ⟨rb, ro, none⟩) x.tb := fun e => by
                      have h1 := (HB ()).1.ta c hc x.tb (by rw [HRA ()]; exact e)
                      have := (HB ()).1.t6
                      omega
                    have hnt2 : ¬ inB (some ⟨rb, ro, none⟩) x.eb := fun e => by
                      have h1 := (HB ()).1.ta c hc x.eb (by rw [HRA ()]; exact e)
                      have := (HB ()).1.t5
                      omega
                    have hl1 : x.tb < W1.heap.size ∧ x.eb < W1.heap.size := ⟨Nat.lt_of_lt_of_le (HB ()).1.bags.lt (HB1 ()).2.size, Nat.lt_of_lt_of_le hebl (HB1 ()).2.size⟩
                    go_wp2_with (at_builtin; refine wpList_append_rv _ rfl (.tmp 152) (.tmp 154) 38 rfl 27 (.slice none 0 0) 1 24 Try.underlying38 list_info rfl (some ⟨rb, ro, none⟩) L cv rfl (bvals (s.g c) (s.bag c)) ((HROW ()).alloc _) ⟨W1.heap.size, 0, none⟩ 1 1 (by omega) rfl [bval (Wb.heap.size, cb) f] rfl (cells_list W1 [bval (Wb.heap.size, cb) f] 27 _ rfl) (by simp [bval, Value.oneCell']) (by have := HLB (); omega) (by have := HLB (); omega) ?_; intro a2 c2 W2 hr2 hg2 hk2; have k12 : Keep (inB (some ⟨rb, ro, none⟩)) W1 W2 := ((Keep.refl _ W1).alloc _).trans hk2; have y8 := (k12.cell x.tb c hl1.1 hnt).trans u2; have y9 := (k12.frozen x.tb c hl1.1 hnt).trans u5; have y10 := (k12.cell x.eb c hl1.2 hnt2).trans u1)
                    have hcsB : CS w W1 x s (fun k => if k < Wb.heap.size then tag k else 4) := ((HB ()).1.retag 4).same (HB1 ()).2 (fun _ _ _ e => e)
                    obtain ⟨tag6, hcs6, _⟩ := hcsB.setBag c hc (s.bag c ++ [f]) (s.g c ++ [(Wb.heap.size, cb)]) a2 c2 (by rw [HRA ()]; exact k12) (by
                        have e1 : bvals (s.g c ++ [(Wb.heap.size, cb)]) (s.bag c ++ [f]) = bvals (s.g c) (s.bag c) ++ [bval (Wb.heap.size, cb) f] := by
                          unfold bvals; rw [List.zipWith_append ((HB ()).1.gl c hc)]; rfl
                        rw [e1, List.length_append, ← (HLC ()).1]; exact hr2)
                      (fun k hk => by rw [HRA ()]; exact (hg2 k hk).imp id (fun e => by rw [e]; simp)) (by simp [(HB ()).1.gl c hc])
                      (fun j g' f' hg' hf' => by
                        by_cases hj : j < (s.g c).length
                        · rw [List.getElem?_append_left hj] at hg'
                          rw [List.getElem?_append_left (by have := (HB ()).1.gl c hc; omega)] at hf'
                          exact ((HB ()).1.buf c hc j g' f' hg' hf').keep (HB1 ()).2 (fun e => e)
                        · rw [List.getElem?_append_right (by omega)] at hg'
                          rw [List.getElem?_append_right (by have := (HB ()).1.gl c hc; omega)] at hf'
                          have e1 : j - (s.g c).length = 0 := by have := (List.getElem?_eq_some_iff.1 hg').1; simp at this; omega
                          have e2 : j - (s.bag c).length = 0 := by have := (List.getElem?_eq_some_iff.1 hf').1; simp at this; omega
                          rw [e1] at hg'
                          rw [e2] at hf'
                          simp at hg' hf'
                          subst hg' hf'
                          exact (HB1 ()).1)
                      (fun f' hf' => (List.mem_append.1 hf').elim ((HB ()).1.fok c hc f') (fun y => by simp at y; subst y; exact (HX ()).2.2.2))
                      (fun k hk => (List.mem_append.1 hk).elim (fun y => by show (if k.1 < Wb.heap.size then tag k.1 else 4) = 4; rw [if_pos ((HB ()).1.glt c hc k y)]; exact (HB ()).1.tg c hc k y) (fun y => by simp at y; subst y; simp))
                    have e0 : (s.bag c ++ [f]).length = L + 1 := by rw [List.length_append, ← (HLC ()).1]; rfl
                    rw [e0] at hcs6
                    obtain ⟨WX, hWX⟩ : ∃ WX, WX = W2.setCell ⟨x.tb, c, none⟩ (.slice a2 (L + 1) c2) := ⟨_, rfl⟩
                    rw [← hWX] at hcs6 ⊢
                    obtain ⟨s1, hs1⟩ : ∃ s1 : Cy, s1 = { s with bag := upd s.bag c (s.bag c ++ [f]), g := upd s.g c (s.g c ++ [(Wb.heap.size, cb)]), a := upd s.a c a2, ca := upd s.ca c c2 } := ⟨_, rfl⟩
                    obtain ⟨tag1, ht1⟩ : ∃ tag1, tag1 = tag6 := ⟨_, rfl⟩
                    have HT : Unit → CS w WX x s1 tag1 ∧ Ok s1 (6 * (i + 1)) (i + 1) := fun _ => ⟨by rw [hs1, ht1]; exact hcs6, by
                      rw [hs1]
                      exact (HS ()).2.1.bagged hc hd2 hcd _ (fun f' hf' => (List.mem_append.1 hf').elim id (fun y => by simp at y; subst y; exact List.mem_of_getElem? (HX ()).2.1)) (by simp)⟩
                    clear hWX hs1 ht1 hcs6 hcsB hr2 hg2 hk2 k12 y8 y9 y10 u1 u2 u5 u7 bx1 hcb HROW hnt hnt2 hl1
                    go_meet
                    case rel => exact ⟨s1, tag1, HT ()⟩
                  · have hal2 : at' < flen f := by omega
                    obtain ⟨xx, hx⟩ : ∃ xx, (Fr.enc f)[at']? = some xx := ⟨_, List.getElem?_eq_getElem (by rw [enc_len]; exact hal2)⟩
                    have hcell : W1.cell? ⟨Wb.heap.size, at', none⟩ = some (.int .u8 (xx : Int)) := by
                      obtain ⟨h, e⟩ := List.getElem?_eq_some_iff.1 hx
                      have := (HB1 ()).1.row at' h
                      rw [Nat.zero_add, e] at this
                      exact this
                    have hfro : W1.frozen? ⟨Wb.heap.size, at', none⟩ = false := by
                      obtain ⟨sp, hb, _⟩ := (HB1 ()).1
                      exact hb.frozen at'
                    have hx8 : xx < 256 := enc_byte _ (HX ()).2.2.2 xx (List.mem_of_getElem? hx)
                    have HXX : Unit → (Fr.enc f)[at']? = some xx ∧ xx < 256 := fun _ => ⟨hx, hx8⟩
                    have HAL : Unit → at' < flen f := fun _ => hal2
                    have hatI : (at' : Int) < (flen f : Int) := by omega
                    have hatb : ((at' : Int) == (flen f : Int)) = false := by simp; omega
                    have hD70 : -9223372036854775808 ≤ IntKind.i64.wrap (bS.tdiv 70) ∧ IntKind.i64.wrap (bS.tdiv 70) ≤ 9223372036854775807 := by rw [IntKind.wrap_i64]; omega
                    obtain ⟨pz, hpz, hp70⟩ := pick_nat (IntKind.i64.wrap (bS.tdiv 70)) 255 hD70.1 hD70.2 (by omega) (by omega)
                    have HPZ : Unit → (pz : Int) < 255 := fun _ => hpz
                    have HP70 : Unit → ∀ w, Calls Try.prog 5 #[.int .i64 (IntKind.i64.wrap (bS.tdiv 70)), .int .i64 255] w fun e w' => e = .returned (.int .i64 (pz : Int)) ∧ w = w' := fun _ => hp70
                    clear hp70 hpz
                    have hne3 : ¬ x.eb = Wb.heap.size := by omega
                    have hne4 : ¬ xb = Wb.heap.size := by omega
                    have hne5 : ¬ Wb.heap.size = xb := by omega
                    clear hx hat hal hx8 hD70
                    go_wp2_with fail
                    refine wp_region_held_drew (S := fun w' => w'.cell? ⟨xb, 2, none⟩ = some (.int .i64 bS)) (by kernel_rfl) (by (try dsimp only); go_keep) (fun hHeld => ?_)
                    refine wpAnyH_take (i := 0) (v := ?_) (by simp only [List.getElem?_toArray, List.getElem?_cons_succ, List.getElem?_cons_zero]; rfl) (by kernel_rfl) (by kernel_rfl) (by kernel_rfl) (by intro _ _ _ hp; exact hp) (Or.inl ⟨by rfl, ?_⟩) (by assumption) ?_
                    rotate_left
                    · (intro w hSw; (try dsimp only at hSw); go_simp; (try with_reducible rfl))
                    try simp only [Act.put, List.setIfInBounds_toArray, List.set_cons_zero, List.set_cons_succ]
                    refine wpAnyH_take (i := 1) (v := ?_) (by simp only [List.getElem?_toArray, List.getElem?_cons_succ, List.getElem?_cons_zero]; rfl) (by kernel_rfl) (by kernel_rfl) (by kernel_rfl) (by intro _ _ _ hp; exact hp) (Or.inl ⟨by rfl, ?_⟩) (by assumption) ?_
                    rotate_left
                    · (intro w hSw; (try dsimp only at hSw); go_simp; (try with_reducible rfl))
                    try simp only [Act.put, List.setIfInBounds_toArray, List.set_cons_zero, List.set_cons_succ]
                    refine wpAnyH_take (i := 2) (v := ?_) (by simp only [List.getElem?_toArray, List.getElem?_cons_succ, List.getElem?_cons_zero]; rfl) (by kernel_rfl) (by kernel_rfl) (by kernel_rfl) (by intro _ _ _ hp; exact hp) (Or.inl ⟨by rfl, ?_⟩) (by assumption) ?_
                    rotate_left
                    · (intro w hSw; (try dsimp only at hSw); go_simp; (try with_reducible rfl))
                    try simp only [Act.put, List.setIfInBounds_toArray, List.set_cons_zero, List.set_cons_succ]
                    refine wpAnyH_take (i := 3) (v := ?_) (by simp only [List.getElem?_toArray, List.getElem?_cons_succ, List.getElem?_cons_zero]; rfl) (by kernel_rfl) (by kernel_rfl) (by kernel_rfl) (by intro _ _ _ hp; exact hp) (Or.inl ⟨by rfl, ?_⟩) (by assumption) ?_
                    rotate_left
                    · (intro w hSw; (try dsimp only at hSw); go_simp; (try with_reducible rfl))
                    try simp only [Act.put, List.setIfInBounds_toArray, List.set_cons_zero, List.set_cons_succ]
                    refine wpAnyH_take (i := 4) (v := ?_) (by simp only [List.getElem?_toArray, List.getElem?_cons_succ, List.getElem?_cons_zero]; rfl) (by kernel_rfl) (by kernel_rfl) (by kernel_rfl) (by intro _ _ _ hp; exact hp) (Or.inl ⟨by rfl, ?_⟩) (by assumption) ?_
                    rotate_left
                    · (intro w hSw; (try dsimp only at hSw); go_simp; (try with_reducible rfl))
                    try simp only [Act.put, List.setIfInBounds_toArray, List.set_cons_zero, List.set_cons_succ]
                    refine wpAnyH_take (i := 6) (v := ?_) (by simp only [List.getElem?_toArray, List.getElem?_cons_succ, List.getElem?_cons_zero]; rfl) (by kernel_rfl) (by kernel_rfl) (by kernel_rfl) (by intro _ _ _ hp; exact hp) (Or.inl ⟨by rfl, ?_⟩) (by assumption) ?_
                    rotate_left
                    · (intro w hSw; (try dsimp only at hSw); go_simp; (try with_reducible rfl))
                    try simp only [Act.put, List.setIfInBounds_toArray, List.set_cons_zero, List.set_cons_succ]
                    refine wpAnyH_take (i := 7) (v := ?_) (by simp only [List.getElem?_toArray, List.getElem?_cons_succ, List.getElem?_cons_zero]; rfl) (by kernel_rfl) (by kernel_rfl) (by kernel_rfl) (by intro _ _ _ hp; exact hp) (Or.inl ⟨by rfl, ?_⟩) (by assumption) ?_
                    rotate_left
                    · (intro w hSw; (try dsimp only at hSw); go_simp; (try with_reducible rfl))
                    try simp only [Act.put, List.setIfInBounds_toArray, List.set_cons_zero, List.set_cons_succ]
                    refine wpAnyH_take (i := 8) (v := ?_) (by simp only [List.getElem?_toArray, List.getElem?_cons_succ, List.getElem?_cons_zero]; rfl) (by kernel_rfl) (by kernel_rfl) (by kernel_rfl) (by intro _ _ _ hp; exact hp) (Or.inl ⟨by rfl, ?_⟩) (by assumption) ?_
                    rotate_left
                    · (intro w hSw; (try dsimp only at hSw); go_simp; (try with_reducible rfl))
                    try simp only [Act.put, List.setIfInBounds_toArray, List.set_cons_zero, List.set_cons_succ]
                    refine wpAnyH_ready (rs := [5, 9]) (by kernel_rfl) (by simp) ?_
                    refine AllReadyH.cons (by simp only [List.getElem?_toArray, List.getElem?_cons_succ, List.getElem?_cons_zero]; rfl) (fun K hK => ?_) ?_
                    rotate_left
                    refine AllReadyH.cons (by simp only [List.getElem?_toArray, List.getElem?_cons_succ, List.getElem?_cons_zero]; rfl) (fun K hK => ?_) AllReadyH.nil
                    rotate_left
                    · go_simp
                      refine hK.out _ _ ?_ (fun hHeld => ?_)
                      · (try dsimp only); go_keep
                      clear hK K
                      try simp only [Act.put, List.setIfInBounds_toArray, List.set_cons_zero, List.set_cons_succ]
                      refine wpAnyH_ready (rs := [9]) (by kernel_rfl) (by simp) ?_
                      refine AllReadyH.cons (by simp only [List.getElem?_toArray, List.getElem?_cons_succ, List.getElem?_cons_zero]; rfl) (fun K hK => ?_) AllReadyH.nil
                      go_simp
                      go_wp2_with (go_at_call 5; refine (HP70 () _).mono ?_; rintro e w5 ⟨rfl, rfl⟩)
                      refine hK.out _ _ ?_ (fun hHeld => ?_)
                      · (try dsimp only); go_keep
                      clear hK K
                      try simp only [Act.put, List.setIfInBounds_toArray, List.set_cons_zero, List.set_cons_succ]
                      refine wpAnyH_take (i := 10) (v := ?_) (by simp only [List.getElem?_toArray, List.getElem?_cons_succ, List.getElem?_cons_zero]; rfl) (by kernel_rfl) (by kernel_rfl) (by kernel_rfl) (by intro _ _ _ hp; exact hp) (Or.inl ⟨by rfl, ?_⟩) (by assumption) ?_
                      rotate_left
                      · (intro w hSw; (try dsimp only at hSw); go_simp; (try with_reducible rfl))
                      try simp only [Act.put, List.setIfInBounds_toArray, List.set_cons_zero, List.set_cons_succ]
                      refine wpAnyH_take (i := 11) (v := ?_) (by simp only [List.getElem?_toArray, List.getElem?_cons_succ, List.getElem?_cons_zero]; rfl) (by kernel_rfl) (by kernel_rfl) (by kernel_rfl) (by intro _ _ _ hp; exact hp) (Or.inl ⟨by rfl, ?_⟩) (by assumption) ?_
                      rotate_left
                      · (intro w hSw; (try dsimp only at hSw); go_simp; (try with_reducible rfl))
                      try simp only [Act.put, List.setIfInBounds_toArray, List.set_cons_zero, List.set_cons_succ]
                      refine wpAnyH_take (i := 12) (v := ?_) (by simp only [List.getElem?_toArray, List.getElem?_cons_succ, List.getElem?_cons_zero]; rfl) (by kernel_rfl) (by kernel_rfl) (by kernel_rfl) (by intro _ _ _ hp; exact hp) (Or.inl ⟨by rfl, ?_⟩) (by assumption) ?_
                      rotate_left
                      · (intro w hSw; (try dsimp only at hSw); go_simp; (try with_reducible rfl))
                      try simp only [Act.put, List.setIfInBounds_toArray, List.set_cons_zero, List.set_cons_succ]
                      refine wpAnyH_take (i := 13) (v := ?_) (by simp only [List.getElem?_toArray, List.getElem?_cons_succ, List.getElem?_cons_zero]; rfl) (by kernel_rfl) (by kernel_rfl) (by kernel_rfl) (by intro _ _ _ hp; exact hp) (Or.inl ⟨by rfl, ?_⟩) (by assumption) ?_
                      rotate_left
                      · (intro w hSw; (try dsimp only at hSw); go_simp; (try with_reducible rfl))
                      try simp only [Act.put, List.setIfInBounds_toArray, List.set_cons_zero, List.set_cons_succ]
                      refine wpAnyH_ready (rs := [14]) (by kernel_rfl) (by simp) ?_
                      refine AllReadyH.cons (by simp only [List.getElem?_toArray, List.getElem?_cons_succ, List.getElem?_cons_zero]; rfl) (fun K hK => ?_) AllReadyH.nil
                      go_simp
                      refine hK.out _ _ ?_ (fun hHeld => ?_)
                      · (try dsimp only); go_keep
                      clear hK K
                      try simp only [Act.put, List.setIfInBounds_toArray, List.set_cons_zero, List.set_cons_succ]
                      refine wpAnyH_done (by kernel_rfl) ?_ _
                      obtain ⟨y, hy, hy8, hyx⟩ := xor_else xx pz (HXX ()).2 (by have := HPZ (); omega)
                      rw [hy]
                      have bu := (HB1 ()).1.over at' y (by rw [enc_len]; exact HAL ())
                      have HBU : Unit → Buf (W1.setCell ⟨Wb.heap.size, at', none⟩ (.int .u8 (y : Int))) Wb.heap.size ((Fr.enc f).set at' y) cb := fun _ => bu
                      have HIN : Unit → ∀ W', Buf W' Wb.heap.size ((Fr.enc f).set at' y) cb → Calls Try.prog 12 #[.pointer (some ⟨x.b d, 0, none⟩), .slice (some ⟨Wb.heap.size, 0, none⟩) (flen f) cb] W' fun r w' => r = .returned (.slice none 0 0) ∧ Keep nil W' w' := fun _ W' hb => by
                        have hseen := enc_seen f (HX ()).2.2.2 at' y (HAL ()) hy8 (by rw [(HXX ()).1]; intro e; cases e; exact hyx rfl)
                        have hby : ∀ t ∈ (Fr.enc f).set at' y, t < 256 := fun t ht => by
                          rcases List.mem_or_eq_of_mem_set ht with h | h
                          · exact enc_byte _ (HX ()).2.2.2 t h
                          · omega
                        have := in_no (x.b d) 0 Wb.heap.size 0 cb ((Fr.enc f).set at' y) W' ⟨hb.row, hb.lt, hb.len, by rw [List.length_set, enc_len]; have := HF (); omega, hby⟩ hseen
                        rw [List.length_set, enc_len] at this
                        exact this
                      have kc : Keep nil Wb (W1.setCell ⟨Wb.heap.size, at', none⟩ (.int .u8 (y : Int))) := (HB1 ()).2.setCell (p := ⟨Wb.heap.size, at', none⟩) (fun h => by simp only at h; omega) _
                      have HKC : Unit → _ := fun _ => kc
                      clear hy hyx hy8 bu hcell hfro kc
                      go_wp2_with fail
                      refine (HIN () _ (HBU ()).drew).mono ?_
                      rintro r w6 ⟨rfl, hk6⟩
                      have kk6 : Keep nil Wb w6 := ((HKC ()).drew).trans hk6
                      have q1 := (kk6.cell x.eb c hebl (fun e => e)).trans ((HB ()).1.at c hc).1
                      have HK6 : Unit → Keep nil Wb w6 := fun _ => kk6
                      clear hk6 kk6 u1 u2 u5 u7 bx1
                      go_wp2_with fail
                      obtain ⟨WX, hWX⟩ : ∃ WX, WX = w6 := ⟨_, rfl⟩
                      obtain ⟨s1, hs1⟩ : ∃ s1 : Cy, s1 = s := ⟨_, rfl⟩
                      obtain ⟨tag1, ht1⟩ : ∃ tag1, tag1 = tag := ⟨_, rfl⟩
                      rw [← hWX]
                      have HT : Unit → CS w WX x s1 tag1 ∧ Ok s1 (6 * (i + 1)) (i + 1) := fun _ => ⟨by rw [hWX, hs1, ht1]; exact (HB ()).1.same (HK6 ()) (fun _ _ _ e => e), by rw [hs1]; exact (HS ()).2.1.more⟩
                      clear hWX hs1 ht1 q1
                      go_meet
                      case rel => exact ⟨s1, tag1, HT ()⟩
                    · go_simp
                      go_wp2_with (go_at_call 5; refine (HP70 () _).mono ?_; rintro e w5 ⟨rfl, rfl⟩)
                      refine hK.out _ _ ?_ (fun hHeld => ?_)
                      · (try dsimp only); go_keep
                      clear hK K
                      try simp only [Act.put, List.setIfInBounds_toArray, List.set_cons_zero, List.set_cons_succ]
                      refine wpAnyH_take (i := 10) (v := ?_) (by simp only [List.getElem?_toArray, List.getElem?_cons_succ, List.getElem?_cons_zero]; rfl) (by kernel_rfl) (by kernel_rfl) (by kernel_rfl) (by intro _ _ _ hp; exact hp) (Or.inl ⟨by rfl, ?_⟩) (by assumption) ?_
                      rotate_left
                      · (intro w hSw; (try dsimp only at hSw); go_simp; (try with_reducible rfl))
                      try simp only [Act.put, List.setIfInBounds_toArray, List.set_cons_zero, List.set_cons_succ]
                      refine wpAnyH_take (i := 11) (v := ?_) (by simp only [List.getElem?_toArray, List.getElem?_cons_succ, List.getElem?_cons_zero]; rfl) (by kernel_rfl) (by kernel_rfl) (by kernel_rfl) (by intro _ _ _ hp; exact hp) (Or.inl ⟨by rfl, ?_⟩) (by assumption) ?_
                      rotate_left
                      · (intro w hSw; (try dsimp only at hSw); go_simp; (try with_reducible rfl))
                      try simp only [Act.put, List.setIfInBounds_toArray, List.set_cons_zero, List.set_cons_succ]
                      refine wpAnyH_ready (rs := [5]) (by kernel_rfl) (by simp) ?_
                      refine AllReadyH.cons (by simp only [List.getElem?_toArray, List.getElem?_cons_succ, List.getElem?_cons_zero]; rfl) (fun K hK => ?_) AllReadyH.nil
                      go_simp
                      refine hK.out _ _ ?_ (fun hHeld => ?_)
                      · (try dsimp only); go_keep
                      clear hK K
                      try simp only [Act.put, List.setIfInBounds_toArray, List.set_cons_zero, List.set_cons_succ]
                      refine wpAnyH_take (i := 12) (v := ?_) (by simp only [List.getElem?_toArray, List.getElem?_cons_succ, List.getElem?_cons_zero]; rfl) (by kernel_rfl) (by kernel_rfl) (by kernel_rfl) (by intro _ _ _ hp; exact hp) (Or.inl ⟨by rfl, ?_⟩) (by assumption) ?_
                      rotate_left
                      · (intro w hSw; (try dsimp only at hSw); go_simp; (try with_reducible rfl))
                      try simp only [Act.put, List.setIfInBounds_toArray, List.set_cons_zero, List.set_cons_succ]
                      refine wpAnyH_take (i := 13) (v := ?_) (by simp only [List.getElem?_toArray, List.getElem?_cons_succ, List.getElem?_cons_zero]; rfl) (by kernel_rfl) (by kernel_rfl) (by kernel_rfl) (by intro _ _ _ hp; exact hp) (Or.inl ⟨by rfl, ?_⟩) (by assumption) ?_
                      rotate_left
                      · (intro w hSw; (try dsimp only at hSw); go_simp; (try with_reducible rfl))
                      try simp only [Act.put, List.setIfInBounds_toArray, List.set_cons_zero, List.set_cons_succ]
                      refine wpAnyH_ready (rs := [14]) (by kernel_rfl) (by simp) ?_
                      refine AllReadyH.cons (by simp only [List.getElem?_toArray, List.getElem?_cons_succ, List.getElem?_cons_zero]; rfl) (fun K hK => ?_) AllReadyH.nil
                      go_simp
                      refine hK.out _ _ ?_ (fun hHeld => ?_)
                      · (try dsimp only); go_keep
                      clear hK K
                      try simp only [Act.put, List.setIfInBounds_toArray, List.set_cons_zero, List.set_cons_succ]
                      refine wpAnyH_done (by kernel_rfl) ?_ _
                      obtain ⟨y, hy, hy8, hyx⟩ := xor_else xx pz (HXX ()).2 (by have := HPZ (); omega)
                      rw [hy]
                      have bu := (HB1 ()).1.over at' y (by rw [enc_len]; exact HAL ())
                      have HBU : Unit → Buf (W1.setCell ⟨Wb.heap.size, at', none⟩ (.int .u8 (y : Int))) Wb.heap.size ((Fr.enc f).set at' y) cb := fun _ => bu
                      have HIN : Unit → ∀ W', Buf W' Wb.heap.size ((Fr.enc f).set at' y) cb → Calls Try.prog 12 #[.pointer (some ⟨x.b d, 0, none⟩), .slice (some ⟨Wb.heap.size, 0, none⟩) (flen f) cb] W' fun r w' => r = .returned (.slice none 0 0) ∧ Keep nil W' w' := fun _ W' hb => by
                        have hseen := enc_seen f (HX ()).2.2.2 at' y (HAL ()) hy8 (by rw [(HXX ()).1]; intro e; cases e; exact hyx rfl)
                        have hby : ∀ t ∈ (Fr.enc f).set at' y, t < 256 := fun t ht => by
                          rcases List.mem_or_eq_of_mem_set ht with h | h
                          · exact enc_byte _ (HX ()).2.2.2 t h
                          · omega
                        have := in_no (x.b d) 0 Wb.heap.size 0 cb ((Fr.enc f).set at' y) W' ⟨hb.row, hb.lt, hb.len, by rw [List.length_set, enc_len]; have := HF (); omega, hby⟩ hseen
                        rw [List.length_set, enc_len] at this
                        exact this
                      have kc : Keep nil Wb (W1.setCell ⟨Wb.heap.size, at', none⟩ (.int .u8 (y : Int))) := (HB1 ()).2.setCell (p := ⟨Wb.heap.size, at', none⟩) (fun h => by simp only at h; omega) _
                      have HKC : Unit → _ := fun _ => kc
                      clear hy hyx hy8 bu hcell hfro kc
                      go_wp2_with fail
                      refine (HIN () _ (HBU ()).drew).mono ?_
                      rintro r w6 ⟨rfl, hk6⟩
                      have kk6 : Keep nil Wb w6 := ((HKC ()).drew).trans hk6
                      have q1 := (kk6.cell x.eb c hebl (fun e => e)).trans ((HB ()).1.at c hc).1
                      have HK6 : Unit → Keep nil Wb w6 := fun _ => kk6
                      clear hk6 kk6 u1 u2 u5 u7 bx1
                      go_wp2_with fail
                      obtain ⟨WX, hWX⟩ : ∃ WX, WX = w6 := ⟨_, rfl⟩
                      obtain ⟨s1, hs1⟩ : ∃ s1 : Cy, s1 = s := ⟨_, rfl⟩
                      obtain ⟨tag1, ht1⟩ : ∃ tag1, tag1 = tag := ⟨_, rfl⟩
                      rw [← hWX]
                      have HT : Unit → CS w WX x s1 tag1 ∧ Ok s1 (6 * (i + 1)) (i + 1) := fun _ => ⟨by rw [hWX, hs1, ht1]; exact (HB ()).1.same (HK6 ()) (fun _ _ _ e => e), by rw [hs1]; exact (HS ()).2.1.more⟩
                      clear hWX hs1 ht1 q1
                      go_meet
                      case rel => exact ⟨s1, tag1, HT ()⟩
                · have hge : (L : Int) ≤ (z : Int) := by omega
                  go_wp2_with fail
                  go_region_held (fun w' => w'.cell? ⟨xb, 2, none⟩ = some (.int .i64 bS) ∧ w'.cell? ⟨x.tb, c, none⟩ = some (.slice (s.a c) L cv)) (go_keep) ((go_at_call 5; refine (HP () _).mono ?_; rintro e w' ⟨rfl, rfl⟩))
                  go_wp2_with fail
                  obtain ⟨WX, hWX⟩ : ∃ WX, WX = Wb.drew := ⟨_, rfl⟩
                  obtain ⟨s1, hs1⟩ : ∃ s1 : Cy, s1 = s := ⟨_, rfl⟩
                  obtain ⟨tag1, ht1⟩ : ∃ tag1, tag1 = tag := ⟨_, rfl⟩
                  rw [← hWX]
                  have HT : Unit → CS w WX x s1 tag1 ∧ Ok s1 (6 * (i + 1)) (i + 1) := fun _ => ⟨by rw [hWX, hs1, ht1]; exact (HB ()).1.same ((Keep.refl nil Wb).drew) (fun _ _ _ e => e), by rw [hs1]; exact (HS ()).2.1.more⟩
                  clear hWX hs1 ht1 t1 t2 t3 t4 t5 t6 v1 v2 v3 v4 v5 v6 bx
                  go_meet
                  case rel => exact ⟨s1, tag1, HT ()⟩
          · as_aux_lemma =>
              have hebl : x.eb < Wb.heap.size := (HB ()).1.ends.lt
              have hne2 : ¬ x.eb = x.tb := fun e => by have h1 := (HB ()).1.t5; rw [e, (HB ()).1.t6] at h1; omega
              have hwd : IntKind.i64.wrap (d : Int) = (d : Int) := by rw [IntKind.wrap_i64]; omega
              have k0 : ((kz : Int) == 0) = false := by simp; omega
              have k1 : ((kz : Int) == 1) = false := by simp; omega
              have k2 : ((kz : Int) == 2) = false := by simp; omega
              have k3 : ((kz : Int) == 3) = false := by simp; omega
              have k4 : ((kz : Int) == 4) = false := by simp; omega
              have HTK : Unit → ∀ w5, Keep nil Wb w5 → _ := fun _ w5 k5 => taken_any w w5 x s tag ((HB ()).1.same k5 (fun _ _ _ e => e)) c d hc hd2 hcd bS (HRK ()).2.2.1 (HRK ()).2.2.2 ((HS ()).2.1.pair hc hd2 hcd) (by have := (HS ()).2.1.len c hc; omega) (by have := (HS ()).2.1.sent c hc; omega) (by have := (HS ()).2.1.len d hd2; omega)
              go_wp2_with fail
              go_still_tail 14, (by kernel_rfl)
              go_wp2_with (go_at_call 13; refine (HTK () _ ((Keep.refl nil Wb).drew)).mono ?_; rintro r w6 ⟨rfl, s6, tag6, hcs6, hw6⟩)
              all_goals
                have HC6 : Unit → _ := fun _ => (⟨hcs6, hw6⟩ : _ ∧ _)
                obtain ⟨q1, q2, q3, q4, q5, q6⟩ := hcs6.at c hc
                clear hcs6 hw6 t1 t2 t3 t4 t5 t6 v1 v2 v3 v4 v5 v6 bx q2 q3 q4 q5 q6 HTK
                go_wp2_with fail
                obtain ⟨WX, hWX⟩ : ∃ WX, WX = w6 := ⟨_, rfl⟩
                obtain ⟨s1, hs1⟩ : ∃ s1 : Cy, s1 = s6 := ⟨_, rfl⟩
                obtain ⟨tag1, ht1⟩ : ∃ tag1, tag1 = tag6 := ⟨_, rfl⟩
                rw [← hWX]
                have HT : Unit → CS w WX x s1 tag1 ∧ Ok s1 (6 * (i + 1)) (i + 1) := fun _ => ⟨by rw [hWX, hs1, ht1]; exact (HC6 ()).1, by
                  rw [hs1]
                  rcases (HC6 ()).2 with ⟨e, _⟩ | ⟨k, f, _, hk⟩
                  · rw [e]; exact (HS ()).2.1.more
                  · have := (HS ()).2.1.delivered hc hd2 hcd hk
                    exact ⟨this.both, fun k hk => by have := this.len k hk; omega, fun k hk => by have := this.sent k hk; omega⟩⟩
                clear hWX hs1 ht1 q1
                go_meet
                case rel => exact ⟨s1, tag1, HT ()⟩
        case rest =>
          as_aux_lemma =>
            obtain ⟨s1, tag1, hT⟩ := hcut
            have HT : Unit → CS w wc x s1 tag1 ∧ Ok s1 (6 * (i + 1)) (i + 1) := fun _ => hT
            have q1 := (hT.1.at c hc).1
            clear hT t1 t2 t3 t4 t5 t6 v1 v2 v3 v4 v5 v6 bx
            go_wp2_with fail
            refine (out_any zero24 62 (x.b c) 0 (s1.e c) (s1.p c) wc ((HT ()).1.rep c hc)).mono ?_
            rintro r W1 ⟨rfl, hr1, hk1⟩
            obtain ⟨s2, tag2, hg2⟩ := (HT ()).1.gone c hc hr1 hk1
            have HG : Unit → Gone w W1 x s1 s2 tag2 c := fun _ => hg2
            have y2 : W1.cell? ⟨x.tb, c, none⟩ = some (.slice (s1.a c) (s1.bag c).length (s1.ca c)) := by have := (hg2.cs.at c hc).2.1; rw [hg2.is] at this; exact this
            have y5 := (hg2.cs.at c hc).2.2.2.2.1
            have y7 := (hg2.cs.at d hd2).1
            have HROW : Unit → RV W1 27 1 (s1.a c) (s1.bag c).length (s1.ca c) (bvals (s1.g c) (s1.bag c)) := fun _ => by have := hg2.cs.row c hc; rw [hg2.is] at this; exact this
            have HNT : Unit → ∀ k, (k = x.tb ∨ k = x.eb) → k < W1.heap.size ∧ ¬ inB (s1.a c) k := fun _ k hk => by
              have h1 := hg2.cs.ta c hc k
              rw [hg2.is] at h1
              rcases hk with rfl | rfl
              · exact ⟨hg2.cs.bags.lt, fun e => by have := h1 e; have := hg2.cs.t6; omega⟩
              · exact ⟨hg2.cs.ends.lt, fun e => by have := h1 e; have := hg2.cs.t5; omega⟩
            have HL : Unit → (s1.bag c).length + (s1.e c).out.length ≤ 6 * (i + 1) := fun _ => (HT ()).2.len c hc
            clear hr1 hk1 hg2
            go_wp2_with (at_builtin; refine wpList_append_rr _ rfl (.tmp 189) (.tmp 190) 38 rfl 27 (.slice none 0 0) 1 24 Try.underlying38 list_info rfl (s1.a c) (s1.bag c).length (s1.ca c) rfl (bvals (s1.g c) (s1.bag c)) (HROW ()) (s1.p c).oa (s1.e c).out.length (s1.p c).oc rfl (bvals ((s1.p c).gs.map (fun k => (k, 10))) (s1.e c).out) (HG ()).reads (bvals_one _ _) (by have := HL (); omega) (by have := HL (); omega) ?_; intro a2 c2 W2 hr2 hg2 hk2; have y8 := (hk2.cell x.tb c (HNT () _ (Or.inl rfl)).1 (HNT () _ (Or.inl rfl)).2).trans y2; have y9 := (hk2.frozen x.tb c (HNT () _ (Or.inl rfl)).1 (HNT () _ (Or.inl rfl)).2).trans y5; have y10 := (hk2.cell x.eb d (HNT () _ (Or.inr rfl)).1 (HNT () _ (Or.inr rfl)).2).trans y7)
            obtain ⟨s3, tag3, hcs3, he3, hb3, hsn3, hgt3⟩ := (HG ()).collect hc a2 c2 hr2 (fun k hk => (hg2 k hk).imp id (fun e => by rw [e]; exact Nat.le_refl _)) hk2
            have hok3 := (HT ()).2.collect hc hd2 hcd he3 hb3 hsn3 hgt3
            have HE3 : Unit → s3.e = upd s1.e c (s1.e c).outs := fun _ => he3
            clear y2 y5 y7 y8 y9 y10 hr2 hg2 hk2 he3 hb3 hsn3 hgt3 HROW HNT HL
            obtain ⟨W3, hW3⟩ : ∃ W3, W3 = W2.setCell ⟨x.tb, c, none⟩ (.slice a2 ((s1.bag c).length + (s1.e c).out.length) c2) := ⟨_, rfl⟩
            rw [← hW3] at hcs3 ⊢
            have HT3 : Unit → CS w W3 x s3 tag3 ∧ Ok s3 (6 * (i + 1)) (i + 1) := fun _ => ⟨hcs3, hok3⟩
            clear hW3 hcs3 hok3
            refine (out_any zero24 62 (x.b d) 0 (s3.e d) (s3.p d) W3 ((HT3 ()).1.rep d hd2)).mono ?_
            rintro r W4 ⟨rfl, hr4, hk4⟩
            obtain ⟨s4, tag4, hg4⟩ := (HT3 ()).1.gone d hd2 hr4 hk4
            have HG4 : Unit → Gone w W4 x s3 s4 tag4 d := fun _ => hg4
            have y2 : W4.cell? ⟨x.tb, d, none⟩ = some (.slice (s3.a d) (s3.bag d).length (s3.ca d)) := by have := (hg4.cs.at d hd2).2.1; rw [hg4.is] at this; exact this
            have y5 := (hg4.cs.at d hd2).2.2.2.2.1
            have HROW : Unit → RV W4 27 1 (s3.a d) (s3.bag d).length (s3.ca d) (bvals (s3.g d) (s3.bag d)) := fun _ => by have := hg4.cs.row d hd2; rw [hg4.is] at this; exact this
            have HNT : Unit → x.tb < W4.heap.size ∧ ¬ inB (s3.a d) x.tb := fun _ => by
              have h1 := hg4.cs.ta d hd2 x.tb
              rw [hg4.is] at h1
              exact ⟨hg4.cs.bags.lt, fun e => by have := h1 e; have := hg4.cs.t6; omega⟩
            have HL : Unit → (s3.bag d).length + (s3.e d).out.length ≤ 6 * (i + 1) := fun _ => (HT3 ()).2.len d hd2
            clear hr4 hk4 hg4
            go_wp2_with (at_builtin; refine wpList_append_rr _ rfl (.tmp 204) (.tmp 205) 38 rfl 27 (.slice none 0 0) 1 24 Try.underlying38 list_info rfl (s3.a d) (s3.bag d).length (s3.ca d) rfl (bvals (s3.g d) (s3.bag d)) (HROW ()) (s3.p d).oa (s3.e d).out.length (s3.p d).oc rfl (bvals ((s3.p d).gs.map (fun k => (k, 10))) (s3.e d).out) (HG4 ()).reads (bvals_one _ _) (by have := HL (); omega) (by have := HL (); omega) ?_; intro a5 c5 W5 hr5 hg5 hk5; have y8 := (hk5.cell x.tb d (HNT ()).1 (HNT ()).2).trans y2; have y9 := (hk5.frozen x.tb d (HNT ()).1 (HNT ()).2).trans y5)
            go_roundw
            case rel =>
              obtain ⟨s6, tag6, hcs6, he6, hb6, hsn6, hgt6⟩ := (HG4 ()).collect hd2 a5 c5 hr5 (fun k hk => (hg5 k hk).imp id (fun e => by rw [e]; exact Nat.le_refl _)) hk5
              have hok6 := (HT3 ()).2.collect hd2 hc (Ne.symm hcd) he6 hb6 hsn6 hgt6
              refine ⟨i + 1, s6, tag6, by omega, by go_num, hcs6, hok6, fun k hk => ?_⟩
              rw [he6, HE3 ()]
              rcases two_cases hc hd2 hcd with ⟨rfl, rfl⟩ | ⟨rfl, rfl⟩
              · match k, hk with
                | 0, _ => rfl
                | 1, _ => rfl
              · match k, hk with
                | 0, _ => rfl
                | 1, _ => rfl
            case measure => simp [intOf]; omega
      · have hex : (i < n ∧ i = 300) ∨ ¬ i < n := by omega
        rcases hex with ⟨h1, h2⟩ | h1
        · have h1I : (i : Int) < (n : Int) := by omega
          have h2I : (i : Int) = 300 := by omega
          have HI : Unit → i ≤ 300 := fun _ => hi
          clear hin hkw h1
          go_wp2_with fail
          go_meet
          case rel => exact ⟨i, s, tag, HI (), HS ()⟩
        · have h1I : (n : Int) ≤ (i : Int) := by omega
          have HI : Unit → i ≤ 300 := fun _ => hi
          clear hin hkw h1
          go_wp2_with fail
          go_meet
          case rel => exact ⟨i, s, tag, HI (), HS ()⟩
  case rest =>
    as_aux_lemma =>
      obtain ⟨i, s, tag, hi, hS⟩ := hcut
      have HS : Unit → _ := fun _ => hS
      clear hS
      go_wp2_with fail
      obtain ⟨S, hS⟩ : ∃ S, S = s.sent := ⟨_, rfl⟩
      have HF0 : Unit → CS w wc x s tag ∧ Fin s S 0 0 1 ∧ ∀ k, k < 2 → S k ≤ 300 := fun _ => ⟨(HS ()).1, by rw [hS]; exact Fin.first (HS ()).2.1 hi (HS ()).2.2, fun k hk => by rw [hS]; have := (HS ()).2.1.sent k hk; omega⟩
      clear hS
      go_loopw [18] (fun v wr => ∃ (r : Nat) (s2 : Cy) (tag2 : Nat → Nat), r ≤ 2 * (S 0 + S 1) + 4 ∧ v = .int .i64 (r : Int) ∧ CS w wr x s2 tag2 ∧ Fin s2 S r 0 1) (fun v _ => 2 * (S 0 + S 1) + 4 - (intOf v).toNat)
      case atStart => exact ⟨0, s, tag, by omega, rfl, (HF0 ()).1, (HF0 ()).2.1⟩
      case round =>
        obtain ⟨r, s2, tag2, hr, rfl, hcs2, hfin⟩ := hrel
        have HC2 : Unit → _ := fun _ => (⟨hcs2, hfin⟩ : _ ∧ _)
        have a3 : wr.cell? ⟨x.sb, 0, none⟩ = some (.int .i64 (S 0 : Int)) := by have := (hcs2.at 0 (by omega)).2.2.1; rw [hfin.sent] at this; exact this
        have b3 : wr.cell? ⟨x.sb, 1, none⟩ = some (.int .i64 (S 1 : Int)) := by have := (hcs2.at 1 (by omega)).2.2.1; rw [hfin.sent] at this; exact this
        have b0 := (HF0 ()).2.2 0 (by omega)
        have b1 := (HF0 ()).2.2 1 (by omega)
        have hw1 : IntKind.i64.wrap ((S 0 : Int) + (S 1 : Int)) = (S 0 : Int) + (S 1 : Int) := by rw [IntKind.wrap_i64]; omega
        have hw2 : IntKind.i64.wrap (2 * ((S 0 : Int) + (S 1 : Int))) = 2 * ((S 0 : Int) + (S 1 : Int)) := by rw [IntKind.wrap_i64]; omega
        have hw3 : IntKind.i64.wrap (2 * ((S 0 : Int) + (S 1 : Int)) + 4) = 2 * ((S 0 : Int) + (S 1 : Int)) + 4 := by rw [IntKind.wrap_i64]; omega
        have HR : Unit → r ≤ 2 * (S 0 + S 1) + 4 ∧ S 0 ≤ 300 ∧ S 1 ≤ 300 := fun _ => ⟨hr, b0, b1⟩
        clear hcs2 hfin b0 b1 hr
        by_cases hrT : r < 2 * (S 0 + S 1) + 4
        · have hrI : (r : Int) < 2 * ((S 0 : Int) + (S 1 : Int)) + 4 := by omega
          have HRT : Unit → r < 2 * (S 0 + S 1) + 4 := fun _ => hrT
          clear hrT
          go_wp2_with fail
          go_loopw [19] (fun v wr => ∃ (c : Nat) (s3 : Cy) (tag3 : Nat → Nat), v = .int .i64 (c : Int) ∧ CS w wr x s3 tag3 ∧ ((c < 2 ∧ Fin s3 S r c (1 - c)) ∨ (c = 2 ∧ Fin s3 S (r + 1) 0 1))) (fun v _ => 2 - (intOf v).toNat)
          case atStart => exact ⟨0, s2, tag2, rfl, (HC2 ()).1, Or.inl ⟨by omega, (HC2 ()).2⟩⟩
          case round =>
            obtain ⟨c, s3, tag3, rfl, hcs3, ⟨hc, hf3⟩ | ⟨rfl, hf3⟩⟩ := hrel
            · obtain ⟨d, hd⟩ : ∃ d, d = 1 - c := ⟨_, rfl⟩
              rw [← hd] at hf3
              have hd2 : d < 2 := by omega
              have hcd : c ≠ d := by omega
              have hcI : (c : Int) < 2 := by omega
              have hdI : (1 : Int) - (c : Int) = (d : Int) := by omega
              have hd2I : (d : Int) < 2 := by omega
              have hwd : IntKind.i64.wrap (d : Int) = (d : Int) := by rw [IntKind.wrap_i64]; omega
              clear hd a3 b3
              obtain ⟨t1, t2, t3, t4, t5, t6⟩ := hcs3.at c hc
              obtain ⟨v1, v2, v3, v4, v5, v6⟩ := hcs3.at d hd2
              have HC3 : Unit → CS w wr x s3 tag3 ∧ Fin s3 S r c d := fun _ => ⟨hcs3, hf3⟩
              have hne2 : ¬ x.eb = x.tb := fun e => by have h1 := hcs3.t5; rw [e, hcs3.t6] at h1; omega
              clear hcs3 hf3 t2 t3 t4 t5 t6 v1 v2 v3 v4 v5 v6
              go_wp2_with fail
              refine (tick_any zero24 62 (x.b c) 0 (s3.e c) (s3.p c) wr ((HC3 ()).1.rep c hc) (by rw [(HC3 ()).2.outc]; simp)).mono ?_
              rintro rr w6 ⟨rfl, p6, hr6, hs6⟩
              obtain ⟨tag6, hcs6, _⟩ := (HC3 ()).1.step c hc _ _ hr6 hs6
              obtain ⟨s1, hs1⟩ : ∃ s1 : Cy, s1 = { s3 with e := upd s3.e c (s3.e c).tick, p := upd s3.p c p6 } := ⟨_, rfl⟩
              rw [← hs1] at hcs6
              obtain ⟨q1, q2, q3, q4, q5, q6⟩ := hcs6.at c hc
              have HT : Unit → CS w w6 x s1 tag6 := fun _ => hcs6
              have HS1 : Unit → s1 = { s3 with e := upd s3.e c (s3.e c).tick, p := upd s3.p c p6 } := fun _ => hs1
              clear hcs6 hr6 hs6 hs1 t1 q2 q3 q4 q5 q6
              go_wp2_with fail
              refine (out_any zero24 62 (x.b c) 0 (s1.e c) (s1.p c) w6 ((HT ()).rep c hc)).mono ?_
              rintro rr W1 ⟨rfl, hr1, hk1⟩
              obtain ⟨s2', tag2', hg2⟩ := (HT ()).gone c hc hr1 hk1
              have HG : Unit → Gone w W1 x s1 s2' tag2' c := fun _ => hg2
              have y2 : W1.cell? ⟨x.tb, c, none⟩ = some (.slice (s1.a c) (s1.bag c).length (s1.ca c)) := by have := (hg2.cs.at c hc).2.1; rw [hg2.is] at this; exact this
              have y5 := (hg2.cs.at c hc).2.2.2.2.1
              have HROW : Unit → RV W1 27 1 (s1.a c) (s1.bag c).length (s1.ca c) (bvals (s1.g c) (s1.bag c)) := fun _ => by have := hg2.cs.row c hc; rw [hg2.is] at this; exact this
              have HNT : Unit → x.tb < W1.heap.size ∧ ¬ inB (s1.a c) x.tb := fun _ => by
                have h1 := hg2.cs.ta c hc x.tb
                rw [hg2.is] at h1
                exact ⟨hg2.cs.bags.lt, fun e => by have := h1 e; have := hg2.cs.t6; omega⟩
              have HL : Unit → (s1.bag c).length + (s1.e c).out.length ≤ 20000 := fun _ => by
                have h1 := (HC3 ()).2.psic
                have h2 := (HC3 ()).2.psid
                have h3 := psi_len (s3.e c) (s3.e d) (s3.bag c) (s3.bag d) (S c) (S d) (4000 + 4 * (r + 1)) (by omega) (by omega)
                have h4 := HR ()
                have h5 := tick_len (s3.e c)
                have e1 : s1.bag c = s3.bag c := by rw [HS1 ()]
                have e2 : (s1.e c).out.length = (s3.e c).tick.out.length := by rw [HS1 ()]; simp only [upd_self]
                rw [e1, e2]
                omega
              clear hr1 hk1 hg2 q1
              go_wp2_with (at_builtin; refine wpList_append_rr _ rfl (.tmp 236) (.tmp 237) 38 rfl 27 (.slice none 0 0) 1 24 Try.underlying38 list_info rfl (s1.a c) (s1.bag c).length (s1.ca c) rfl (bvals (s1.g c) (s1.bag c)) (HROW ()) (s1.p c).oa (s1.e c).out.length (s1.p c).oc rfl (bvals ((s1.p c).gs.map (fun k => (k, 10))) (s1.e c).out) (HG ()).reads (bvals_one _ _) (by have := HL (); omega) (by have := HL (); omega) ?_; intro a2 c2 W2 hr2 hg2 hk2; have y8 := (hk2.cell x.tb c (HNT ()).1 (HNT ()).2).trans y2; have y9 := (hk2.frozen x.tb c (HNT ()).1 (HNT ()).2).trans y5)
              obtain ⟨s5, tag5, hcs5, he5, hb5, hsn5, hgt5⟩ := (HG ()).collect hc a2 c2 hr2 (fun k hk => (hg2 k hk).imp id (fun e => by rw [e]; exact Nat.le_refl _)) hk2
              have hmid5 : Mid s5 S r c d := by
                refine (HC3 ()).2.ticked hcd ?_ ?_ ?_ ?_
                · rw [he5, HS1 ()]
                  funext k
                  unfold upd
                  split
                  · rename_i hk; simp [hk]
                  · rename_i hk; simp [hk]
                · rw [hb5, HS1 ()]; simp only [upd_self]
                · rw [hsn5, HS1 ()]
                · rw [hgt5, HS1 ()]
              clear y2 y5 y8 y9 hr2 hg2 hk2 he5 hb5 hsn5 hgt5 HROW HNT HL
              obtain ⟨W3, hW3⟩ : ∃ W3, W3 = W2.setCell ⟨x.tb, c, none⟩ (.slice a2 ((s1.bag c).length + (s1.e c).out.length) c2) := ⟨_, rfl⟩
              rw [← hW3] at hcs5 ⊢
              clear hW3
              have HIN4 : Unit → CS w W3 x s5 tag5 ∧ Mid s5 S r c d := fun _ => ⟨hcs5, hmid5⟩
              clear hcs5 hmid5
              go_loopw [] (fun wr4 => ∃ (s4 : Cy) (tag4 : Nat → Nat), CS w wr4 x s4 tag4 ∧ Mid s4 S r c d) (fun wr4 => lenO (wr4.cell? ⟨x.tb, c, none⟩))
              case atStart => exact ⟨s5, tag5, (HIN4 ()).1, (HIN4 ()).2⟩
              case round =>
                obtain ⟨s4, tag4, hcs4, hm4⟩ := hrel
                obtain ⟨t1, t2, t3, t4, t5, t6⟩ := hcs4.at c hc
                have v1 := (hcs4.at d hd2).1
                have HC4 : Unit → CS w wr x s4 tag4 ∧ Mid s4 S r c d := fun _ => ⟨hcs4, hm4⟩
                obtain ⟨L, hL⟩ : ∃ L, L = (s4.bag c).length := ⟨_, rfl⟩
                rw [← hL] at t2
                have HLL : Unit → L = (s4.bag c).length := fun _ => hL
                have HLB : Unit → (s4.bag c).length + (s4.e c).out.length ≤ 20000 ∧ (s4.bag d).length + (s4.e d).out.length ≤ 20000 := fun _ => by
                  have h1 := (HC4 ()).2.psic
                  have h2 := (HC4 ()).2.psid
                  have h3 := psi_len (s4.e c) (s4.e d) (s4.bag c) (s4.bag d) (S c) (S d) (4000 + 4 * (r + 1)) (by omega) (by omega)
                  have h4 := HR ()
                  omega
                clear hcs4 hm4 hL t4 t5 t6
                by_cases hL0 : L = 0
                · have HL0 : Unit → L = 0 := fun _ => hL0
                  rw [hL0] at t2
                  clear hL0 t3 t1
                  go_wp2_with fail
                  refine (out_any zero24 62 (x.b d) 0 (s4.e d) (s4.p d) wr ((HC4 ()).1.rep d hd2)).mono ?_
                  rintro rr W4 ⟨rfl, hr4, hk4⟩
                  obtain ⟨s6', tag6', hg4⟩ := (HC4 ()).1.gone d hd2 hr4 hk4
                  have HG4 : Unit → Gone w W4 x s4 s6' tag6' d := fun _ => hg4
                  have y2 : W4.cell? ⟨x.tb, d, none⟩ = some (.slice (s4.a d) (s4.bag d).length (s4.ca d)) := by have := (hg4.cs.at d hd2).2.1; rw [hg4.is] at this; exact this
                  have y5 := (hg4.cs.at d hd2).2.2.2.2.1
                  have HROW : Unit → RV W4 27 1 (s4.a d) (s4.bag d).length (s4.ca d) (bvals (s4.g d) (s4.bag d)) := fun _ => by have := hg4.cs.row d hd2; rw [hg4.is] at this; exact this
                  have HNT : Unit → x.tb < W4.heap.size ∧ ¬ inB (s4.a d) x.tb := fun _ => by
                    have h1 := hg4.cs.ta d hd2 x.tb
                    rw [hg4.is] at h1
                    exact ⟨hg4.cs.bags.lt, fun e => by have := h1 e; have := hg4.cs.t6; omega⟩
                  clear hr4 hk4 hg4 t2 v1
                  go_wp2_with (at_builtin; refine wpList_append_rr _ rfl (.tmp 271) (.tmp 272) 38 rfl 27 (.slice none 0 0) 1 24 Try.underlying38 list_info rfl (s4.a d) (s4.bag d).length (s4.ca d) rfl (bvals (s4.g d) (s4.bag d)) (HROW ()) (s4.p d).oa (s4.e d).out.length (s4.p d).oc rfl (bvals ((s4.p d).gs.map (fun k => (k, 10))) (s4.e d).out) (HG4 ()).reads (bvals_one _ _) (by have := (HLB ()).2; omega) (by have := (HLB ()).2; omega) ?_; intro a5 c5 W5 hr5 hg5 hk5; have y8 := (hk5.cell x.tb d (HNT ()).1 (HNT ()).2).trans y2; have y9 := (hk5.frozen x.tb d (HNT ()).1 (HNT ()).2).trans y5)
                  go_roundw
                  case rel =>
                    obtain ⟨s6, tag6, hcs6, he6, hb6, hsn6, hgt6⟩ := (HG4 ()).collect hd2 a5 c5 hr5 (fun k hk => (hg5 k hk).imp id (fun e => by rw [e]; exact Nat.le_refl _)) hk5
                    have hfin := (HC4 ()).2.done hc hd2 hcd (List.eq_nil_of_length_eq_zero (by have := HLL (); have := HL0 (); omega)) he6 hb6 hsn6 hgt6
                    refine ⟨c + 1, s6, tag6, by go_num, hcs6, ?_⟩
                    rcases two_cases hc hd2 hcd with ⟨rfl, rfl⟩ | ⟨rfl, rfl⟩
                    · exact Or.inl ⟨by omega, hfin⟩
                    · exact Or.inr ⟨rfl, hfin⟩
                  case measure => simp [intOf]; omega
                · have hLp : (0 : Int) < (L : Int) := by omega
                  have HTK : Unit → ∀ w5, Keep nil wr w5 → _ := fun _ w5 k5 => taken_any w w5 x s4 tag4 ((HC4 ()).1.same k5 (fun _ _ _ e => e)) c d hc hd2 hcd 0 (by omega) (by omega) (by have := (HC4 ()).2.both; rw [← (HC4 ()).2.sent] at this; exact this) (by have := (HLB ()).1; omega) (by rw [(HC4 ()).2.sent]; have := (HF0 ()).2.2 c hc; omega) (by have := (HLB ()).2; omega)
                  have HLP : Unit → 0 < L := fun _ => by omega
                  have HT2 : Unit → wr.cell? ⟨x.tb, c, none⟩ = some (.slice (s4.a c) L (s4.ca c)) := fun _ => t2
                  clear hL0
                  go_wp2_with fail
                  go_still_tail 12, (by kernel_rfl)
                  go_wp2_with (go_at_call 13; refine (HTK () _ ((Keep.refl nil wr).drew)).mono ?_; rintro rr w7 ⟨rfl, s7, tag7, hcs7, hw7⟩)
                  all_goals
                    have HW7 : Unit → _ := fun _ => (⟨hcs7, hw7⟩ : _ ∧ _)
                    have HM7 : Unit → Mid s7 S r c d ∧ (s7.bag c).length + 1 = L := fun _ => by
                      rcases (HW7 ()).2 with ⟨_, e⟩ | ⟨k, f, hk0, hk⟩
                      · exact absurd ⟨by trivial, by have := HLL (); have := HLP (); omega⟩ e
                      · have := hk0 (by trivial)
                        subst this
                        have h1 := (HC4 ()).2.came hcd (by have := (HF0 ()).2.2 c hc; omega) hk
                        exact ⟨h1.1, by rw [h1.2]; exact (HLL ()).symm⟩
                    clear hcs7 hw7
                    go_wp2
                    go_roundw
                    case rel => exact ⟨s7, tag7, (HW7 ()).1, (HM7 ()).1⟩
                    case measure =>
                      rw [((HW7 ()).1.at c hc).2.1, HT2 ()]
                      have := (HM7 ()).2
                      simp only [lenO]
                      omega
            · have HF3 : Unit → CS w wr x s3 tag3 ∧ Fin s3 S (r + 1) 0 1 := fun _ => ⟨hcs3, hf3⟩
              have hwr : IntKind.i64.wrap ((r : Int) + 1) = (r : Int) + 1 := by rw [IntKind.wrap_i64]; have := HR (); omega
              clear hcs3 hf3
              go_wp2
              go_roundw
              case rel => exact ⟨r + 1, s3, tag3, HRT (), by go_num, (HF3 ()).1, (HF3 ()).2⟩
              case measure => simp [intOf]; have := HRT (); omega
        · have hrI : 2 * ((S 0 : Int) + (S 1 : Int)) + 4 ≤ (r : Int) := by omega
          go_wp2_with fail
          have hgot := all_got (HC2 ()).2.both (R := r) (by omega) (by omega) (HC2 ()).2.goal (by have := (HC2 ()).2.pend; rwa [Nat.add_zero] at this)
          have t1 := ((HC2 ()).1.at 0 (by omega)).1
          have hebl : x.eb < wr.heap.size := (HC2 ()).1.ends.lt
          have HSL : Unit → (S 0 : Int) < 1000000 := fun _ => by have := (HF0 ()).2.2 0 (by omega); omega
          have HGOT : Unit → s2.got 0 = S 0 ∧ s2.got 1 = S 1 ∧ (s2.e 0).wait = [] := fun _ => hgot
          have HSEND : Unit → ∀ w5, Keep nil wr w5 → _ := fun _ w5 k5 => send_yes zero24 62 (x.b 0) 0 (s2.e 0) (s2.p 0) (rmsg (S 0)) (rmsg_ok _) w5 (((HC2 ()).1.rep 0 (by omega)).keep k5 (fun _ _ e => e)) (by have := (HC2 ()).2.both.there.len; have := (HF0 ()).2.2 0 (by omega); omega) (by rw [(HC2 ()).2.outc]; simp)
          clear hgot hrT hrI
          go_region_with (first
            | (go_at_call 10; refine (message_any (S 0) (HSL ()) _).mono ?_; rintro rr w5 ⟨rfl, hk5⟩; have d0 := (hk5.cell x.eb 0 hebl (fun e => e)).trans t1)
            | (go_at_call 9; refine (HSEND () _ (((Keep.refl nil wr).drew).trans hk5)).mono ?_; rintro rr w6 ⟨rfl, p6, hr6, hs6⟩))
          all_goals
            obtain ⟨tag6, hcs6, _⟩ := ((HC2 ()).1.same (((Keep.refl nil wr).drew).trans hk5) (fun _ _ _ e => e)).step 0 (by omega) _ _ hr6 hs6
            obtain ⟨s6, hs6e⟩ : ∃ s6 : Cy, s6 = { s2 with e := upd s2.e 0 ((s2.e 0).send (rmsg (S 0))), p := upd s2.p 0 p6 } := ⟨_, rfl⟩
            rw [← hs6e] at hcs6
            have q1 := (hcs6.at 0 (by omega)).1
            have HC6 : Unit → CS w w6 x s6 tag6 := fun _ => hcs6
            have HE6 : Unit → s6 = { s2 with e := upd s2.e 0 ((s2.e 0).send (rmsg (S 0))), p := upd s2.p 0 p6 } := fun _ => hs6e
            clear hcs6 hr6 hs6 hs6e hk5 t1
            go_wp2_with fail
            refine (out_any zero24 62 (x.b 0) 0 (s6.e 0) (s6.p 0) w6 ((HC6 ()).rep 0 (by omega))).mono ?_
            rintro rr W7 ⟨rfl, hr7, hk7⟩
            obtain ⟨s7, tag7, hg7⟩ := (HC6 ()).gone 0 (by omega) hr7 hk7
            have e7 : s7.sent = S ∧ s7.got = s2.got := by rw [hg7.is, HE6 ()]; exact ⟨(HC2 ()).2.sent, rfl⟩
            have z1 : W7.cell? ⟨x.sb, 0, none⟩ = some (.int .i64 (S 0 : Int)) := by have := (hg7.cs.at 0 (by omega)).2.2.1; rw [e7.1] at this; exact this
            have z2 : W7.cell? ⟨x.sb, 1, none⟩ = some (.int .i64 (S 1 : Int)) := by have := (hg7.cs.at 1 (by omega)).2.2.1; rw [e7.1] at this; exact this
            have z3 : W7.cell? ⟨x.gb, 0, none⟩ = some (.int .i64 (S 0 : Int)) := by have := (hg7.cs.at 0 (by omega)).2.2.2.1; rw [e7.2, (HGOT ()).1] at this; exact this
            have z4 : W7.cell? ⟨x.gb, 1, none⟩ = some (.int .i64 (S 1 : Int)) := by have := (hg7.cs.at 1 (by omega)).2.2.2.1; rw [e7.2, (HGOT ()).2.1] at this; exact this
            have hlen : (s6.e 0).out.length = 1 := by
              rw [HE6 ()]
              simp only [upd_self]
              show ((s2.e 0).out ++ En.frames _ ((((s2.e 0).wait ++ [rmsg (S 0)]).take 4).drop (s2.e 0).shown)).length = 1
              have h1 : (s2.e 0).shown = 0 := by unfold En.shown; rw [(HGOT ()).2.2]; rfl
              rw [(HC2 ()).2.outc, (HGOT ()).2.2, h1]
              rfl
            rw [hlen]
            have HK7 : Unit → Keep nil w W7 := fun _ => hg7.cs.keep
            clear hg7 e7 hr7 hk7 hlen q1
            go_wp2
            go_ret
            exact ⟨rfl, HK7 ()⟩
end Go.Proofs.Ytlfijfodklhplaa
