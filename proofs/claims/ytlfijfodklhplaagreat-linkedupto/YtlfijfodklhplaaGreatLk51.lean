import Derived.Test.YtlfijfodklhplaaGreatLk50
import Derived.Test.YtlfijfodklhplaaGreatLk30
/- Walk of plays, up to Pass (made by tools/playsl.py out of Plays). -/
namespace Go.Proofs.YtlfijfodklhplaaGreat
open Go.RowKit
set_option linter.unusedVariables false
set_option linter.unusedSimpArgs false

def OpD.rng (o : OpD) : Prop := (-9223372036854775808 ≤ o.oc ∧ o.oc ≤ 9223372036854775807) ∧ (-9223372036854775808 ≤ o.oa ∧ o.oa ≤ 9223372036854775807) ∧ (-9223372036854775808 ≤ o.ob ∧ o.ob ≤ 9223372036854775807)
theorem fit_of {w W0 : World} {yb : Nat} {o : OpD} (hok : o.ok w) (hr : o.rng) (hw : w.heap.size ≤ W0.heap.size) (hy : w.heap.size ≤ yb) : o.fit W0 yb := by
  refine ⟨hr.1, hr.2.2, fun bb bo ha hne => ?_⟩
  rcases hok.dd with ⟨e, _⟩ | ⟨ad, e, hs, _⟩
  · rw [e] at ha; cases ha
  · rw [e] at ha; cases ha
    rcases hs with hs | ⟨b1, o1, hs, hl, _⟩
    · exact (hne hs).elim
    · cases hs; omega
theorem hdl_fit (W0 : World) (yb : Nat) {eb : Nat} : ∀ o ∈ hdl eb, o.fit W0 yb := by
  intro o ho
  simp only [hdl, List.mem_cons, List.not_mem_nil, or_false] at ho
  rcases ho with rfl | rfl | rfl | rfl | rfl | rfl | rfl | rfl | rfl | rfl | rfl | rfl <;> exact ⟨by simp [op0], by simp [op0], fun bb bo e _ => by simp [op0] at e⟩
theorem LSt.keep {W0 w : World} {yb : Nat} {p1 : Value} {Y : World → (Nat → Nat) → Prop} {B : Nat} (h : LSt W0 w yb p1 Y B) : Keep (only yb) W0 w := let ⟨_, _, _, _, _, _, h, _⟩ := h; h.b.keep
theorem LSt.whole {W0 w : World} {yb : Nat} {p1 : Value} {Y : World → (Nat → Nat) → Prop} {B : Nat} (h : LSt W0 w yb p1 Y B) (hB : (B : Int) < 1000000000) :
    Calls Tryz.prog 28 #[.pointer (some ⟨yb, 2, none⟩)] w fun e w' => e = .returned (.bool true) ∧ Keep nil w w' := by
  obtain ⟨tag, ea, ec, l, R, Z, hS, hak, hps⟩ := h
  exact hS.b.whole (fun κ hκ => by have := (psi_le R l).1 κ hκ; omega)
theorem lst_new (w : World) (yb : Nat) (hb : Blk w yb #[.slice none 0 0, .slice none 0 0, .slice none 0 0, .slice none 0 0, .slice none 0 0, .slice none 0 0, .slice none 0 0, .slice none 0 0] 73) : LSt w w yb (.slice none 0 0) (fun _ _ => True) 0 := by
  have hyl := hb.lt
  have hY : Yst (fun _ _ => True) := fun _ _ _ _ _ _ _ _ => trivial
  refine ⟨fun k => if k < w.heap.size then (if k = yb then 10 else 9) else 0, none, 0, [], fun _ => Rw.nil, fun _ _ => True, ⟨hY, zst_true, ?_⟩, fun i x h => by simp at h, by simp [Psi, Rw.nil, lsum]⟩
  refine ⟨Keep.refl _ _, hb, fun κ _ => Or.inl ⟨rfl, rfl, rfl, rfl⟩, ?_, fun k hk hy => ?_, fun κ _ i v h => by simp [Rw.nil] at h, fun k hk => ?_, ⟨⟨RV.nil _ _ _, fun g hg => (inB_none g hg).elim, fun i x h => by simp at h⟩, trivial, trivial⟩⟩
  · simp only; rw [if_pos hyl]; simp
  · rw [if_pos (show k < w.heap.size from hk), if_neg hy]
  · rw [if_neg (by omega)]

set_option maxRecDepth 100000 in
set_option maxHeartbeats 4000000 in
theorem plays10_any (sa : Option Addr) (l : List OpD) (cp : Nat) (w : World) (hops : OpsAt w sa l) (hrng : ∀ o ∈ l, o.rng) (hlen : (l.length : Int) ≤ 1048576) :
    Calls Tryz.prog 10 #[.slice sa l.length cp, .int .i64 10] w fun r w' => r = .returned (.bool true) ∧ Keep nil w w' := by
  have HO : Unit → OpsAt w sa l ∧ (l.length : Int) ≤ 1048576 ∧ (∀ o ∈ l, o.rng) := fun _ => ⟨hops, hlen, hrng⟩
  clear hops hlen hrng
  go_enter Tryz.func10, Tryz.ntmps10
  go_wp2_with fail
  obtain ⟨W1, hW1⟩ : ∃ W1, W1 = w.alloc (.cells #[.slice none 0 0, .slice none 0 0, .slice none 0 0, .slice none 0 0, .slice none 0 0, .slice none 0 0, .slice none 0 0, .slice none 0 0] 73) := ⟨_, rfl⟩
  have hbx : Blk W1 w.heap.size #[.slice none 0 0, .slice none 0 0, .slice none 0 0, .slice none 0 0, .slice none 0 0, .slice none 0 0, .slice none 0 0, .slice none 0 0] 73 := by rw [hW1]; exact Blk.new _ _ _
  have hk1 : Keep nil w W1 := by rw [hW1]; exact (Keep.refl nil w).alloc _
  rw [← hW1]
  obtain ⟨yb, hyb⟩ : ∃ yb, yb = w.heap.size := ⟨_, rfl⟩
  rw [← hyb] at hbx ⊢
  refine (head_any W1).mono ?_
  rintro r w2 ⟨hb, eb, rfl, hh1, hh2, he1, he2, hrow, hedge, hk2⟩
  have hy1 := hbx.lt
  have HH : Unit → ORow w2 hb 0 (hdl eb) ∧ hb < w2.heap.size ∧ hb ≠ yb ∧ (∀ o ∈ hdl eb, o.ok w2) ∧ eb ≠ yb ∧ Keep nil w w2 ∧ w.heap.size ≤ yb := fun _ => ⟨hrow, hh2, by omega, hdl_ok he2 hedge, by omega, hk1.trans hk2, by omega⟩
  have HB0 : Unit → LSt w2 w2 yb (.slice none 0 0) (fun _ _ => True) 0 := fun _ => lst_new w2 yb (hbx.keep hk2 (fun e => e))
  clear hW1 hbx hk1 hyb hh1 hh2 he1 he2 hrow hedge hk2 hy1
  go_wp2_with fail
  go_loopw [7, 8] (fun ok v wr => ∃ i : Nat, i ≤ 12 ∧ v = .int .i64 (i : Int) ∧ ok = .bool true ∧ LSt w2 wr yb (.slice none 0 0) (fun _ _ => True) (24 * i)) (fun _ v _ => 12 - (intOf v).toNat)
  case atStart => exact ⟨0, by omega, rfl, rfl, HB0 ()⟩
  case round =>
    obtain ⟨i, hi, rfl, rfl, hbk⟩ := hrel
    have HR : Unit → LSt w2 wr yb (.slice none 0 0) (fun _ _ => True) (24 * i) := fun _ => hbk
    have HK : Unit → Keep (only yb) w2 wr := fun _ => hbk.keep
    clear HB0 hbk
    by_cases hil : i < 12
    · as_aux_lemma =>
      obtain ⟨o, ho⟩ : ∃ o, (hdl eb)[i]? = some o := ⟨_, List.getElem?_eq_getElem (show i < (hdl eb).length from hil)⟩
      have hrow := (HH ()).1.keep (HK ()) (HH ()).2.1 (fun e => (HH ()).2.2.1 e)
      have hok := ((HH ()).2.2.2.1 o (List.mem_of_getElem? ho))
      have hiI : (i : Int) < 12 := by omega
      have hhw : hb < wr.heap.size := Nat.lt_of_lt_of_le (HH ()).2.1 (HK ()).size
      have HS : Unit → o.kd ≤ 10 → Calls Tryz.prog 27 #[.pointer (some ⟨yb, 0, none⟩), o.v] wr fun e w' => e = .returned (.bool true) ∧ LSt w2 w' yb (.slice none 0 0) (fun _ _ => True) (24 * i + 24) := fun _ h3 =>
        step_all10 w2 wr yb _ _ (24 * i) (HR ()) o (hok.keep (HK ()) ⟨fun bb bo _ e h => (HH ()).2.2.2.2.1 (((hdl_blk o (List.mem_of_getElem? ho)).1 bb bo e).symm.trans h), fun bb bo _ e h => (hdl_blk o (List.mem_of_getElem? ho)).2 bb bo e⟩) (hdl_fit w2 yb o (List.mem_of_getElem? ho)) h3 (by omega)
      have z0 := orow_get hrow i o ho 0 _ rfl
      have z1 := orow_get hrow i o ho 1 _ rfl
      have z2 := orow_get hrow i o ho 2 _ rfl
      have z3 := orow_get hrow i o ho 3 _ rfl
      have z4 := orow_get hrow i o ho 4 _ rfl
      have z5 := orow_get hrow i o ho 5 _ rfl
      have z6 := orow_get hrow i o ho 6 _ rfl
      have z7 := orow_get hrow i o ho 7 _ rfl
      have z8 := orow_get hrow i o ho 8 _ rfl
      have z9 := orow_get hrow i o ho 9 _ rfl
      have z10 := orow_get hrow i o ho 10 _ rfl
      have z11 := orow_get hrow i o ho 11 _ rfl
      simp only [Nat.zero_add, Nat.add_zero] at z0 z1 z2 z3 z4 z5 z6 z7 z8 z9 z10 z11
      clear hrow hok ho
      obtain ⟨kd, oc, oa, ob, ea, es, ec, d, s, k, l2, n, f, da, ds, dc⟩ := o
      simp only [OpD.v] at HS
      simp only at z0 z1 z2 z3 z4 z5 z6 z7 z8 z9 z10 z11
      by_cases h3 : kd ≤ 10
      · go_wp2_with fail
        refine Calls.mono (HS () h3) ?_
        rintro r w4 ⟨rfl, hbk⟩
        have HQ : Unit → LSt w2 w4 yb (.slice none 0 0) (fun _ _ => True) (24 * i + 24) := fun _ => hbk
        clear hbk HS z0 z1 z2 z3 z4 z5 z6 z7 z8 z9 z10 z11 h3
        go_wp2
        go_roundw
        case rel => exact ⟨i + 1, by omega, by go_num, rfl, (HQ ()).more (by omega)⟩
        case measure => simp [intOf]; omega
      · clear HS z1 z2 z3 z4 z5 z6 z7 z8 z9 z10 z11
        have h3' : 10 < kd := by omega
        clear h3
        go_wp2
        clear h3'
        go_roundw
        case rel => exact ⟨i + 1, by omega, by go_num, rfl, (HR ()).more (by omega)⟩
        case measure => simp [intOf]; omega
    · have ei : i = 12 := by omega
      subst ei
      clear hi hil HK
      go_wp2_with fail
      have e12 : ((12 : Nat) : Int) = 12 := rfl
      rw [e12]
      clear e12
      go_loopw [7, 9] (fun ok v wx => ∃ i : Nat, i ≤ l.length ∧ v = .int .i64 (i : Int) ∧ ok = .bool true ∧ LSt w2 wx yb (.slice none 0 0) (fun _ _ => True) (24 * (i + 12))) (fun _ v _ => l.length - (intOf v).toNat)
      case atStart => exact ⟨0, by omega, rfl, rfl, (HR ()).more (by omega)⟩
      case round =>
        obtain ⟨i, hi, rfl, rfl, hbk⟩ := hrel
        have HR2 : Unit → LSt w2 wr yb (.slice none 0 0) (fun _ _ => True) (24 * (i + 12)) := fun _ => hbk
        have HK : Unit → Keep (only yb) w wr := fun _ => (((HH ()).2.2.2.2.2.1.mono (fun _ _ e => e.elim)).trans hbk.keep)
        clear HR hbk
        by_cases hil : i < l.length
        · as_aux_lemma =>
          obtain ⟨o, ho⟩ : ∃ o, l[i]? = some o := ⟨_, List.getElem?_eq_getElem hil⟩
          obtain ⟨bb, bo, rfl, hbb, hrow0⟩ := (HO ()).1.row hil
          have hrow := hrow0.keep (HK ()) hbb (fun e => by simp only [only] at e; have := (HH ()).2.2.2.2.2.2; omega)
          have hok := ((HO ()).1.ok o (List.mem_of_getElem? ho))
          have hiI : (i : Int) < (l.length : Int) := by omega
          have HI2 : Unit → (i : Int) < 1048577 ∧ i < l.length ∧ i ≤ l.length := fun _ => ⟨by have := (HO ()).2.1; omega, hil, hi⟩
          have HFT : Unit → o.fit w2 yb := fun _ => fit_of hok ((HO ()).2.2 o (List.mem_of_getElem? ho)) (HH ()).2.2.2.2.2.1.size (HH ()).2.2.2.2.2.2
          have hhw : bb < wr.heap.size := Nat.lt_of_lt_of_le hbb (HK ()).size
          have HS : Unit → o.kd ≤ 10 → Calls Tryz.prog 27 #[.pointer (some ⟨yb, 0, none⟩), o.v] wr fun e w' => e = .returned (.bool true) ∧ LSt w2 w' yb (.slice none 0 0) (fun _ _ => True) (24 * (i + 12) + 24) := fun _ h3 =>
            step_all10 w2 wr yb _ _ (24 * (i + 12)) (HR2 ()) o (hok.keep (HK ()) (hok.old (HH ()).2.2.2.2.2.2)) (HFT ()) h3 (by have := HI2 (); omega)
          have z0 := orow_get hrow i o ho 0 _ rfl
          have z1 := orow_get hrow i o ho 1 _ rfl
          have z2 := orow_get hrow i o ho 2 _ rfl
          have z3 := orow_get hrow i o ho 3 _ rfl
          have z4 := orow_get hrow i o ho 4 _ rfl
          have z5 := orow_get hrow i o ho 5 _ rfl
          have z6 := orow_get hrow i o ho 6 _ rfl
          have z7 := orow_get hrow i o ho 7 _ rfl
          have z8 := orow_get hrow i o ho 8 _ rfl
          have z9 := orow_get hrow i o ho 9 _ rfl
          have z10 := orow_get hrow i o ho 10 _ rfl
          have z11 := orow_get hrow i o ho 11 _ rfl
          simp only [Nat.add_zero] at z0 z1 z2 z3 z4 z5 z6 z7 z8 z9 z10 z11
          clear hrow hok ho hrow0 hbb hil hi
          obtain ⟨kd, oc, oa, ob, ea, es, ec, d, s, k, l2, n, f, da, ds, dc⟩ := o
          simp only [OpD.v] at HS
          simp only at z0 z1 z2 z3 z4 z5 z6 z7 z8 z9 z10 z11
          by_cases h3 : kd ≤ 10
          · go_wp2_with fail
            refine Calls.mono (HS () h3) ?_
            rintro r w4 ⟨rfl, hbk⟩
            have HQ : Unit → LSt w2 w4 yb (.slice none 0 0) (fun _ _ => True) (24 * (i + 12) + 24) := fun _ => hbk
            clear hbk HS z0 z1 z2 z3 z4 z5 z6 z7 z8 z9 z10 z11 h3
            have HW : Unit → _ := fun _ => (HQ ()).whole (by have := HI2 (); omega)
            go_wp2_with fail
            refine Calls.mono (HW ()) ?_
            rintro r w5 ⟨rfl, hk5⟩
            have HK5 : Unit → Keep nil w4 w5 := fun _ => hk5
            clear hk5
            have hi2 := (HI2 ()).1
            clear HW hiI
            go_wp2
            go_roundw
            case rel => exact ⟨i + 1, by have := HI2 (); omega, by go_num, rfl, ((HQ ()).same (HK5 ())).more (by omega)⟩
            case measure => have := HI2 (); simp [intOf]; omega
          · clear HS z1 z2 z3 z4 z5 z6 z7 z8 z9 z10 z11
            have h3' : 10 < kd := by omega
            clear h3
            go_upto_region 11 with fail
            clear h3' hiI z0
            have hi2 := (HI2 ()).1
            go_wp2
            go_roundw
            case rel => exact ⟨i + 1, by have := HI2 (); omega, by go_num, rfl, (HR2 ()).more (by omega)⟩
            case measure => have := HI2 (); simp [intOf]; omega
        · have ei : i = l.length := by omega
          subst ei
          go_wp2
          go_ret
          exact ⟨rfl, (Keep.refl nil w).trans' (HK ()) (fun i hi e => by simp only [only] at e; have := (HH ()).2.2.2.2.2.2; omega)⟩

theorem linked10_any (sa : Option Addr) (l : List OpD) (cp : Nat) (w : World) (hops : OpsAt w sa l) (hrng : ∀ o ∈ l, o.rng) (hlen : (l.length : Int) ≤ 1048576) :
    Calls Tryz.prog 4 #[.slice sa l.length cp] w fun r w' => r = .returned (.bool true) ∧ Keep nil w w' := by
  have HC : Unit → _ := fun _ => plays10_any sa l cp w hops hrng hlen
  clear hops hlen hrng
  go_enter Tryz.func4, Tryz.ntmps4
  go_wp2_with fail
  refine Calls.mono (HC ()) ?_
  rintro r w2 ⟨rfl, hk⟩
  have HK : Unit → Keep nil w w2 := fun _ => hk
  clear hk HC
  go_wp2
  go_ret
  exact ⟨rfl, HK ()⟩
end Go.Proofs.YtlfijfodklhplaaGreat
