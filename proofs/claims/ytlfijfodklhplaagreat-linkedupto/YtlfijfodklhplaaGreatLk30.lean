import Derived.Test.YtlfijfodklhplaaGreatLk29
/- Walk of plays, up to Decode. -/
namespace Go.Proofs.YtlfijfodklhplaaGreat
open Go.RowKit
set_option linter.unusedVariables false
set_option linter.unusedSimpArgs false

/-- A script in memory, nil or a row. -/
structure OpsAt (w : World) (sa : Option Addr) (l : List OpD) : Prop where
  at_ : l = [] ∨ ∃ bb bo, sa = some ⟨bb, bo, none⟩ ∧ bb < w.heap.size ∧ ORow w bb bo l
  ok : ∀ o ∈ l, o.ok w
theorem OpsAt.row {w : World} {sa : Option Addr} {l : List OpD} (h : OpsAt w sa l) {i : Nat} (hi : i < l.length) : ∃ bb bo, sa = some ⟨bb, bo, none⟩ ∧ bb < w.heap.size ∧ ORow w bb bo l := by
  rcases h.at_ with h | h
  · rw [h] at hi; simp at hi
  · exact h
theorem OpD.ok.old {w : World} {o : OpD} (h : o.ok w) {yb : Nat} (hy : w.heap.size ≤ yb) : (∀ bb bo, bb < w.heap.size → o.ea = some ⟨bb, bo, none⟩ → ¬ only yb bb) ∧ (∀ bb bo, bb < w.heap.size → o.da = some ⟨bb, bo, none⟩ → ¬ only yb bb) :=
  ⟨fun bb bo h _ e => by simp only [only] at e; omega, fun bb bo h _ e => by simp only [only] at e; omega⟩

set_option maxRecDepth 100000 in
set_option maxHeartbeats 4000000 in
theorem plays_any (sa : Option Addr) (l : List OpD) (cp : Nat) (w : World) (hops : OpsAt w sa l) (hlen : (l.length : Int) < 1099511627750) :
    Calls Tryz.prog 10 #[.slice sa l.length cp, .int .i64 3] w fun r w' => r = .returned (.bool true) ∧ Keep nil w w' := by
  have HO : Unit → OpsAt w sa l ∧ (l.length : Int) < 1099511627750 := fun _ => ⟨hops, hlen⟩
  clear hops hlen
  go_enter Tryz.func10, Tryz.ntmps10
  go_wp2_with fail
  obtain ⟨W1, hW1⟩ : ∃ W1, W1 = w.alloc (.cells #[.slice none 0 0, .slice none 0 0, .slice none 0 0, .slice none 0 0, .slice none 0 0, .slice none 0 0, .slice none 0 0, .slice none 0 0] 73) := ⟨_, rfl⟩
  have hbx : Blk W1 w.heap.size #[.slice none 0 0, .slice none 0 0, .slice none 0 0, .slice none 0 0, .slice none 0 0, .slice none 0 0, .slice none 0 0, .slice none 0 0] 73 := by rw [hW1]; exact Blk.new _ _ _
  have hk1 : Keep nil w W1 := by rw [hW1]; exact (Keep.refl nil w).alloc _
  rw [← hW1]
  obtain ⟨yb, hyb⟩ : ∃ yb, yb = w.heap.size := ⟨_, rfl⟩
  rw [← hyb] at hbx ⊢
  refine (head_any W1).mono ?_
  rintro r w2 ⟨hb, eb, rfl, hh1, hh2, he1, he2, hrow, hedge, hk2⟩
  have hy1 := hbx.lt
  have HH : Unit → ORow w2 hb 0 (hdl eb) ∧ hb < w2.heap.size ∧ hb ≠ yb ∧ (∀ o ∈ hdl eb, o.ok w2) ∧ eb ≠ yb ∧ Keep nil w w2 ∧ w.heap.size ≤ yb := fun _ => ⟨hrow, hh2, by omega, hdl_ok he2 hedge, by omega, hk1.trans hk2, by omega⟩
  have HB0 : Unit → Book w2 w2 yb (.slice none 0 0) (.slice none 0 0) 0 0 := fun _ => ⟨none, 0, [], none, 0, [], ⟨Keep.refl _ _, hbx.keep hk2 (fun e => e), Or.inl ⟨rfl, rfl, rfl, rfl⟩, Or.inl ⟨rfl, rfl, rfl, rfl⟩, fun x e => (by cases e), fun i v h => (by simp at h), fun i v h => (by simp at h)⟩⟩
  clear hW1 hbx hk1 hyb hh1 hh2 he1 he2 hrow hedge hk2 hy1
  go_wp2_with fail
  go_loopw [7, 8] (fun ok v wr => ∃ i na nb : Nat, i ≤ 12 ∧ v = .int .i64 (i : Int) ∧ ok = .bool true ∧ na ≤ i ∧ nb ≤ i ∧ Book w2 wr yb (.slice none 0 0) (.slice none 0 0) na nb) (fun _ v _ => 12 - (intOf v).toNat)
  case atStart => exact ⟨0, 0, 0, by omega, rfl, rfl, by omega, by omega, HB0 ()⟩
  case round =>
    obtain ⟨i, na, nb, hi, rfl, rfl, hna, hnb, hbk⟩ := hrel
    have HR : Unit → Book w2 wr yb (.slice none 0 0) (.slice none 0 0) na nb ∧ na ≤ i ∧ nb ≤ i := fun _ => ⟨hbk, hna, hnb⟩
    have HK : Unit → Keep (only yb) w2 wr := fun _ => let ⟨_, _, _, _, _, _, h⟩ := hbk; h.keep
    clear HB0 hna hnb hbk
    by_cases hil : i < 12
    · as_aux_lemma =>
      obtain ⟨o, ho⟩ : ∃ o, (hdl eb)[i]? = some o := ⟨_, List.getElem?_eq_getElem (show i < (hdl eb).length from hil)⟩
      have hrow := (HH ()).1.keep (HK ()) (HH ()).2.1 (fun e => (HH ()).2.2.1 e)
      have hok := ((HH ()).2.2.2.1 o (List.mem_of_getElem? ho))
      have hiI : (i : Int) < 12 := by omega
      have hhw : hb < wr.heap.size := Nat.lt_of_lt_of_le (HH ()).2.1 (HK ()).size
      have HS : Unit → o.kd ≤ 3 → Calls Tryz.prog 27 #[.pointer (some ⟨yb, 0, none⟩), o.v] wr fun e w' => e = .returned (.bool true) ∧ ∃ na' nb', na' ≤ na + 1 ∧ nb' ≤ nb + 1 ∧ Book w2 w' yb (.slice none 0 0) (.slice none 0 0) na' nb' := fun _ h3 =>
        step_any w2 wr yb _ _ na nb (HR ()).1 o (hok.keep (HK ()) ⟨fun bb bo _ e h => (HH ()).2.2.2.2.1 (((hdl_blk o (List.mem_of_getElem? ho)).1 bb bo e).symm.trans h), fun bb bo _ e h => (hdl_blk o (List.mem_of_getElem? ho)).2 bb bo e⟩) h3 (by have := HR (); omega) (by have := HR (); omega)
      have z0 := orow_get hrow i o ho 0 _ rfl
      have z1 := orow_get hrow i o ho 1 _ rfl
      have z2 := orow_get hrow i o ho 2 _ rfl
      have z3 := orow_get hrow i o ho 3 _ rfl
      have z4 := orow_get hrow i o ho 4 _ rfl
      have z5 := orow_get hrow i o ho 5 _ rfl
      have z6 := orow_get hrow i o ho 6 _ rfl
      have z7 := orow_get hrow i o ho 7 _ rfl
      have z8 := orow_get hrow i o ho 8 _ rfl
      have z9 := orow_get hrow i o ho 9 _ rfl
      have z10 := orow_get hrow i o ho 10 _ rfl
      have z11 := orow_get hrow i o ho 11 _ rfl
      simp only [Nat.zero_add, Nat.add_zero] at z0 z1 z2 z3 z4 z5 z6 z7 z8 z9 z10 z11
      clear hrow hok ho
      obtain ⟨kd, oc, oa, ob, ea, es, ec, d, s, k, l2, n, f, da, ds, dc⟩ := o
      simp only [OpD.v] at HS
      simp only at z0 z1 z2 z3 z4 z5 z6 z7 z8 z9 z10 z11
      by_cases h3 : kd ≤ 3
      · go_wp2_with fail
        refine Calls.mono (HS () h3) ?_
        rintro r w4 ⟨rfl, na', nb', ha, hb', hbk⟩
        have HQ : Unit → na' ≤ na + 1 ∧ nb' ≤ nb + 1 ∧ Book w2 w4 yb (.slice none 0 0) (.slice none 0 0) na' nb' := fun _ => ⟨ha, hb', hbk⟩
        clear ha hb' hbk HS z0 z1 z2 z3 z4 z5 z6 z7 z8 z9 z10 z11 h3
        go_wp2
        go_roundw
        case rel => exact ⟨i + 1, na', nb', by omega, by go_num, rfl, by have := HQ (); have := HR (); omega, by have := HQ (); have := HR (); omega, (HQ ()).2.2⟩
        case measure => simp [intOf]; omega
      · clear HS z1 z2 z3 z4 z5 z6 z7 z8 z9 z10 z11
        have h3' : 3 < kd := by omega
        clear h3
        go_wp2
        clear h3'
        go_roundw
        case rel => exact ⟨i + 1, na, nb, by omega, by go_num, rfl, by have := HR (); omega, by have := HR (); omega, (HR ()).1⟩
        case measure => simp [intOf]; omega
    · have ei : i = 12 := by omega
      subst ei
      clear hi hil HK
      go_wp2_with fail
      have e12 : ((12 : Nat) : Int) = 12 := rfl
      rw [e12]
      clear e12
      go_loopw [7, 9] (fun ok v wx => ∃ i na nb : Nat, i ≤ l.length ∧ v = .int .i64 (i : Int) ∧ ok = .bool true ∧ na ≤ i + 12 ∧ nb ≤ i + 12 ∧ Book w2 wx yb (.slice none 0 0) (.slice none 0 0) na nb) (fun _ v _ => l.length - (intOf v).toNat)
      case atStart => exact ⟨0, na, nb, by omega, rfl, rfl, by have := HR (); omega, by have := HR (); omega, (HR ()).1⟩
      case round =>
        obtain ⟨i, na, nb, hi, rfl, rfl, hna, hnb, hbk⟩ := hrel
        have HR2 : Unit → Book w2 wr yb (.slice none 0 0) (.slice none 0 0) na nb ∧ na ≤ i + 12 ∧ nb ≤ i + 12 := fun _ => ⟨hbk, hna, hnb⟩
        have HK : Unit → Keep (only yb) w wr := fun _ => let ⟨_, _, _, _, _, _, h⟩ := hbk; (((HH ()).2.2.2.2.2.1.mono (fun _ _ e => e.elim)).trans h.keep)
        clear HR hna hnb hbk
        by_cases hil : i < l.length
        · as_aux_lemma =>
          obtain ⟨o, ho⟩ : ∃ o, l[i]? = some o := ⟨_, List.getElem?_eq_getElem hil⟩
          obtain ⟨bb, bo, rfl, hbb, hrow0⟩ := (HO ()).1.row hil
          have hrow := hrow0.keep (HK ()) hbb (fun e => by simp only [only] at e; have := (HH ()).2.2.2.2.2.2; omega)
          have hok := ((HO ()).1.ok o (List.mem_of_getElem? ho))
          have hiI : (i : Int) < (l.length : Int) := by omega
          have HI2 : Unit → (i : Int) < 1099511627750 ∧ i < l.length ∧ i ≤ l.length := fun _ => ⟨by have := (HO ()).2; omega, hil, hi⟩
          have hhw : bb < wr.heap.size := Nat.lt_of_lt_of_le hbb (HK ()).size
          have HS : Unit → o.kd ≤ 3 → Calls Tryz.prog 27 #[.pointer (some ⟨yb, 0, none⟩), o.v] wr fun e w' => e = .returned (.bool true) ∧ ∃ na' nb', na' ≤ na + 1 ∧ nb' ≤ nb + 1 ∧ Book w2 w' yb (.slice none 0 0) (.slice none 0 0) na' nb' := fun _ h3 =>
            step_any w2 wr yb _ _ na nb (HR2 ()).1 o (hok.keep (HK ()) (hok.old (HH ()).2.2.2.2.2.2)) h3 (by have := HR2 (); have := HI2 (); omega) (by have := HR2 (); have := HI2 (); omega)
          have z0 := orow_get hrow i o ho 0 _ rfl
          have z1 := orow_get hrow i o ho 1 _ rfl
          have z2 := orow_get hrow i o ho 2 _ rfl
          have z3 := orow_get hrow i o ho 3 _ rfl
          have z4 := orow_get hrow i o ho 4 _ rfl
          have z5 := orow_get hrow i o ho 5 _ rfl
          have z6 := orow_get hrow i o ho 6 _ rfl
          have z7 := orow_get hrow i o ho 7 _ rfl
          have z8 := orow_get hrow i o ho 8 _ rfl
          have z9 := orow_get hrow i o ho 9 _ rfl
          have z10 := orow_get hrow i o ho 10 _ rfl
          have z11 := orow_get hrow i o ho 11 _ rfl
          simp only [Nat.add_zero] at z0 z1 z2 z3 z4 z5 z6 z7 z8 z9 z10 z11
          clear hrow hok ho hrow0 hbb hil hi
          obtain ⟨kd, oc, oa, ob, ea, es, ec, d, s, k, l2, n, f, da, ds, dc⟩ := o
          simp only [OpD.v] at HS
          simp only at z0 z1 z2 z3 z4 z5 z6 z7 z8 z9 z10 z11
          by_cases h3 : kd ≤ 3
          · go_wp2_with fail
            refine Calls.mono (HS () h3) ?_
            rintro r w4 ⟨rfl, na', nb', ha, hb', hbk⟩
            have HQ : Unit → na' ≤ na + 1 ∧ nb' ≤ nb + 1 ∧ Book w2 w4 yb (.slice none 0 0) (.slice none 0 0) na' nb' := fun _ => ⟨ha, hb', hbk⟩
            clear ha hb' hbk HS z0 z1 z2 z3 z4 z5 z6 z7 z8 z9 z10 z11 h3
            have HW : Unit → _ := fun _ => (HQ ()).2.2.whole (by have := HQ (); have := HR2 (); have := HI2 (); omega) (by have := HQ (); have := HR2 (); have := HI2 (); omega)
            go_wp2_with fail
            refine Calls.mono (HW ()) ?_
            rintro r w5 ⟨rfl, m, rfl⟩
            have hi2 := (HI2 ()).1
            clear HW hiI
            go_wp2
            go_roundw
            case rel => exact ⟨i + 1, na', nb', by have := HI2 (); omega, by go_num, rfl, by have := HQ (); have := HR2 (); omega, by have := HQ (); have := HR2 (); omega, (HQ ()).2.2.same ((Keep.refl nil w4).drewN m)⟩
            case measure => have := HI2 (); simp [intOf]; omega
          · clear HS z1 z2 z3 z4 z5 z6 z7 z8 z9 z10 z11
            have h3' : 3 < kd := by omega
            clear h3
            go_upto_region 11 with fail
            clear h3' hiI z0
            have hi2 := (HI2 ()).1
            go_wp2
            go_roundw
            case rel => exact ⟨i + 1, na, nb, by have := HI2 (); omega, by go_num, rfl, by have := HR2 (); omega, by have := HR2 (); omega, (HR2 ()).1⟩
            case measure => have := HI2 (); simp [intOf]; omega
        · have ei : i = l.length := by omega
          subst ei
          go_wp2
          go_ret
          exact ⟨rfl, (Keep.refl nil w).trans' (HK ()) (fun i hi e => by simp only [only] at e; have := (HH ()).2.2.2.2.2.2; omega)⟩

theorem framed_any (sa : Option Addr) (l : List OpD) (cp : Nat) (w : World) (hops : OpsAt w sa l) (hlen : (l.length : Int) < 1099511627750) :
    Calls Tryz.prog 3 #[.slice sa l.length cp] w fun r w' => r = .returned (.bool true) ∧ Keep nil w w' := by
  have HC : Unit → _ := fun _ => plays_any sa l cp w hops hlen
  clear hops hlen
  go_enter Tryz.func3, Tryz.ntmps3
  go_wp2_with fail
  refine Calls.mono (HC ()) ?_
  rintro r w2 ⟨rfl, hk⟩
  have HK : Unit → Keep nil w w2 := fun _ => hk
  clear hk HC
  go_wp2
  go_ret
  exact ⟨rfl, HK ()⟩
end Go.Proofs.YtlfijfodklhplaaGreat
