import Derived.Test.YtlfijfodklhplaaGreatLk46
import Derived.Test.YtlfijfodklhplaaGreatLk23
/- Walk of whole over all kinds (made by tools/whole2.py out of Whole). -/
namespace Go.Proofs.YtlfijfodklhplaaGreat
open Go.RowKit
set_option linter.unusedVariables false
set_option linter.unusedSimpArgs false


set_option maxRecDepth 100000 in
set_option maxHeartbeats 16000000 in
theorem whole2_any (yb : Nat) (a0 : Option Addr) (na ca : Nat) (VA : List Value) (b0 : Option Addr) (nb cb : Nat) (VB : List Value) (c0 : Option Addr) (nc cc : Nat) (VC : List Value) (p0 p1 p5 p6 p7 : Value) (out : Nat → Prop) (w : World)
    (hyb : Blk w yb #[p0, p1, .slice a0 na ca, .slice b0 nb cb, .slice c0 nc cc, p5, p6, p7] 73)
    (hrest : ∀ m, Calls Tryz.prog 48 #[.pointer (some ⟨yb, 2, none⟩)] (w.drewN m) fun e w' => e = .returned (.bool true) ∧ Keep nil w w')
    (ha : RowHas w a0 na ca VA) (hb : RowHas w b0 nb cb VB) (hc : RowHas w c0 nc cc VC) (hsc : ∀ i v, VC[i]? = some v → NoteAt w i v out) (hnc : (nc : Int) < 1099511627776) (hsa : ∀ i v, VA[i]? = some v → SheetAt w i v out) (hsb : ∀ i v, VB[i]? = some v → RollAt w i v out)
    (hna : (na : Int) < 1099511627776) (hnb : (nb : Int) < 1099511627776) :
    Calls Tryz.prog 28 #[.pointer (some ⟨yb, 2, none⟩)] w fun e w' => e = .returned (.bool true) ∧ Keep nil w w' := by
  have y2 := hyb.cell 2
  have y3 := hyb.cell 3
  have y4 := hyb.cell 4
  simp at y2 y3 y4
  have HA : Unit → RowHas w a0 na ca VA ∧ RowHas w b0 nb cb VB := fun _ => ⟨ha, hb⟩
  have HSA : Unit → ∀ i v, VA[i]? = some v → SheetAt w i v out := fun _ => hsa
  have HSB : Unit → ∀ i v, VB[i]? = some v → RollAt w i v out := fun _ => hsb
  have HN : Unit → (na : Int) < 1099511627776 ∧ (nb : Int) < 1099511627776 := fun _ => ⟨hna, hnb⟩
  have HREST : Unit → ∀ m, Calls Tryz.prog 48 #[.pointer (some ⟨yb, 2, none⟩)] (w.drewN m) fun e w' => e = .returned (.bool true) ∧ Keep nil w w' := fun _ => hrest
  have HC : Unit → RowHas w c0 nc cc VC ∧ (nc : Int) < 1099511627776 := fun _ => ⟨hc, hnc⟩
  have HSC : Unit → ∀ i v, VC[i]? = some v → NoteAt w i v out := fun _ => hsc
  clear hrest hc hnc hsc
  clear hyb ha hb hsa hsb hna hnb
  go_enter Tryz.func28, Tryz.ntmps28
  go_wp2_with fail
  go_loopw [3] (fun v wr => ∃ i m : Nat, i ≤ na ∧ v = .int .i64 (i : Int) ∧ wr = w.drewN m) (fun v _ => na - (intOf v).toNat)
  case atStart => exact ⟨0, 0, by omega, rfl, rfl⟩
  case round =>
    obtain ⟨i, m, hi, rfl, rfl⟩ := hrel
    by_cases hin : i < na
    · as_aux_lemma =>
      obtain ⟨v, hv⟩ : ∃ v, VA[i]? = some v := ⟨_, List.getElem?_eq_getElem (by have := (HA ()).1.1; omega)⟩
      obtain ⟨ab, rfl, hca⟩ := (HA ()).1.2.2 i v hv
      obtain ⟨n0, S, rfl, hblk, h4, hout, hts⟩ := HSA () i v hv
      have HB : Unit → Blk w n0 (S.map Lst.val).toArray 56 ∧ S.length = 4 := fun _ => ⟨hblk, h4⟩
      have HT : Unit → ∀ t ∈ S, t.marked w i ∧ (t.n : Int) ≤ 140737488351310 ∧ ∀ b, t.b = some b → out b ∧ b < w.heap.size := fun _ => hts
      have hinI : (i : Int) < (na : Int) := by omega
      have hni : (i : Int) < 4611686018427387904 := by have := HN (); omega
      have hnca : (na : Int) ≤ (ca : Int) := by have := (HA ()).1.2.1; omega
      have hwi : IntKind.i64.wrap ((i : Int) + 1) = (i : Int) + 1 := by rw [IntKind.wrap_i64]; omega
      clear hv hblk h4 hout hts
      go_wp2_with fail
      go_loopw [4] (fun v wr => ∃ k m : Nat, k ≤ 4 ∧ v = .int .i64 (k : Int) ∧ wr = w.drewN m) (fun v _ => 4 - (intOf v).toNat)
      case atStart => exact ⟨0, m, by omega, rfl, rfl⟩
      case round =>
        obtain ⟨k, m, hk, rfl, rfl⟩ := hrel
        by_cases hk4 : k < 4
        · obtain ⟨t, ht⟩ : ∃ t, S[k]? = some t := ⟨_, List.getElem?_eq_getElem (by rw [(HB ()).2]; exact hk4)⟩
          have htm : t ∈ S := List.mem_of_getElem? ht
          have hct : w.cell? ⟨n0, k, none⟩ = some t.val := by
            have := (HB ()).1.cell k
            rw [this, List.getElem?_toArray, List.getElem?_map, ht]; rfl
          have hkI : (k : Int) < 4 := by omega
          obtain ⟨hmk, hbd, hbb⟩ := HT () t htm
          cases hb : t.b with
          | none =>
            have hv : t.val = .slice none 0 0 := by unfold Lst.val; rw [hb]
            rw [hv] at hct
            clear hmk hbd hbb hb hv ht htm
            go_wp2_with fail
            go_loopw [5] (fun p wi => p = .int .i64 0 ∧ wi = w.drewN m) (fun _ _ => 0)
            case atStart => exact ⟨rfl, rfl⟩
            case round =>
              obtain ⟨rfl, rfl⟩ := hrel
              go_wp2
              go_roundw
              case rel => exact ⟨k + 1, m, by omega, by go_num, rfl⟩
              case measure => simp [intOf]; omega
          | some g' =>
            have hv : t.val = .slice (some ⟨g', 0, none⟩) t.n t.c := by unfold Lst.val; rw [hb]
            rw [hv] at hct
            have HMK : Unit → Marked w g' i t.n := fun _ => by unfold Lst.marked at hmk; rw [hb] at hmk; exact hmk
            clear hmk hbb hb hv ht htm
            go_wp2_with fail
            go_loopw [5] (fun p wi => ∃ q m : Nat, q ≤ t.n ∧ p = .int .i64 (q : Int) ∧ wi = w.drewN m) (fun p _ => t.n - (intOf p).toNat)
            case atStart => exact ⟨0, m, by omega, rfl, rfl⟩
            case round =>
              obtain ⟨q, m, hq, rfl, rfl⟩ := hrel
              by_cases hqt : q < t.n
              · have hcq := HMK () q hqt
                unfold bv at hcq
                have hqI : (q : Int) < (t.n : Int) := by omega
                have hq2 : (q : Int) < 4611686018427387904 := by omega
                go_wp2_with fail
                have HSG : Unit → ∀ w1, Calls Tryz.prog 47 #[.int .i64 (i : Int), .int .i64 (q : Int)] w1 fun e w' => e = .returned (.int .u8 ((sgn i q : Nat) : Int)) ∧ w' = w1 := fun _ w1 => (sign_any i q hni hq2 w1).mono (fun _ _ h => ⟨h.1, h.2.symm⟩)
                go_quiet ((go_at_call 47; refine (HSG () _).mono ?_; rintro e w1 ⟨rfl, rfl⟩; exact ⟨rfl, _, rfl⟩))
                go_wp2
                exact ⟨⟨q + 1, m + nq, by omega, by go_num, rfl⟩, by simp [intOf]; omega⟩
              · have eq : q = t.n := by omega
                subst eq
                go_wp2
                go_roundw
                case rel => exact ⟨k + 1, m, by omega, by go_num, rfl⟩
                case measure => simp [intOf]; omega
        · have e4 : k = 4 := by omega
          subst e4
          go_wp2
          go_roundw
          case rel => exact ⟨i + 1, m, by omega, by go_num, rfl⟩
          case measure => simp [intOf]; omega
    · have ei : i = na := by omega
      subst ei
      clear HSA
      go_wp2_with fail
      clear y2
      go_loopw [6] (fun v wr => ∃ i m : Nat, i ≤ nb ∧ v = .int .i64 (i : Int) ∧ wr = w.drewN m) (fun v _ => nb - (intOf v).toNat)
      case atStart => exact ⟨0, m, by omega, rfl, rfl⟩
      case round =>
        obtain ⟨i, m, hi, rfl, rfl⟩ := hrel
        by_cases hin : i < nb
        · as_aux_lemma =>
          obtain ⟨v, hv⟩ : ∃ v, VB[i]? = some v := ⟨_, List.getElem?_eq_getElem (by have := (HA ()).2.1; omega)⟩
          obtain ⟨ab, rfl, hca⟩ := (HA ()).2.2.2 i v hv
          obtain ⟨n0, S, rfl, hblk, h4, hout, hts⟩ := HSB () i v hv
          have HB : Unit → Blk w n0 (S.map Lst.val).toArray 26 ∧ S.length = 4 := fun _ => ⟨hblk, h4⟩
          have HT : Unit → ∀ t ∈ S, t.markedE w i ∧ (t.n : Int) ≤ 140737488351310 ∧ ∀ b, t.b = some b → out b ∧ b < w.heap.size := fun _ => hts
          have hinI : (i : Int) < (nb : Int) := by omega
          have hni : (i : Int) < 4611686018427387904 := by have := HN (); omega
          have hncb : (nb : Int) ≤ (cb : Int) := by have := (HA ()).2.2.1; omega
          have hwz : IntKind.i64.wrap (-7070 - (i : Int)) = -7070 - (i : Int) := by rw [IntKind.wrap_i64]; omega
          have hwi : IntKind.i64.wrap ((i : Int) + 1) = (i : Int) + 1 := by rw [IntKind.wrap_i64]; omega
          clear hv hblk h4 hout hts
          go_wp2_with fail
          go_loopw [7] (fun v wr => ∃ k m : Nat, k ≤ 4 ∧ v = .int .i64 (k : Int) ∧ wr = w.drewN m) (fun v _ => 4 - (intOf v).toNat)
          case atStart => exact ⟨0, m, by omega, rfl, rfl⟩
          case round =>
            obtain ⟨k, m, hk, rfl, rfl⟩ := hrel
            by_cases hk4 : k < 4
            · obtain ⟨t, ht⟩ : ∃ t, S[k]? = some t := ⟨_, List.getElem?_eq_getElem (by rw [(HB ()).2]; exact hk4)⟩
              have htm : t ∈ S := List.mem_of_getElem? ht
              have hct : w.cell? ⟨n0, k, none⟩ = some t.val := by
                have := (HB ()).1.cell k
                rw [this, List.getElem?_toArray, List.getElem?_map, ht]; rfl
              have hkI : (k : Int) < 4 := by omega
              obtain ⟨hmk, hbd, hbb⟩ := HT () t htm
              cases hb : t.b with
              | none =>
                have hv : t.val = .slice none 0 0 := by unfold Lst.val; rw [hb]
                rw [hv] at hct
                clear hmk hbd hbb hb hv ht htm
                go_wp2_with fail
                go_loopw [8] (fun p wi => p = .int .i64 0 ∧ wi = w.drewN m) (fun _ _ => 0)
                case atStart => exact ⟨rfl, rfl⟩
                case round =>
                  obtain ⟨rfl, rfl⟩ := hrel
                  go_wp2
                  go_roundw
                  case rel => exact ⟨k + 1, m, by omega, by go_num, rfl⟩
                  case measure => simp [intOf]; omega
              | some g' =>
                have hv : t.val = .slice (some ⟨g', 0, none⟩) t.n t.c := by unfold Lst.val; rw [hb]
                rw [hv] at hct
                have HMK : Unit → EMarked w g' i t.n := fun _ => by unfold Lst.markedE at hmk; rw [hb] at hmk; exact hmk
                clear hmk hbb hb hv ht htm
                go_wp2_with fail
                go_loopw [8] (fun p wi => ∃ q m : Nat, q ≤ t.n ∧ p = .int .i64 (q : Int) ∧ wi = w.drewN m) (fun p _ => t.n - (intOf p).toNat)
                case atStart => exact ⟨0, m, by omega, rfl, rfl⟩
                case round =>
                  obtain ⟨q, m, hq, rfl, rfl⟩ := hrel
                  by_cases hqt : q < t.n
                  · have q0 := HMK () (q * 3) (by omega)
                    have q1 := HMK () (q * 3 + 1) (by omega)
                    have q2 := HMK () (q * 3 + 2) (by omega)
                    rw [emk0] at q0
                    rw [emk1] at q1
                    rw [emk2] at q2
                    have hqI : (q : Int) < (t.n : Int) := by omega
                    have hq2 : (q : Int) < 4611686018427387904 := by omega
                    have hwq : IntKind.i64.wrap ((q : Int) + 1) = (q : Int) + 1 := by rw [IntKind.wrap_i64]; omega
                    go_wp2
                    exact ⟨⟨q + 1, m, by omega, by go_num, rfl⟩, by simp [intOf]; omega⟩
                  · have eq : q = t.n := by omega
                    subst eq
                    go_wp2
                    go_roundw
                    case rel => exact ⟨k + 1, m, by omega, by go_num, rfl⟩
                    case measure => simp [intOf]; omega
            · have e4 : k = 4 := by omega
              subst e4
              go_wp2
              go_roundw
              case rel => exact ⟨i + 1, m, by omega, by go_num, rfl⟩
              case measure => simp [intOf]; omega
        · have ei : i = nb := by omega
          subst ei
          clear HSB
          go_wp2_with fail
          clear y3
          go_loopw [9] (fun v wr => ∃ i m : Nat, i ≤ nc ∧ v = .int .i64 (i : Int) ∧ wr = w.drewN m) (fun v _ => nc - (intOf v).toNat)
          case atStart => exact ⟨0, m, by omega, rfl, rfl⟩
          case round =>
            obtain ⟨i, m, hi, rfl, rfl⟩ := hrel
            by_cases hin : i < nc
            · as_aux_lemma =>
              obtain ⟨v, hv⟩ : ∃ v, VC[i]? = some v := ⟨_, List.getElem?_eq_getElem (by have := (HC ()).1.1; omega)⟩
              obtain ⟨ab, rfl, hca⟩ := (HC ()).1.2.2 i v hv
              obtain ⟨n0, S, rfl, hblk, h4, hout, hts⟩ := HSC () i v hv
              have HB : Unit → Blk w n0 (S.map Ls.val).toArray 112 ∧ S.length = 4 := fun _ => ⟨hblk, h4⟩
              have HT : Unit → _ := fun _ => hts
              have hinI : (i : Int) < (nc : Int) := by omega
              have hni : (i : Int) < 4611686018427387904 := by have := HC (); omega
              have hncc : (nc : Int) ≤ (cc : Int) := by have := (HC ()).1.2.1; omega
              have hwz : IntKind.i64.wrap (-7070 - (i : Int)) = -7070 - (i : Int) := by rw [IntKind.wrap_i64]; omega
              have hwi : IntKind.i64.wrap ((i : Int) + 1) = (i : Int) + 1 := by rw [IntKind.wrap_i64]; omega
              clear hv hblk h4 hout hts HREST
              go_wp2_with fail
              go_loopw [10] (fun v wr => ∃ k m : Nat, k ≤ 4 ∧ v = .int .i64 (k : Int) ∧ wr = w.drewN m) (fun v _ => 4 - (intOf v).toNat)
              case atStart => exact ⟨0, m, by omega, rfl, rfl⟩
              case round =>
                obtain ⟨k, m, hk, rfl, rfl⟩ := hrel
                by_cases hk4 : k < 4
                · obtain ⟨t, ht⟩ : ∃ t, S[k]? = some t := ⟨_, List.getElem?_eq_getElem (by rw [(HB ()).2]; exact hk4)⟩
                  have htm : t ∈ S := List.mem_of_getElem? ht
                  have hct : w.cell? ⟨n0, k, none⟩ = some t.val := by
                    have := (HB ()).1.cell k
                    rw [this, List.getElem?_toArray, List.getElem?_map, ht]; rfl
                  have hkI : (k : Int) < 4 := by omega
                  obtain ⟨hat, hmk, hbd, hbb⟩ := HT () t htm
                  obtain ⟨ta, tn, tc⟩ := t
                  simp only [Ls.val] at hct hat hmk hbd
                  have HAT : Unit → (tn = 0 ∨ ∃ g o, ta = some ⟨g, o, none⟩) ∧ LMk w ta tn 4 (mmk i) := fun _ => ⟨hat, hmk⟩
                  clear hat hmk hbb ht htm
                  go_wp2_with fail
                  go_loopw [11] (fun p wi => ∃ q m : Nat, q ≤ tn ∧ p = .int .i64 (q : Int) ∧ wi = w.drewN m) (fun p _ => tn - (intOf p).toNat)
                  case atStart => exact ⟨0, m, by omega, rfl, rfl⟩
                  case round =>
                    obtain ⟨q, m, hq, rfl, rfl⟩ := hrel
                    by_cases hqt : q < tn
                    · obtain ⟨g, o, rfl⟩ : ∃ g o, ta = some ⟨g, o, none⟩ := by
                        rcases (HAT ()).1 with h | h
                        · omega
                        · exact h
                      have q0 := (HAT ()).2 g o rfl (q * 4) (by omega)
                      have q1 := (HAT ()).2 g o rfl (q * 4 + 1) (by omega)
                      have q2 := (HAT ()).2 g o rfl (q * 4 + 2) (by omega)
                      have q3 := (HAT ()).2 g o rfl (q * 4 + 3) (by omega)
                      rw [mmk0] at q0
                      rw [mmk1, ← Nat.add_assoc] at q1
                      rw [mmk2, ← Nat.add_assoc] at q2
                      rw [mmk3, ← Nat.add_assoc] at q3
                      have hqI : (q : Int) < (tn : Int) := by omega
                      have hq2 : (q : Int) < 4611686018427387904 := by omega
                      have hwq : IntKind.i64.wrap ((q : Int) + 1) = (q : Int) + 1 := by rw [IntKind.wrap_i64]; omega
                      go_wp2
                      exact ⟨⟨q + 1, m, by omega, by go_num, rfl⟩, by simp [intOf]; omega⟩
                    · have eq : q = tn := by omega
                      subst eq
                      go_wp2
                      go_roundw
                      case rel => exact ⟨k + 1, m, by omega, by go_num, rfl⟩
                      case measure => simp [intOf]; omega
                · have e4 : k = 4 := by omega
                  subst e4
                  go_wp2
                  go_roundw
                  case rel => exact ⟨i + 1, m, by omega, by go_num, rfl⟩
                  case measure => simp [intOf]; omega
            · have ei : i = nc := by omega
              subst ei
              clear HSC
              go_wp2_with fail
              refine (HREST () m).mono ?_
              rintro e w' ⟨rfl, hkk⟩
              go_wp2
              go_ret
              exact ⟨rfl, hkk⟩
/-- The book is whole. -/
theorem BkT.whole {C : Cx} {w : World} {tag : Nat → Nat} {yb : Nat} {p0 p1 : Value} {R : Nat → Rw} (h : BkT C w tag yb p0 p1 R) (hn : ∀ κ, κ < 6 → ((R κ).n : Int) < 1099511627776) :
    Calls Tryz.prog 28 #[.pointer (some ⟨yb, 2, none⟩)] w fun e w' => e = .returned (.bool true) ∧ Keep nil w w' := by
  have hrest : ∀ m, Calls Tryz.prog 48 #[.pointer (some ⟨yb, 2, none⟩)] (w.drewN m) fun e w' => e = .returned (.bool true) ∧ Keep nil w w' := fun m => by
    have hm := h.same ((Keep.refl nil w).drewN m)
    refine (rest_any yb (R 3).a (R 3).n (R 3).c (R 3).V (R 4).a (R 4).n (R 4).c (R 4).V (R 5).a (R 5).n (R 5).c (R 5).V p0 p1 (R 0).val (R 1).val (R 2).val _ _ hm.play (hm.row 3 (by omega)).has (hm.row 4 (by omega)).has (hm.row 5 (by omega)).has (hm.item 3 (by omega)) (hm.item 4 (by omega)) (hm.item 5 (by omega)) (hn 3 (by omega)) (hn 4 (by omega)) (hn 5 (by omega))).mono ?_
    rintro e w' ⟨rfl, hk⟩
    exact ⟨rfl, ((Keep.refl nil w).drewN m).trans hk⟩
  exact whole2_any yb (R 0).a (R 0).n (R 0).c (R 0).V (R 1).a (R 1).n (R 1).c (R 1).V (R 2).a (R 2).n (R 2).c (R 2).V p0 p1 (R 3).val (R 4).val (R 5).val _ w h.play hrest (h.row 0 (by omega)).has (h.row 1 (by omega)).has (h.row 2 (by omega)).has (h.item 2 (by omega)) (hn 2 (by omega)) (h.item 0 (by omega)) (h.item 1 (by omega)) (hn 0 (by omega)) (hn 1 (by omega))
end Go.Proofs.YtlfijfodklhplaaGreat
