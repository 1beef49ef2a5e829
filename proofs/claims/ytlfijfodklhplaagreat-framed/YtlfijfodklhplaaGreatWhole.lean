/- Walks of whole and rest: every list reads as its owner wrote it. -/
import Derived.Test.YtlfijfodklhplaaGreatReturnedE
import Derived.Test.YtlfijfodklhplaaGreatReturned
namespace Go.Proofs.YtlfijfodklhplaaGreat
open Go.RowKit
set_option linter.unusedVariables false
set_option linter.unusedSimpArgs false

/-- The i-th sheet: four lists of bytes, each marked. -/
def SheetAt (w : World) (i : Nat) (v : Value) (out : Nat → Prop) : Prop := ∃ (n0 : Nat) (S : List Lst), v = .slice (some ⟨n0, 0, none⟩) 4 4 ∧ Blk w n0 (S.map Lst.val).toArray 56 ∧ S.length = 4 ∧ out n0 ∧
  ∀ t ∈ S, t.marked w i ∧ (t.n : Int) ≤ 140737488351310 ∧ ∀ b, t.b = some b → out b ∧ b < w.heap.size
/-- The i-th roll: four lists of edges, each marked. -/
def RollAt (w : World) (i : Nat) (v : Value) (out : Nat → Prop) : Prop := ∃ (n0 : Nat) (S : List Lst), v = .slice (some ⟨n0, 0, none⟩) 4 4 ∧ Blk w n0 (S.map Lst.val).toArray 26 ∧ S.length = 4 ∧ out n0 ∧
  ∀ t ∈ S, t.markedE w i ∧ (t.n : Int) ≤ 140737488351310 ∧ ∀ b, t.b = some b → out b ∧ b < w.heap.size
/-- A row of such: what its places hold. -/
def RowHas (w : World) (a0 : Option Addr) (na ca : Nat) (VA : List Value) : Prop := VA.length = na ∧ na ≤ ca ∧ ∀ i v, VA[i]? = some v → ∃ ab, a0 = some ⟨ab, 0, none⟩ ∧ w.cell? ⟨ab, i, none⟩ = some v
theorem RowIs.has {w : World} {a0 : Option Addr} {na ca : Nat} {e : TypeId} {VA : List Value} {out : Nat → Prop} (h : RowIs w a0 na ca e VA out) : RowHas w a0 na ca VA := by
  rcases h with ⟨rfl, rfl, rfl, rfl⟩ | ⟨ab, rfl, hv, hl, _⟩
  · exact ⟨rfl, Nat.le_refl _, fun i v h => by simp at h⟩
  · refine ⟨hl, ?_, fun i v h => ⟨ab, rfl, hv.cell i v h⟩⟩
    obtain ⟨sp, _, hc⟩ := hv
    omega

set_option maxRecDepth 100000 in
set_option maxHeartbeats 4000000 in
theorem rest_nil (yb : Nat) (p0 p1 p2 p3 p4 : Value) (w : World) (hyb : Blk w yb #[p0, p1, p2, p3, p4, .slice none 0 0, .slice none 0 0, .slice none 0 0] 73) :
    Calls Tryz.prog 48 #[.pointer (some ⟨yb, 2, none⟩)] w fun e w' => e = .returned (.bool true) ∧ w = w' := by
  have y5 := hyb.cell 5
  have y6 := hyb.cell 6
  have y7 := hyb.cell 7
  simp at y5 y6 y7
  clear hyb
  go_enter Tryz.func48, Tryz.ntmps48
  go_wp2_with fail
  go_loopw [3] (fun p wi => p = .int .i64 0 ∧ wi = w) (fun _ _ => 0)
  case atStart => exact ⟨rfl, rfl⟩
  case round =>
    obtain ⟨rfl, rfl⟩ := hrel
    go_wp2_with fail
    go_loopw [7] (fun p wi => p = .int .i64 0 ∧ wi = wr) (fun _ _ => 0)
    case atStart => exact ⟨rfl, rfl⟩
    case round =>
      obtain ⟨rfl, rfl⟩ := hrel
      go_wp2_with fail
      go_loopw [10] (fun p wi => p = .int .i64 0 ∧ wi = wr) (fun _ _ => 0)
      case atStart => exact ⟨rfl, rfl⟩
      case round =>
        obtain ⟨rfl, rfl⟩ := hrel
        go_wp2
        go_ret
        exact ⟨rfl, rfl⟩

set_option maxRecDepth 100000 in
set_option maxHeartbeats 8000000 in
theorem whole_any (yb : Nat) (a0 : Option Addr) (na ca : Nat) (VA : List Value) (b0 : Option Addr) (nb cb : Nat) (VB : List Value) (p0 p1 : Value) (out : Nat → Prop) (w : World)
    (hyb : Blk w yb #[p0, p1, .slice a0 na ca, .slice b0 nb cb, .slice none 0 0, .slice none 0 0, .slice none 0 0, .slice none 0 0] 73)
    (ha : RowHas w a0 na ca VA) (hb : RowHas w b0 nb cb VB) (hsa : ∀ i v, VA[i]? = some v → SheetAt w i v out) (hsb : ∀ i v, VB[i]? = some v → RollAt w i v out)
    (hna : (na : Int) < 1099511627776) (hnb : (nb : Int) < 1099511627776) :
    Calls Tryz.prog 28 #[.pointer (some ⟨yb, 2, none⟩)] w fun e w' => e = .returned (.bool true) ∧ ∃ m, w' = w.drewN m := by
  have y2 := hyb.cell 2
  have y3 := hyb.cell 3
  have y4 := hyb.cell 4
  simp at y2 y3 y4
  have HA : Unit → RowHas w a0 na ca VA ∧ RowHas w b0 nb cb VB := fun _ => ⟨ha, hb⟩
  have HSA : Unit → ∀ i v, VA[i]? = some v → SheetAt w i v out := fun _ => hsa
  have HSB : Unit → ∀ i v, VB[i]? = some v → RollAt w i v out := fun _ => hsb
  have HN : Unit → (na : Int) < 1099511627776 ∧ (nb : Int) < 1099511627776 := fun _ => ⟨hna, hnb⟩
  have HREST : Unit → ∀ m, Calls Tryz.prog 48 #[.pointer (some ⟨yb, 2, none⟩)] (w.drewN m) fun e w' => e = .returned (.bool true) ∧ w.drewN m = w' := fun _ m =>
    rest_nil yb p0 p1 (.slice a0 na ca) (.slice b0 nb cb) (.slice none 0 0) (w.drewN m) (hyb.keep ((Keep.refl nil w).drewN m) (fun e => e))
  clear hyb ha hb hsa hsb hna hnb
  go_enter Tryz.func28, Tryz.ntmps28
  go_wp2_with fail
  go_loopw [3] (fun v wr => ∃ i m : Nat, i ≤ na ∧ v = .int .i64 (i : Int) ∧ wr = w.drewN m) (fun v _ => na - (intOf v).toNat)
  case atStart => exact ⟨0, 0, by omega, rfl, rfl⟩
  case round =>
    obtain ⟨i, m, hi, rfl, rfl⟩ := hrel
    by_cases hin : i < na
    · obtain ⟨v, hv⟩ : ∃ v, VA[i]? = some v := ⟨_, List.getElem?_eq_getElem (by have := (HA ()).1.1; omega)⟩
      obtain ⟨ab, rfl, hca⟩ := (HA ()).1.2.2 i v hv
      obtain ⟨n0, S, rfl, hblk, h4, hout, hts⟩ := HSA () i v hv
      have HB : Unit → Blk w n0 (S.map Lst.val).toArray 56 ∧ S.length = 4 := fun _ => ⟨hblk, h4⟩
      have HT : Unit → ∀ t ∈ S, t.marked w i ∧ (t.n : Int) ≤ 140737488351310 ∧ ∀ b, t.b = some b → out b ∧ b < w.heap.size := fun _ => hts
      have hinI : (i : Int) < (na : Int) := by omega
      have hni : (i : Int) < 4611686018427387904 := by have := HN (); omega
      have hnca : (na : Int) ≤ (ca : Int) := by have := (HA ()).1.2.1; omega
      have hwi : IntKind.i64.wrap ((i : Int) + 1) = (i : Int) + 1 := by rw [IntKind.wrap_i64]; omega
      clear hv hblk h4 hout hts
      go_wp2_with fail
      go_loopw [4] (fun v wr => ∃ k m : Nat, k ≤ 4 ∧ v = .int .i64 (k : Int) ∧ wr = w.drewN m) (fun v _ => 4 - (intOf v).toNat)
      case atStart => exact ⟨0, m, by omega, rfl, rfl⟩
      case round =>
        obtain ⟨k, m, hk, rfl, rfl⟩ := hrel
        by_cases hk4 : k < 4
        · obtain ⟨t, ht⟩ : ∃ t, S[k]? = some t := ⟨_, List.getElem?_eq_getElem (by rw [(HB ()).2]; exact hk4)⟩
          have htm : t ∈ S := List.mem_of_getElem? ht
          have hct : w.cell? ⟨n0, k, none⟩ = some t.val := by
            have := (HB ()).1.cell k
            rw [this, List.getElem?_toArray, List.getElem?_map, ht]; rfl
          have hkI : (k : Int) < 4 := by omega
          obtain ⟨hmk, hbd, hbb⟩ := HT () t htm
          cases hb : t.b with
          | none =>
            have hv : t.val = .slice none 0 0 := by unfold Lst.val; rw [hb]
            rw [hv] at hct
            clear hmk hbd hbb hb hv ht htm
            go_wp2_with fail
            go_loopw [5] (fun p wi => p = .int .i64 0 ∧ wi = w.drewN m) (fun _ _ => 0)
            case atStart => exact ⟨rfl, rfl⟩
            case round =>
              obtain ⟨rfl, rfl⟩ := hrel
              go_wp2
              go_roundw
              case rel => exact ⟨k + 1, m, by omega, by go_num, rfl⟩
              case measure => simp [intOf]; omega
          | some g' =>
            have hv : t.val = .slice (some ⟨g', 0, none⟩) t.n t.c := by unfold Lst.val; rw [hb]
            rw [hv] at hct
            have HMK : Unit → Marked w g' i t.n := fun _ => by unfold Lst.marked at hmk; rw [hb] at hmk; exact hmk
            clear hmk hbb hb hv ht htm
            go_wp2_with fail
            go_loopw [5] (fun p wi => ∃ q m : Nat, q ≤ t.n ∧ p = .int .i64 (q : Int) ∧ wi = w.drewN m) (fun p _ => t.n - (intOf p).toNat)
            case atStart => exact ⟨0, m, by omega, rfl, rfl⟩
            case round =>
              obtain ⟨q, m, hq, rfl, rfl⟩ := hrel
              by_cases hqt : q < t.n
              · have hcq := HMK () q hqt
                unfold bv at hcq
                have hqI : (q : Int) < (t.n : Int) := by omega
                have hq2 : (q : Int) < 4611686018427387904 := by omega
                go_wp2_with fail
                have HSG : Unit → ∀ w1, Calls Tryz.prog 47 #[.int .i64 (i : Int), .int .i64 (q : Int)] w1 fun e w' => e = .returned (.int .u8 ((sgn i q : Nat) : Int)) ∧ w' = w1 := fun _ w1 => (sign_any i q hni hq2 w1).mono (fun _ _ h => ⟨h.1, h.2.symm⟩)
                go_quiet ((go_at_call 47; refine (HSG () _).mono ?_; rintro e w1 ⟨rfl, rfl⟩; exact ⟨rfl, _, rfl⟩))
                go_wp2
                exact ⟨⟨q + 1, m + nq, by omega, by go_num, rfl⟩, by simp [intOf]; omega⟩
              · have eq : q = t.n := by omega
                subst eq
                go_wp2
                go_roundw
                case rel => exact ⟨k + 1, m, by omega, by go_num, rfl⟩
                case measure => simp [intOf]; omega
        · have e4 : k = 4 := by omega
          subst e4
          go_wp2
          go_roundw
          case rel => exact ⟨i + 1, m, by omega, by go_num, rfl⟩
          case measure => simp [intOf]; omega
    · have ei : i = na := by omega
      subst ei
      clear HSA
      go_wp2_with fail
      clear y2
      go_loopw [6] (fun v wr => ∃ i m : Nat, i ≤ nb ∧ v = .int .i64 (i : Int) ∧ wr = w.drewN m) (fun v _ => nb - (intOf v).toNat)
      case atStart => exact ⟨0, m, by omega, rfl, rfl⟩
      case round =>
        obtain ⟨i, m, hi, rfl, rfl⟩ := hrel
        by_cases hin : i < nb
        · obtain ⟨v, hv⟩ : ∃ v, VB[i]? = some v := ⟨_, List.getElem?_eq_getElem (by have := (HA ()).2.1; omega)⟩
          obtain ⟨ab, rfl, hca⟩ := (HA ()).2.2.2 i v hv
          obtain ⟨n0, S, rfl, hblk, h4, hout, hts⟩ := HSB () i v hv
          have HB : Unit → Blk w n0 (S.map Lst.val).toArray 26 ∧ S.length = 4 := fun _ => ⟨hblk, h4⟩
          have HT : Unit → ∀ t ∈ S, t.markedE w i ∧ (t.n : Int) ≤ 140737488351310 ∧ ∀ b, t.b = some b → out b ∧ b < w.heap.size := fun _ => hts
          have hinI : (i : Int) < (nb : Int) := by omega
          have hni : (i : Int) < 4611686018427387904 := by have := HN (); omega
          have hncb : (nb : Int) ≤ (cb : Int) := by have := (HA ()).2.2.1; omega
          have hwz : IntKind.i64.wrap (-7070 - (i : Int)) = -7070 - (i : Int) := by rw [IntKind.wrap_i64]; omega
          have hwi : IntKind.i64.wrap ((i : Int) + 1) = (i : Int) + 1 := by rw [IntKind.wrap_i64]; omega
          clear hv hblk h4 hout hts
          go_wp2_with fail
          go_loopw [7] (fun v wr => ∃ k m : Nat, k ≤ 4 ∧ v = .int .i64 (k : Int) ∧ wr = w.drewN m) (fun v _ => 4 - (intOf v).toNat)
          case atStart => exact ⟨0, m, by omega, rfl, rfl⟩
          case round =>
            obtain ⟨k, m, hk, rfl, rfl⟩ := hrel
            by_cases hk4 : k < 4
            · obtain ⟨t, ht⟩ : ∃ t, S[k]? = some t := ⟨_, List.getElem?_eq_getElem (by rw [(HB ()).2]; exact hk4)⟩
              have htm : t ∈ S := List.mem_of_getElem? ht
              have hct : w.cell? ⟨n0, k, none⟩ = some t.val := by
                have := (HB ()).1.cell k
                rw [this, List.getElem?_toArray, List.getElem?_map, ht]; rfl
              have hkI : (k : Int) < 4 := by omega
              obtain ⟨hmk, hbd, hbb⟩ := HT () t htm
              cases hb : t.b with
              | none =>
                have hv : t.val = .slice none 0 0 := by unfold Lst.val; rw [hb]
                rw [hv] at hct
                clear hmk hbd hbb hb hv ht htm
                go_wp2_with fail
                go_loopw [8] (fun p wi => p = .int .i64 0 ∧ wi = w.drewN m) (fun _ _ => 0)
                case atStart => exact ⟨rfl, rfl⟩
                case round =>
                  obtain ⟨rfl, rfl⟩ := hrel
                  go_wp2
                  go_roundw
                  case rel => exact ⟨k + 1, m, by omega, by go_num, rfl⟩
                  case measure => simp [intOf]; omega
              | some g' =>
                have hv : t.val = .slice (some ⟨g', 0, none⟩) t.n t.c := by unfold Lst.val; rw [hb]
                rw [hv] at hct
                have HMK : Unit → EMarked w g' i t.n := fun _ => by unfold Lst.markedE at hmk; rw [hb] at hmk; exact hmk
                clear hmk hbb hb hv ht htm
                go_wp2_with fail
                go_loopw [8] (fun p wi => ∃ q m : Nat, q ≤ t.n ∧ p = .int .i64 (q : Int) ∧ wi = w.drewN m) (fun p _ => t.n - (intOf p).toNat)
                case atStart => exact ⟨0, m, by omega, rfl, rfl⟩
                case round =>
                  obtain ⟨q, m, hq, rfl, rfl⟩ := hrel
                  by_cases hqt : q < t.n
                  · have q0 := HMK () (q * 3) (by omega)
                    have q1 := HMK () (q * 3 + 1) (by omega)
                    have q2 := HMK () (q * 3 + 2) (by omega)
                    rw [emk0] at q0
                    rw [emk1] at q1
                    rw [emk2] at q2
                    have hqI : (q : Int) < (t.n : Int) := by omega
                    have hq2 : (q : Int) < 4611686018427387904 := by omega
                    have hwq : IntKind.i64.wrap ((q : Int) + 1) = (q : Int) + 1 := by rw [IntKind.wrap_i64]; omega
                    go_wp2
                    exact ⟨⟨q + 1, m, by omega, by go_num, rfl⟩, by simp [intOf]; omega⟩
                  · have eq : q = t.n := by omega
                    subst eq
                    go_wp2
                    go_roundw
                    case rel => exact ⟨k + 1, m, by omega, by go_num, rfl⟩
                    case measure => simp [intOf]; omega
            · have e4 : k = 4 := by omega
              subst e4
              go_wp2
              go_roundw
              case rel => exact ⟨i + 1, m, by omega, by go_num, rfl⟩
              case measure => simp [intOf]; omega
        · have ei : i = nb := by omega
          subst ei
          clear HSB
          go_wp2_with fail
          go_loopw [9] (fun p wi => p = .int .i64 0 ∧ wi = w.drewN m) (fun _ _ => 0)
          case atStart => exact ⟨rfl, rfl⟩
          case round =>
            obtain ⟨rfl, rfl⟩ := hrel
            go_wp2_with fail
            refine (HREST () m).mono ?_
            rintro e w' ⟨rfl, rfl⟩
            go_wp2
            go_ret
            exact ⟨rfl, m, rfl⟩
end Go.Proofs.YtlfijfodklhplaaGreat
