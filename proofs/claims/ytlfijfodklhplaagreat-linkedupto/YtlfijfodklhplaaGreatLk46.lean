import Derived.Test.YtlfijfodklhplaaGreatLk44
/- Walk of rest: packets, numbers and lists read as their owner wrote them. -/
namespace Go.Proofs.YtlfijfodklhplaaGreat
open Go.RowKit
set_option linter.unusedVariables false
set_option linter.unusedSimpArgs false

theorem rowHas_keep {w w' : World} {a0 : Option Addr} {na ca : Nat} {VA : List Value} (h : RowHas w a0 na ca VA) (k : Keep nil w w') : RowHas w' a0 na ca VA :=
  ⟨h.1, h.2.1, fun i v hv => let ⟨ab, h1, h2⟩ := h.2.2 i v hv; ⟨ab, h1, (k.cell ab i (World.block_lt_of_cell? w _ h2) (fun e => e)).trans h2⟩⟩
/-- A new block of three cells, written anew. -/
theorem Keep.setCells3 {w wr : World} (k : Keep nil w wr) (o : Obj) (i0 i1 i2 : Nat) (v0 v1 v2 : Value) : Keep nil w ((((wr.alloc o).setCell ⟨wr.heap.size, i0, none⟩ v0).setCell ⟨wr.heap.size, i1, none⟩ v1).setCell ⟨wr.heap.size, i2, none⟩ v2) := by
  have hs := k.size
  exact (((k.alloc o).setCell (p := ⟨wr.heap.size, i0, none⟩) (fun h => by simp only at h; omega) _).setCell (p := ⟨wr.heap.size, i1, none⟩) (fun h => by simp only at h; omega) _).setCell (p := ⟨wr.heap.size, i2, none⟩) (fun h => by simp only at h; omega) _

set_option maxRecDepth 100000 in
set_option maxHeartbeats 8000000 in
theorem rest_any (yb : Nat) (d0 : Option Addr) (nd cd : Nat) (VD : List Value) (e0 : Option Addr) (ne ce : Nat) (VE : List Value) (f0 : Option Addr) (nf cf : Nat) (VF : List Value) (p0 p1 p2 p3 p4 : Value) (out : Nat → Prop) (w : World)
    (hyb : Blk w yb #[p0, p1, p2, p3, p4, .slice d0 nd cd, .slice e0 ne ce, .slice f0 nf cf] 73)
    (hd : RowHas w d0 nd cd VD) (he : RowHas w e0 ne ce VE) (hf : RowHas w f0 nf cf VF) (hsd : ∀ i v, VD[i]? = some v → PostAt w i v out) (hse : ∀ i v, VE[i]? = some v → CountAt w i v out) (hsf : ∀ i v, VF[i]? = some v → PileAt w i v out)
    (hnd : (nd : Int) < 1099511627776) (hne : (ne : Int) < 1099511627776) (hnf : (nf : Int) < 1099511627776) :
    Calls Tryz.prog 48 #[.pointer (some ⟨yb, 2, none⟩)] w fun e w' => e = .returned (.bool true) ∧ Keep nil w w' := by
  have HYB : Unit → Blk w yb #[p0, p1, p2, p3, p4, .slice d0 nd cd, .slice e0 ne ce, .slice f0 nf cf] 73 := fun _ => hyb
  have y5 := hyb.cell 5
  have y6 := hyb.cell 6
  have y7 := hyb.cell 7
  simp at y5 y6 y7
  have HD : Unit → RowHas w d0 nd cd VD := fun _ => hd
  have HE : Unit → RowHas w e0 ne ce VE := fun _ => he
  have HF : Unit → RowHas w f0 nf cf VF := fun _ => hf
  have HSD : Unit → ∀ i v, VD[i]? = some v → PostAt w i v out := fun _ => hsd
  have HSE : Unit → ∀ i v, VE[i]? = some v → CountAt w i v out := fun _ => hse
  have HSF : Unit → ∀ i v, VF[i]? = some v → PileAt w i v out := fun _ => hsf
  have HN : Unit → (nd : Int) < 1099511627776 ∧ (ne : Int) < 1099511627776 ∧ (nf : Int) < 1099511627776 := fun _ => ⟨hnd, hne, hnf⟩
  clear hyb hd he hf hsd hse hsf hnd hne hnf
  go_enter Tryz.func48, Tryz.ntmps48
  go_wp2_with fail
  clear y5 y6 y7
  go_loopw [3] (fun v wr => ∃ i : Nat, i ≤ nd ∧ v = .int .i64 (i : Int) ∧ Keep nil w wr) (fun v _ => nd - (intOf v).toNat)
  case atStart => exact ⟨0, by omega, rfl, Keep.refl _ _⟩
  case round =>
    obtain ⟨i, hi, rfl, hkr⟩ := hrel
    have y5 := ((HYB ()).keep hkr (fun e => e)).cell 5
    simp at y5
    have HKR : Unit → Keep nil w wr := fun _ => hkr
    clear hkr
    by_cases hin : i < nd
    · as_aux_lemma =>
      obtain ⟨v, hv⟩ : ∃ v, VD[i]? = some v := ⟨_, List.getElem?_eq_getElem (by have := (HD ()).1; omega)⟩
      obtain ⟨ab, rfl, hca0⟩ := (HD ()).2.2 i v hv
      obtain ⟨n0, S, rfl, hblk, h4, hout, hts⟩ := HSD () i v hv
      have HCA : Unit → ∀ wx, Keep nil w wx → wx.cell? ⟨yb, 5, none⟩ = some (.slice (some ⟨ab, 0, none⟩) nd cd) ∧ wx.cell? ⟨ab, i, none⟩ = some (.slice (some ⟨n0, 0, none⟩) 4 4) := fun _ wx hx => by
        have hb := ((HYB ()).keep hx (fun e => e)).cell 5
        simp at hb
        exact ⟨hb, (hx.cell ab i (World.block_lt_of_cell? w _ hca0) (fun e => e)).trans hca0⟩
      have HB : Unit → Blk w n0 (S.map Ls.val).toArray 54 ∧ S.length = 4 := fun _ => ⟨hblk, h4⟩
      have HT : Unit → _ := fun _ => hts
      have hinI : (i : Int) < (nd : Int) := by omega
      have hni : (i : Int) < 4611686018427387904 := by have := HN (); omega
      have hncd : (nd : Int) ≤ (cd : Int) := by have := (HD ()).2.1; omega
      have hwz : IntKind.i64.wrap (-7070 - (i : Int)) = -7070 - (i : Int) := by rw [IntKind.wrap_i64]; omega
      have hwi : IntKind.i64.wrap ((i : Int) + 1) = (i : Int) + 1 := by rw [IntKind.wrap_i64]; omega
      clear hv hblk h4 hout hts hni y5
      obtain ⟨y5, hca⟩ := HCA () wr (HKR ())
      go_wp2_with fail
      clear y5 hca
      go_loopw [4] (fun v wr => ∃ k : Nat, k ≤ 4 ∧ v = .int .i64 (k : Int) ∧ Keep nil w wr) (fun v _ => 4 - (intOf v).toNat)
      case atStart => exact ⟨0, by omega, rfl, HKR ()⟩
      case round =>
        obtain ⟨k, hk, rfl, hkr⟩ := hrel
        clear HKR
        have HKR : Unit → Keep nil w wr := fun _ => hkr
        clear hkr
        obtain ⟨y5, hca⟩ := HCA () wr (HKR ())
        by_cases hk4 : k < 4
        · obtain ⟨t, ht⟩ : ∃ t, S[k]? = some t := ⟨_, List.getElem?_eq_getElem (by rw [(HB ()).2]; exact hk4)⟩
          have htm : t ∈ S := List.mem_of_getElem? ht
          have HCT : Unit → ∀ wx, Keep nil w wx → wx.cell? ⟨n0, k, none⟩ = some t.val := fun _ wx hx => by
            have := ((HB ()).1.keep hx (fun e => e)).cell k
            rw [this, List.getElem?_toArray, List.getElem?_map, ht]; rfl
          have hkI : (k : Int) < 4 := by omega
          obtain ⟨hat, hmk, hbd, hbb⟩ := HT () t htm
          have HBB : Unit → ∀ b, inB t.a b → b < w.heap.size := fun _ b hb => (hbb b hb).2
          have HBD : Unit → (t.n : Int) ≤ 140737488351310 := fun _ => hbd
          obtain ⟨ta, tn, tc⟩ := t
          simp only [Ls.val] at HCT hat hmk HBB HBD
          have HAT : Unit → (tn = 0 ∨ ∃ g o, ta = some ⟨g, o, none⟩) ∧ LMk w ta tn 3 (pmk i) := fun _ => ⟨hat, hmk⟩
          have hct := HCT () wr (HKR ())
          clear hat hmk hbb ht htm hbd
          go_wp2_with fail
          clear y5 hca hct
          go_loopw [5] (fun p wi => ∃ q : Nat, q ≤ tn ∧ p = .int .i64 (q : Int) ∧ Keep nil w wi) (fun p _ => tn - (intOf p).toNat)
          case atStart => exact ⟨0, by omega, rfl, HKR ()⟩
          case round =>
            obtain ⟨q, hq, rfl, hkr⟩ := hrel
            clear HKR
            have HKR : Unit → Keep nil w wr := fun _ => hkr
            clear hkr
            obtain ⟨y5, hca⟩ := HCA () wr (HKR ())
            have hct := HCT () wr (HKR ())
            by_cases hqt : q < tn
            · obtain ⟨g, o, rfl⟩ : ∃ g o, ta = some ⟨g, o, none⟩ := by
                rcases (HAT ()).1 with h | h
                · omega
                · exact h
              have hgl := HBB () g (inB_self g o)
              have q0 := (((HKR ()).cell g (o + q * 3) hgl (fun e => e))).trans ((HAT ()).2 g o rfl (q * 3) (by omega))
              have q1 := (((HKR ()).cell g (o + (q * 3 + 1)) hgl (fun e => e))).trans ((HAT ()).2 g o rfl (q * 3 + 1) (by omega))
              have q2 := (((HKR ()).cell g (o + (q * 3 + 2)) hgl (fun e => e))).trans ((HAT ()).2 g o rfl (q * 3 + 2) (by omega))
              rw [pmk0] at q0
              rw [pmk1, ← Nat.add_assoc] at q1
              rw [pmk2, ← Nat.add_assoc] at q2
              have hqI : (q : Int) < (tn : Int) := by omega
              have hwq : IntKind.i64.wrap ((q : Int) + 1) = (q : Int) + 1 := by have := HBD (); rw [IntKind.wrap_i64]; omega
              clear hgl
              go_wp2
              exact ⟨⟨q + 1, by omega, by go_num, (HKR ()).alloc _⟩, by simp [intOf]; omega⟩
            · have eq : q = tn := by omega
              subst eq
              go_wp2
              go_roundw
              case rel => exact ⟨k + 1, by omega, by go_num, HKR ()⟩
              case measure => simp [intOf]; omega
        · have e4 : k = 4 := by omega
          subst e4
          go_wp2
          go_roundw
          case rel => exact ⟨i + 1, by omega, by go_num, HKR ()⟩
          case measure => simp [intOf]; omega
    · have ei : i = nd := by omega
      subst ei
      clear HSD HD
      obtain ⟨W, hWr⟩ : ∃ W, W = wr := ⟨_, rfl⟩
      rw [← hWr] at HKR y5 ⊢
      clear hWr
      have y6 := ((HYB ()).keep (HKR ()) (fun e => e)).cell 6
      have y7 := ((HYB ()).keep (HKR ()) (fun e => e)).cell 7
      simp at y6 y7
      have HE2 : Unit → RowHas W e0 ne ce VE := fun _ => rowHas_keep (HE ()) (HKR ())
      have HF2 : Unit → RowHas W f0 nf cf VF := fun _ => rowHas_keep (HF ()) (HKR ())
      have HSE2 : Unit → ∀ i v, VE[i]? = some v → CountAt W i v out := fun _ i v h => ListAt.keep (HSE () i v h) (HKR ()) (fun _ _ ho => ⟨fun e => e, ho⟩)
      have HSF2 : Unit → ∀ i v, VF[i]? = some v → PileAt W i v out := fun _ i v h => PileAt.keep (HSF () i v h) (HKR ()) (fun _ _ ho => ⟨fun e => e, ho⟩)
      clear HE HF HSE HSF HYB
      have HE := HE2
      have HF := HF2
      have HSE := HSE2
      have HSF := HSF2
      clear HE2 HF2 HSE2 HSF2
      go_wp2_with fail
      clear y5
      go_loopw [7] (fun v wx => ∃ i m : Nat, i ≤ ne ∧ v = .int .i64 (i : Int) ∧ wx = W.drewN m) (fun v _ => ne - (intOf v).toNat)
      case atStart => exact ⟨0, 0, by omega, rfl, rfl⟩
      case round =>
        obtain ⟨i, m, hi, rfl, rfl⟩ := hrel
        by_cases hin : i < ne
        · as_aux_lemma =>
          obtain ⟨v, hv⟩ : ∃ v, VE[i]? = some v := ⟨_, List.getElem?_eq_getElem (by have := (HE ()).1; omega)⟩
          obtain ⟨ab, rfl, hca⟩ := (HE ()).2.2 i v hv
          obtain ⟨n0, S, rfl, hblk, h4, hout, hts⟩ := HSE () i v hv
          have HB : Unit → Blk W n0 (S.map Ls.val).toArray 25 ∧ S.length = 4 := fun _ => ⟨hblk, h4⟩
          have HT : Unit → _ := fun _ => hts
          have hinI : (i : Int) < (ne : Int) := by omega
          have hni : (i : Int) < 4611686018427387904 := by have := HN (); omega
          have hnce : (ne : Int) ≤ (ce : Int) := by have := (HE ()).2.1; omega
          have hwz : IntKind.i64.wrap (-7070 - (i : Int)) = -7070 - (i : Int) := by rw [IntKind.wrap_i64]; omega
          have hwi : IntKind.i64.wrap ((i : Int) + 1) = (i : Int) + 1 := by rw [IntKind.wrap_i64]; omega
          clear hv hblk h4 hout hts
          go_wp2_with fail
          go_loopw [8] (fun v wx => ∃ k m : Nat, k ≤ 4 ∧ v = .int .i64 (k : Int) ∧ wx = W.drewN m) (fun v _ => 4 - (intOf v).toNat)
          case atStart => exact ⟨0, m, by omega, rfl, rfl⟩
          case round =>
            obtain ⟨k, m, hk, rfl, rfl⟩ := hrel
            by_cases hk4 : k < 4
            · obtain ⟨t, ht⟩ : ∃ t, S[k]? = some t := ⟨_, List.getElem?_eq_getElem (by rw [(HB ()).2]; exact hk4)⟩
              have htm : t ∈ S := List.mem_of_getElem? ht
              have hct : W.cell? ⟨n0, k, none⟩ = some t.val := by
                have := (HB ()).1.cell k
                rw [this, List.getElem?_toArray, List.getElem?_map, ht]; rfl
              have hkI : (k : Int) < 4 := by omega
              obtain ⟨hat, hmk, hbd, hbb⟩ := HT () t htm
              obtain ⟨ta, tn, tc⟩ := t
              simp only [Ls.val] at hct hat hmk hbd
              have HAT : Unit → (tn = 0 ∨ ∃ g o, ta = some ⟨g, o, none⟩) ∧ LMk W ta tn 1 (fun _ => .int .i64 (-7070 - (i : Int))) := fun _ => ⟨hat, hmk⟩
              clear hat hmk hbb ht htm
              go_wp2_with fail
              go_loopw [9] (fun p wi => ∃ q m : Nat, q ≤ tn ∧ p = .int .i64 (q : Int) ∧ wi = W.drewN m) (fun p _ => tn - (intOf p).toNat)
              case atStart => exact ⟨0, m, by omega, rfl, rfl⟩
              case round =>
                obtain ⟨q, m, hq, rfl, rfl⟩ := hrel
                by_cases hqt : q < tn
                · obtain ⟨g, o, rfl⟩ : ∃ g o, ta = some ⟨g, o, none⟩ := by
                    rcases (HAT ()).1 with h | h
                    · omega
                    · exact h
                  have q0 := (HAT ()).2 g o rfl q (by omega)
                  simp only at q0
                  have hqI : (q : Int) < (tn : Int) := by omega
                  have hq2 : (q : Int) < 4611686018427387904 := by omega
                  have hwq : IntKind.i64.wrap ((q : Int) + 1) = (q : Int) + 1 := by rw [IntKind.wrap_i64]; omega
                  go_wp2
                  exact ⟨⟨q + 1, m, by omega, by go_num, rfl⟩, by simp [intOf]; omega⟩
                · have eq : q = tn := by omega
                  subst eq
                  go_wp2
                  go_roundw
                  case rel => exact ⟨k + 1, m, by omega, by go_num, rfl⟩
                  case measure => simp [intOf]; omega
            · have e4 : k = 4 := by omega
              subst e4
              go_wp2
              go_roundw
              case rel => exact ⟨i + 1, m, by omega, by go_num, rfl⟩
              case measure => simp [intOf]; omega
        · have ei : i = ne := by omega
          subst ei
          clear HSE HE
          go_wp2_with fail
          clear y6
          go_loopw [10] (fun v wx => ∃ i m : Nat, i ≤ nf ∧ v = .int .i64 (i : Int) ∧ wx = W.drewN m) (fun v _ => nf - (intOf v).toNat)
          case atStart => exact ⟨0, m, by omega, rfl, rfl⟩
          case round =>
            obtain ⟨i, m, hi, rfl, rfl⟩ := hrel
            by_cases hin : i < nf
            · obtain ⟨v, hv⟩ : ∃ v, VF[i]? = some v := ⟨_, List.getElem?_eq_getElem (by have := (HF ()).1; omega)⟩
              obtain ⟨ab, rfl, hca⟩ := (HF ()).2.2 i v hv
              obtain ⟨zb, zc, hzo, hzl, hzr, n0, S, rfl, hblk, h4, hout, hts⟩ := HSF () i v hv
              have HB : Unit → Blk W n0 (S.map Ls.val).toArray 105 ∧ S.length = 4 := fun _ => ⟨hblk, h4⟩
              have HT : Unit → _ := fun _ => hts
              have hinI : (i : Int) < (nf : Int) := by omega
              have hni : (i : Int) < 1099511627776 := by have := HN (); omega
              have hncf : (nf : Int) ≤ (cf : Int) := by have := (HF ()).2.1; omega
              have hwi : IntKind.i64.wrap ((i : Int) + 1) = (i : Int) + 1 := by rw [IntKind.wrap_i64]; omega
              have HZ : Unit → Row W zb 0 (bl (pil ⟨#[80]⟩ i)) := fun _ => hzr
              have HPI : Unit → ∀ w1, Calls Tryz.prog 100 #[.int .i64 (i : Int)] w1 fun r w' => r = .returned (.string (pil ⟨#[80]⟩ i)) ∧ w' = w1 := fun _ w1 => pile_any i w1 hni
              obtain ⟨s, hs⟩ : ∃ s, s = pil ⟨#[80]⟩ i := ⟨_, rfl⟩
              rw [← hs] at HZ HPI
              have HT2 : Unit → ∀ t ∈ S, (t.n = 0 ∨ ∃ g o, t.a = some ⟨g, o, none⟩) ∧ LMk W t.a t.n 1 (fun _ => .slice (some ⟨zb, 0, none⟩) (bl s).length zc) ∧ (t.n : Int) ≤ 140737488351310 := fun _ t ht => by
                have := HT () t ht
                rw [← hs] at this
                exact ⟨this.1, this.2.1, this.2.2.1⟩
              have s1 := conv_row W zb 0 zc (bl s) (HZ ())
              rw [bstr_bl] at s1
              have S1 : Unit → ∀ m, (convert 56 9 (.slice (some ⟨zb, 0, none⟩) (bl s).length zc)).run Tryz.prog (W.drewN m) = .ok (.string s) (W.drewN m) := fun _ m => by
                have := conv_row (W.drewN m) zb 0 zc (bl s) ((HZ ()).keep ((Keep.refl nil W).drewN m) hzl (fun e => e))
                rw [bstr_bl] at this; exact this
              obtain ⟨zl, hzl'⟩ : ∃ zl, zl = (bl s).length := ⟨_, rfl⟩
              rw [← hzl'] at HT2 S1 s1
              clear hv hblk h4 hout hts HT hs hzo hzr hzl hzl' s1
              go_wp2_with fail
              refine (HPI () _).mono ?_
              rintro e w' ⟨rfl, rfl⟩
              go_wp2_with fail
              go_loopw [12] (fun v wx => ∃ k m : Nat, k ≤ 4 ∧ v = .int .i64 (k : Int) ∧ wx = W.drewN m) (fun v _ => 4 - (intOf v).toNat)
              case atStart => exact ⟨0, m, by omega, rfl, rfl⟩
              case round =>
                obtain ⟨k, m, hk, rfl, rfl⟩ := hrel
                by_cases hk4 : k < 4
                · obtain ⟨t, ht⟩ : ∃ t, S[k]? = some t := ⟨_, List.getElem?_eq_getElem (by rw [(HB ()).2]; exact hk4)⟩
                  have htm : t ∈ S := List.mem_of_getElem? ht
                  have hct : W.cell? ⟨n0, k, none⟩ = some t.val := by
                    have := (HB ()).1.cell k
                    rw [this, List.getElem?_toArray, List.getElem?_map, ht]; rfl
                  have hkI : (k : Int) < 4 := by omega
                  obtain ⟨hat, hmk, hbd⟩ := HT2 () t htm
                  obtain ⟨ta, tn, tc⟩ := t
                  simp only [Ls.val] at hct hat hmk hbd
                  have HAT : Unit → (tn = 0 ∨ ∃ g o, ta = some ⟨g, o, none⟩) ∧ LMk W ta tn 1 (fun _ => .slice (some ⟨zb, 0, none⟩) zl zc) := fun _ => ⟨hat, hmk⟩
                  clear hat hmk ht htm
                  go_wp2_with fail
                  go_loopw [13] (fun p wi => ∃ q m : Nat, q ≤ tn ∧ p = .int .i64 (q : Int) ∧ wi = W.drewN m) (fun p _ => tn - (intOf p).toNat)
                  case atStart => exact ⟨0, m, by omega, rfl, rfl⟩
                  case round =>
                    obtain ⟨q, m, hq, rfl, rfl⟩ := hrel
                    by_cases hqt : q < tn
                    · obtain ⟨g, o, rfl⟩ : ∃ g o, ta = some ⟨g, o, none⟩ := by
                        rcases (HAT ()).1 with h | h
                        · omega
                        · exact h
                      have q0 := (HAT ()).2 g o rfl q (by omega)
                      simp only at q0
                      have s1 := S1 () m
                      have hqI : (q : Int) < (tn : Int) := by omega
                      have hq2 : (q : Int) < 4611686018427387904 := by omega
                      have hwq : IntKind.i64.wrap ((q : Int) + 1) = (q : Int) + 1 := by rw [IntKind.wrap_i64]; omega
                      go_wp2
                      exact ⟨⟨q + 1, m, by omega, by go_num, rfl⟩, by simp [intOf]; omega⟩
                    · have eq : q = tn := by omega
                      subst eq
                      go_wp2
                      go_roundw
                      case rel => exact ⟨k + 1, m, by omega, by go_num, rfl⟩
                      case measure => simp [intOf]; omega
                · have e4 : k = 4 := by omega
                  subst e4
                  go_wp2
                  go_roundw
                  case rel => exact ⟨i + 1, m, by omega, by go_num, rfl⟩
                  case measure => simp [intOf]; omega
            · have ei : i = nf := by omega
              subst ei
              clear HSF HF
              go_wp2
              go_ret
              exact ⟨rfl, (HKR ()).drewN m⟩
end Go.Proofs.YtlfijfodklhplaaGreat
