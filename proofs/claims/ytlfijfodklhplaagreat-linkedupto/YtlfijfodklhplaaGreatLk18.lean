import Derived.Test.YtlfijfodklhplaaGreatLk17
import Derived.Test.YtlfijfodklhplaaGreatLk09
/- Walk of the book's bytes, at nil. -/
namespace Go.Proofs.YtlfijfodklhplaaGreat
open Go.RowKit
set_option linter.unusedVariables false

set_option maxRecDepth 100000 in
set_option maxHeartbeats 4000000 in
theorem bytes_nil (yb : Nat) (a0 : Option Addr) (na ca : Nat) (VA : List Value) (p0 p1 p3 p4 p5 p6 p7 : Value) (w : World) (hyb : Blk w yb #[p0, p1, .slice a0 na ca, p3, p4, p5, p6, p7] 73)
    (hra : RowIs w a0 na ca 106 VA (fun b => b = yb)) (hna : (na : Int) < 1099511627776) :
    Calls Tryz.prog 127 #[.pointer (some ⟨yb, 2, none⟩), .slice none 0 0] w fun e w' =>
      e = .returned (.tuple #[]) ∧ ∃ (S : List Lst) (nb ab ca' : Nat),
        Blk w' yb #[p0, p1, .slice (some ⟨ab, 0, none⟩) (na + 1) ca', p3, p4, p5, p6, p7] 73 ∧
        VBuf w' ab 106 1 (VA ++ [.slice (some ⟨nb, 0, none⟩) 4 4]) ca' ∧ (a0 = some ⟨ab, 0, none⟩ ∨ w.heap.size ≤ ab) ∧
        Blk w' nb (S.map Lst.val).toArray 56 ∧ w.heap.size ≤ nb ∧ nb ≠ ab ∧ S.length = 4 ∧
        (∀ t ∈ S, t.marked w' na ∧ (t.n : Int) ≤ 140737488351310 ∧ ∀ b, t.b = some b → (nil b ∨ w.heap.size ≤ b) ∧ b ≠ ab ∧ b < w'.heap.size) ∧
        Keep (fun b => nil b ∨ b = yb ∨ a0 = some ⟨b, 0, none⟩) w w' := by
  have hy := hyb.cell 2
  simp at hy
  have hyl := hyb.lt
  have hna2 : (na : Int) < 4611686018427387904 := by omega
  have HYB : Unit → Blk w yb #[p0, p1, .slice a0 na ca, p3, p4, p5, p6, p7] 73 := fun _ => hyb
  have HRA : Unit → RowIs w a0 na ca 106 VA (fun b => b = yb) := fun _ => hra
  have HNA : Unit → (na : Int) < 1099511627776 := fun _ => hna
  clear hyb hra hna
  go_enter Tryz.func127, Tryz.ntmps127
  go_wp2_with fail
  refine (sign_any na 0 hna2 (by omega) _).mono ?_
  rintro e w' ⟨rfl, rfl⟩
  go_wp2_with fail
  refine (sign_any na 1 hna2 (by omega) _).mono ?_
  rintro e w' ⟨rfl, rfl⟩
  go_wp2_with fail
  refine (sign_any na 2 hna2 (by omega) _).mono ?_
  rintro e w' ⟨rfl, rfl⟩
  obtain ⟨x, hx⟩ : ∃ x, sgn na 0 = x := ⟨_, rfl⟩
  obtain ⟨y, hy'⟩ : ∃ x, sgn na 1 = x := ⟨_, rfl⟩
  obtain ⟨z, hz⟩ : ∃ x, sgn na 2 = x := ⟨_, rfl⟩
  rw [hx, hy', hz]
  clear hx hy' hz
  go_wp2_with (first
    | (at_builtin; refine wpList_append_new _ rfl (.tmp 31) (.tmp 33) 56 rfl 5 (.int .u8 0) 1 1 Tryz.underlying56 u8_info rfl rfl ⟨w.heap.size, 0, none⟩ 1 1 (by omega) rfl ([x].map bv) rfl (cells_list w ([x].map bv) 5 _ rfl) (by omega) (by omega) ?_; intro c1 w1 hb1 hc1 hk1)
    | (at_builtin; refine wpList_append_new _ rfl (.tmp 35) (.tmp 38) 56 rfl 5 (.int .u8 0) 1 1 Tryz.underlying56 u8_info rfl rfl ⟨w1.heap.size, 0, none⟩ 2 2 (by omega) rfl ([x, y].map bv) rfl (cells_list w1 ([x, y].map bv) 5 _ rfl) (by omega) (by omega) ?_; intro c2 w2 hb2 hc2 hk2)
    | (at_builtin; refine wpList_append_new _ rfl (.tmp 40) (.tmp 44) 56 rfl 5 (.int .u8 0) 1 1 Tryz.underlying56 u8_info rfl rfl ⟨w2.heap.size, 0, none⟩ 3 3 (by omega) rfl ([x, y, z].map bv) rfl (cells_list w2 ([x, y, z].map bv) 5 _ rfl) (by omega) (by omega) ?_; intro c3 w3 hb3 hc3 hk3))
  have z1 := hk1.size
  have z2 := hk2.size
  have z3 := hk3.size
  simp only [World.size_alloc] at z1 z2 z3 hb1 hb2 hb3
  have R1 : Room w3 (w.heap.size + 1) 5 1 := ((((by simpa using hb1.room : Room w1 (w.heap.size + 1) 5 c1).less hc1).keep (((Keep.refl nil w1).alloc _).trans hk2) (fun e => e))).keep (((Keep.refl nil w2).alloc _).trans hk3) (fun e => e)
  have R2 : Room w3 (w1.heap.size + 1) 5 2 := (((by simpa using hb2.room : Room w2 (w1.heap.size + 1) 5 c2).less hc2).keep (((Keep.refl nil w2).alloc _).trans hk3) (fun e => e))
  have R3 : Room w3 (w2.heap.size + 1) 5 3 := (by simpa using hb3.room : Room w3 (w2.heap.size + 1) 5 c3).less hc3
  obtain ⟨S, hS⟩ : ∃ S : List Lst, S = [⟨none, 0, 0⟩, ⟨some (w.heap.size + 1), 1, c1⟩, ⟨some (w1.heap.size + 1), 2, c2⟩, ⟨some (w2.heap.size + 1), 3, c3⟩] := ⟨_, rfl⟩
  have hblk : Blk (w3.alloc (.cells (S.map Lst.val).toArray 56)) w3.heap.size (S.map Lst.val).toArray 56 := Blk.new _ _ _
  have hval : (S.map Lst.val).toArray = #[.slice none 0 0, .slice (some ⟨w.heap.size + 1, 0, none⟩) 1 c1, .slice (some ⟨w1.heap.size + 1, 0, none⟩) 2 c2, .slice (some ⟨w2.heap.size + 1, 0, none⟩) 3 c3] := by rw [hS]; rfl
  rw [← hval]
  have hok : ∀ t ∈ S, t.ok w3 := by
    rw [hS]
    intro t ht
    simp only [List.mem_cons, List.not_mem_nil, or_false] at ht
    rcases ht with rfl | rfl | rfl | rfl
    · rfl
    · exact R1
    · exact R2
    · exact R3
  have hsl : ∀ t ∈ S, (t.n : Int) ≤ 140737488351310 := by
    rw [hS]
    intro t ht
    simp only [List.mem_cons, List.not_mem_nil, or_false] at ht
    rcases ht with rfl | rfl | rfl | rfl <;> simp only <;> omega
  have h4 : S.length = 4 := by rw [hS]; rfl
  have hnb : ∀ t ∈ S, ∀ b, t.b = some b → b < w3.heap.size := fun t ht b hb => by
    have := hok t ht
    unfold Lst.ok at this
    rw [hb] at this
    exact this.lt
  have HNEW : Unit → (∀ t ∈ S, ∀ b, t.b = some b → nil b ∨ w.heap.size ≤ b) := fun _ => by
    rw [hS]
    intro t ht b hb
    simp only [List.mem_cons, List.not_mem_nil, or_false] at ht
    rcases ht with rfl | rfl | rfl | rfl
    · cases hb
    · simp only [Option.some.injEq] at hb; exact Or.inr (by omega)
    · simp only [Option.some.injEq] at hb; exact Or.inr (by omega)
    · simp only [Option.some.injEq] at hb; exact Or.inr (by omega)
  have HK : Unit → Keep nil w w3 := fun _ => (((((Keep.refl nil w).alloc _).trans hk1).alloc _).trans hk2 |>.alloc _).trans hk3
  have st0 : St (w3.alloc (.cells (S.map Lst.val).toArray 56)) (w3.alloc (.cells (S.map Lst.val).toArray 56)) S na 0 :=
    ⟨Keep.refl _ _, fun t ht => by
      have := hok t ht
      unfold Lst.ok at this ⊢
      cases hb : t.b with
      | none => rw [hb] at this; exact this
      | some b => rw [hb] at this; exact this.keep ((Keep.refl nil w3).alloc _) (fun e => e), fun j t hj => by omega⟩
  have HY : Unit → w3.cell? ⟨yb, 2, none⟩ = some (.slice a0 na ca) := fun _ => ((HK ()).cell yb 2 hyl (fun e => e)).trans hy
  have hz3 : w.heap.size ≤ w3.heap.size := by omega
  clear R1 R2 R3 hb1 hb2 hb3 hk1 hk2 hk3 hok hval hS hc1 hc2 hc3 z1 z2 z3 hy
  have HSL : Unit → ∀ t ∈ S, (t.n : Int) ≤ 140737488351310 := fun _ => hsl
  have HNB : Unit → ∀ t ∈ S, ∀ b, t.b = some b → b < w3.heap.size := fun _ => hnb
  have HBL : Unit → Blk (w3.alloc (.cells (S.map Lst.val).toArray 56)) w3.heap.size (S.map Lst.val).toArray 56 := fun _ => hblk
  have H4 : Unit → S.length = 4 := fun _ => h4
  clear hsl hnb hblk h4
  go_loopw [10] (fun j wr => ∃ k : Nat, k ≤ 4 ∧ j = .int .i64 (k : Int) ∧ St (w3.alloc (.cells (S.map Lst.val).toArray 56)) wr S na k) (fun j _ => 4 - (intOf j).toNat)
  case atStart => exact ⟨0, by omega, rfl, st0⟩
  case round =>
    obtain ⟨k, hk, rfl, hst⟩ := hrel
    by_cases hk4 : k < 4
    · obtain ⟨t, ht⟩ : ∃ t, S[k]? = some t := ⟨S[k]'(by rw [H4 ()]; exact hk4), List.getElem?_eq_getElem _⟩
      have htm : t ∈ S := List.mem_of_getElem? ht
      have hcell : wr.cell? ⟨w3.heap.size, k, none⟩ = some t.val := by
        have := ((HBL ()).keep hst.keep (fun ⟨u, hu, hb⟩ => by have := HNB () u hu _ hb; omega)).cell k
        rw [this, List.getElem?_toArray, List.getElem?_map, ht]; rfl
      have hkI : (k : Int) < 4 := by omega
      cases hb : t.b with
      | none =>
        have hv : t.val = .slice none 0 0 := by unfold Lst.val; rw [hb]
        rw [hv] at hcell
        have hmk : t.marked wr na := by unfold Lst.marked; rw [hb]; trivial
        have st1 := hst.next t ht hmk
        have HST : Unit → St (w3.alloc (.cells (S.map Lst.val).toArray 56)) wr S na (k + 1) := fun _ => st1
        clear hst st1 hmk hv hb ht htm
        go_wp2_with fail
        go_loopw [11] (fun p wi => p = .int .i64 0 ∧ wi = wr) (fun _ _ => 0)
        case atStart => exact ⟨rfl, rfl⟩
        case round =>
          obtain ⟨rfl, rfl⟩ := hrel
          go_wp2
          go_roundw
          case rel => exact ⟨k + 1, by omega, by go_num, HST ()⟩
          case measure => simp [intOf]; omega
      | some g' =>
        have hv : t.val = .slice (some ⟨g', 0, none⟩) t.n t.c := by unfold Lst.val; rw [hb]
        have hsl := HSL () t htm
        have hdone : ∀ wi, Marked wi g' na t.n → t.marked wi na := fun wi h => by unfold Lst.marked; rw [hb]; exact h
        have HD : Unit → ∀ wi, Marked wi g' na t.n → t.marked wi na := fun _ => hdone
        have HT : Unit → S[k]? = some t ∧ t ∈ S ∧ t.b = some g' := fun _ => ⟨ht, htm, hb⟩
        have HV : Unit → t.val = .slice (some ⟨g', 0, none⟩) t.n t.c := fun _ => hv
        have HST : Unit → St (w3.alloc (.cells (S.map Lst.val).toArray 56)) wr S na k := fun _ => hst
        rw [hv] at hcell
        clear hst hdone ht htm hb hv
        go_wp2_with fail
        go_loopw [11] (fun p wi => ∃ q : Nat, q ≤ t.n ∧ p = .int .i64 (q : Int) ∧ St (w3.alloc (.cells (S.map Lst.val).toArray 56)) wi S na k ∧ Marked wi g' na q) (fun p _ => t.n - (intOf p).toNat)
        case atStart => exact ⟨0, by omega, rfl, HST (), fun p hp => by omega⟩
        case round =>
          obtain ⟨q, hq, rfl, hst, hmk⟩ := hrel
          clear hcell HST
          have hcell : wr.cell? ⟨w3.heap.size, k, none⟩ = some (.slice (some ⟨g', 0, none⟩) t.n t.c) := by
            have := ((HBL ()).keep hst.keep (fun ⟨u, hu, hb⟩ => by have := HNB () u hu _ hb; omega)).cell k
            rw [this, List.getElem?_toArray, List.getElem?_map, (HT ()).1, ← HV ()]; rfl
          have hroom : Room wr g' 5 t.n := by
            have := hst.ok t (HT ()).2.1
            unfold Lst.ok at this
            rw [(HT ()).2.2] at this
            exact this
          by_cases hqt : q < t.n
          · obtain ⟨v0, hv0⟩ := hroom.some q hqt
            have hfr := hroom.frozen q
            have hne : ¬ g' = w3.heap.size := by have := HNB () t (HT ()).2.1 g' (HT ()).2.2; omega
            have HS2 : Unit → St (w3.alloc (.cells (S.map Lst.val).toArray 56)) (wr.setCell ⟨g', q, none⟩ (bv (sgn na q))) S na k := fun _ => hst.set g' q ⟨t, (HT ()).2.1, (HT ()).2.2⟩
            have HM2 : Unit → Marked (wr.setCell ⟨g', q, none⟩ (bv (sgn na q))) g' na (q + 1) := fun _ => hmk.more ⟨v0, hv0⟩
            have hqI : (q : Int) < 4611686018427387904 := by omega
            clear hst hmk hroom
            go_wp2_with fail
            go_region_with (go_at_call 47; refine (sign_any na q hna2 hqI _).mono ?_; rintro e w' ⟨rfl, rfl⟩)
            all_goals
              go_wp2
              go_roundw
              case rel => exact ⟨q + 1, by omega, by go_num, (HS2 ()).drew, HM2 ()⟩
              case measure => simp [intOf]; omega
          · have eq : q = t.n := by omega
            subst eq
            have HS2 : Unit → St (w3.alloc (.cells (S.map Lst.val).toArray 56)) wr S na (k + 1) := fun _ => hst.next t (HT ()).1 (HD () wr hmk)
            clear hst hmk hroom
            go_wp2
            go_roundw
            case rel => exact ⟨k + 1, by omega, by go_num, HS2 ()⟩
            case measure => simp [intOf]; omega
    · have e4 : k = 4 := by omega
      subst e4
      have hex : ∀ b, (∃ t ∈ S, t.b = some b) → nil b ∨ w.heap.size ≤ b := fun b ⟨t, ht, hb⟩ => HNEW () t ht b hb
      have k1 : Keep nil w wr := ((HK ()).alloc _).trans' hst.keep (fun i hi e => by rcases hex i e with h | h; exact h; omega)
      have byb := (HYB ()).keep k1 (fun e => e)
      have hcy := byb.cell 2
      have hfy := byb.frozen 2
      simp at hcy
      have hzr := k1.size
      have hkr := hst.keep.size
      simp only [World.size_alloc] at hkr
      have bnb := (HBL ()).keep hst.keep (fun ⟨u, hu, hb⟩ => by have := HNB () u hu _ hb; omega)
      have hmk : ∀ t ∈ S, t.marked wr na := fun t ht => by
        obtain ⟨j, hj, e⟩ := List.getElem_of_mem ht
        exact hst.done j t (by have := H4 (); omega) (by rw [List.getElem?_eq_getElem hj, e])
      have hbl : ∀ t ∈ S, ∀ b, t.b = some b → b < wr.heap.size := fun t ht b hb => by have := HNB () t ht b hb; omega
      have HF : Unit → Blk wr yb #[p0, p1, .slice a0 na ca, p3, p4, p5, p6, p7] 73 ∧ Keep nil w wr ∧ Blk wr w3.heap.size (S.map Lst.val).toArray 56 ∧ (∀ t ∈ S, t.marked wr na) ∧ (∀ t ∈ S, ∀ b, t.b = some b → b < wr.heap.size) := fun _ => ⟨byb, k1, bnb, hmk, hbl⟩
      clear hst st0 byb bnb hmk hbl hex k1
      rcases HRA () with ⟨rfl, rfl, rfl, rfl⟩ | ⟨ab, rfl, hva, hvl, hab⟩
      · clear HRA
        go_wp2_with (at_builtin; refine wpList_append_new _ rfl (.tmp 75) (.tmp 77) 64 rfl 106 (.slice none 0 0) 1 24 Tryz.underlying64 sheets_info rfl rfl ⟨wr.heap.size, 0, none⟩ 1 1 (by omega) rfl [.slice (some ⟨w3.heap.size, 0, none⟩) 4 4] rfl (cells_list wr [.slice (some ⟨w3.heap.size, 0, none⟩) 4 4] 106 _ rfl) (by omega) (by omega) ?_; intro c' w4 hb4 hc4 hk4; have hcy4 := ((((HF ()).1.old _).keep hk4 (fun e => e)).cell 2); have hfy4 := ((((HF ()).1.old _).keep hk4 (fun e => e)).frozen 2); simp at hcy4)
        go_end0
        obtain ⟨byb, k1, bnb, hmk, hbl⟩ := HF ()
        rw [World.size_alloc] at hb4
        exact ⟨rfl, S, w3.heap.size, wr.heap.size + 1, c', bytes_end (G := nil) byb (fun e => e) hyl k1 bnb hz3 (H4 ()) (HSL ()) hmk hbl (HNEW ()) (fun b e => by cases e) (Or.inr rfl) (hk4.mono (fun i hi e => e.elim)) hb4⟩
      · have hvr := hva.keep (HF ()).2.1 (fun e => e)
        have habl := hva.lt
        have hna3 := HNA ()
        have HV : Unit → (VA.length = na ∧ ¬ ab = yb) := fun _ => ⟨hvl, hab⟩
        clear HRA hva hvl hab
        go_wp2_with (at_builtin; refine wpList_append_any _ rfl (.tmp 75) (.tmp 77) 64 rfl 106 (.slice none 0 0) 1 24 Tryz.underlying64 sheets_info rfl ab na ca rfl VA (by rw [(HV ()).1]; omega) (hvr.alloc _) ⟨wr.heap.size, 0, none⟩ 1 1 rfl [.slice (some ⟨w3.heap.size, 0, none⟩) 4 4] rfl (cells_list wr [.slice (some ⟨w3.heap.size, 0, none⟩) 4 4] 106 _ rfl) (by intro u hu; simp at hu; subst hu; rfl) (by omega) (by omega) ?_; intro ab' c' w4 hb4 hc4 hd4 hk4; have hcy4 := ((((HF ()).1.old _).keep hk4 (fun e => (HV ()).2 e.symm)).cell 2); have hfy4 := ((((HF ()).1.old _).keep hk4 (fun e => (HV ()).2 e.symm)).frozen 2); simp at hcy4)
        go_end0
        obtain ⟨byb, k1, bnb, hmk, hbl⟩ := HF ()
        exact ⟨rfl, S, w3.heap.size, ab', c', bytes_end (G := nil) byb (fun e => e) hyl k1 bnb hz3 (H4 ()) (HSL ()) hmk hbl (HNEW ()) (fun b e => by cases e; exact ⟨fun e => e, fun e => (HV ()).2 e, habl⟩) (by rcases hd4 with ⟨rfl, _⟩ | ⟨rfl, _⟩; exact Or.inl rfl; exact Or.inr (World.size_alloc _ _)) (hk4.mono (fun i hi e => by simp only [only] at e; rw [e])) hb4⟩
end Go.Proofs.YtlfijfodklhplaaGreat
/- Walk of told: bytes that came out are their owner's. -/
namespace Go.Proofs.YtlfijfodklhplaaGreat
open Go.RowKit
set_option linter.unusedVariables false

/-- What the book's bytes leaves: one sheet more, marked; nothing else that was there has turned but G's blocks, the Play and the row of sheets. -/
def BkB (G : Nat → Prop) (w w' : World) (yb na : Nat) (a0 : Option Addr) (VA : List Value) (p0 p1 p3 p4 p5 p6 p7 : Value) : Prop :=
  ∃ (S : List Lst) (nb ab ca' : Nat),
    Blk w' yb #[p0, p1, .slice (some ⟨ab, 0, none⟩) (na + 1) ca', p3, p4, p5, p6, p7] 73 ∧
    VBuf w' ab 106 1 (VA ++ [.slice (some ⟨nb, 0, none⟩) 4 4]) ca' ∧ (a0 = some ⟨ab, 0, none⟩ ∨ w.heap.size ≤ ab) ∧
    Blk w' nb (S.map Lst.val).toArray 56 ∧ w.heap.size ≤ nb ∧ nb ≠ ab ∧ S.length = 4 ∧
    (∀ t ∈ S, t.marked w' na ∧ (t.n : Int) ≤ 140737488351310 ∧ ∀ b, t.b = some b → (G b ∨ w.heap.size ≤ b) ∧ b ≠ ab ∧ b < w'.heap.size) ∧
    Keep (fun b => G b ∨ b = yb ∨ a0 = some ⟨b, 0, none⟩) w w'

theorem buf_brow {w : World} {g : Nat} {l : List Nat} {c : Nat} (h : Buf w g l c) : BRow w g l c := by
  obtain ⟨sp, hb, hc⟩ := h
  exact ⟨sp, hb, by simp; omega⟩

set_option maxRecDepth 100000 in
set_option maxHeartbeats 1000000 in
theorem told_rows (yb g c gb ob cb : Nat) (l : List Nat) (a0 : Option Addr) (na ca : Nat) (VA : List Value) (p0 p1 p3 p4 p5 p6 p7 : Value) (w : World) (hyb : Blk w yb #[p0, p1, .slice a0 na ca, p3, p4, p5, p6, p7] 73) (hyg : yb ≠ g)
    (hra : RowIs w a0 na ca 106 VA (fun b => b = g ∨ b = yb)) (hb : BRow w g l c) (hcl : l.length ≤ c) (hrb : Row w gb ob l)
    (hlen : (l.length : Int) ≤ 140737488351300) (hna : (na : Int) < 1099511627776) :
    Calls Tryz.prog 78 #[.pointer (some ⟨yb, 0, none⟩), .slice (some ⟨g, 0, none⟩) l.length c, .slice (some ⟨gb, ob, none⟩) l.length cb] w fun e w' =>
      e = .returned (.bool true) ∧ BkB (only g) w w' yb na a0 VA p0 p1 p3 p4 p5 p6 p7 := by
  have s1 := conv_row w g 0 c l (brow_row hb)
  have s2 := conv_row w gb ob cb l hrb
  have H := bytes_row yb g c l a0 na ca VA p0 p1 p3 p4 p5 p6 p7 w hyb hyg hra hb hcl hlen hna
  have HB : Hid _ := H
  clear H hyb hra hb hrb
  generalize bstr l = t1 at *
  go_enter Tryz.func78, Tryz.ntmps78
  go_wp2_with fail
  refine Calls.mono HB.out ?_
  rintro e w1 ⟨rfl, hpost⟩
  have HP : Unit → BkB (only g) w w1 yb na a0 VA p0 p1 p3 p4 p5 p6 p7 := fun _ => hpost
  clear hpost HB s1 s2
  go_wp2
  go_ret
  exact ⟨rfl, HP ()⟩

set_option maxRecDepth 100000 in
set_option maxHeartbeats 1000000 in
theorem told_nils (yb : Nat) (a0 : Option Addr) (na ca : Nat) (VA : List Value) (p0 p1 p3 p4 p5 p6 p7 : Value) (w : World) (hyb : Blk w yb #[p0, p1, .slice a0 na ca, p3, p4, p5, p6, p7] 73)
    (hra : RowIs w a0 na ca 106 VA (fun b => b = yb)) (hna : (na : Int) < 1099511627776) :
    Calls Tryz.prog 78 #[.pointer (some ⟨yb, 0, none⟩), .slice none 0 0, .slice none 0 0] w fun e w' =>
      e = .returned (.bool true) ∧ BkB nil w w' yb na a0 VA p0 p1 p3 p4 p5 p6 p7 := by
  have s1 := conv_nil w
  have H := bytes_nil yb a0 na ca VA p0 p1 p3 p4 p5 p6 p7 w hyb hra hna
  have HB : Hid _ := H
  clear H hyb hra
  generalize bstr [] = t1 at *
  go_enter Tryz.func78, Tryz.ntmps78
  go_wp2_with fail
  refine Calls.mono HB.out ?_
  rintro e w1 ⟨rfl, hpost⟩
  have HP : Unit → BkB nil w w1 yb na a0 VA p0 p1 p3 p4 p5 p6 p7 := fun _ => hpost
  clear hpost HB s1
  go_wp2
  go_ret
  exact ⟨rfl, HP ()⟩
end Go.Proofs.YtlfijfodklhplaaGreat
/- Walk of returned: bytes that were lent stand as they did. -/
namespace Go.Proofs.YtlfijfodklhplaaGreat
open Go.RowKit
set_option linter.unusedVariables false

theorem nil_eql (w : World) (a : Option Addr) (n c : Nat) : (binOp .eql 56 (.slice a n c) (.slice none 0 0)).run Tryz.prog w = .ok (.bool a.isNone) w :=
  Lib.run_eql_slice_nil w 56 5 a n c 0 0 Tryz.underlying56

set_option maxRecDepth 100000 in
set_option maxHeartbeats 1000000 in
theorem returned_nil (yb : Nat) (g : Value) (w : World) :
    Calls Tryz.prog 82 #[.pointer (some ⟨yb, 0, none⟩), g, .slice none 0 0] w fun e w' => e = .returned (.bool true) ∧ w = w' := by
  have hnil := nil_eql
  go_enter Tryz.func82, Tryz.ntmps82
  go_wp2
  go_ret
  exact ⟨rfl, rfl⟩

theorem marks_at (k : Nat) (h : k < 8) : (marks 8)[k]? = some (171 + k) := by
  simp [marks, h]

set_option maxRecDepth 100000 in
set_option maxHeartbeats 4000000 in
theorem returned_rows (yb g c : Nat) (ad : Addr) (cap : Nat) (l : List Nat) (a0 : Option Addr) (na ca : Nat) (VA : List Value) (p0 p1 p3 p4 p5 p6 p7 : Value) (w : World) (hyb : Blk w yb #[p0, p1, .slice a0 na ca, p3, p4, p5, p6, p7] 73) (hyg : yb ≠ g)
    (hra : RowIs w a0 na ca 106 VA (fun b => b = g ∨ b = yb)) (hb : BRow w g (l ++ marks 8) c) (hcl : l.length + 8 ≤ c) (hrb : BSl w ad l) (hbt : ∀ x ∈ l, x < 256)
    (hlen : (l.length : Int) ≤ 140737488351232) (hna : (na : Int) < 1099511627776) :
    Calls Tryz.prog 82 #[.pointer (some ⟨yb, 0, none⟩), .slice (some ⟨g, 0, none⟩) l.length c, .slice (some ad) l.length cap] w fun e w' =>
      e = .returned (.bool true) ∧ ∃ m, BkB (only g) (w.drewN m) w' yb na a0 VA p0 p1 p3 p4 p5 p6 p7 := by
  have hnil := nil_eql
  have hc1 : ∀ k, k < l.length → w.cell? ⟨g, k, none⟩ = some (.int .u8 ((l[k]?.getD 0 : Nat) : Int)) := fun k hk => by
    have := hb.cell k (bv l[k]) (by rw [List.getElem?_map, List.getElem?_append_left hk, List.getElem?_eq_getElem hk]; rfl)
    rw [this, List.getElem?_eq_getElem hk]; rfl
  have hc2 : ∀ k, k < l.length → ∃ bb bo, ad = ⟨bb, bo, none⟩ ∧ w.cell? ⟨bb, bo + k, none⟩ = some (.int .u8 ((l[k]?.getD 0 : Nat) : Int)) := fun k hk => by
    rcases hrb with h | ⟨bb, bo, h1, _, h3⟩
    · rw [h] at hk; simp at hk
    · exact ⟨bb, bo, h1, by rw [h3 k hk, List.getElem?_eq_getElem hk]; rfl⟩
  have hc3 : ∀ k, k < 8 → w.cell? ⟨g, l.length + k, none⟩ = some (.int .u8 (171 + (k : Int))) := fun k hk => by
    have := hb.cell (l.length + k) (bv (171 + k)) (by rw [List.getElem?_map, List.getElem?_append_right (by omega), Nat.add_sub_cancel_left, marks_at k hk]; rfl)
    rw [this]
    show some (Value.int .u8 ((171 + k : Nat) : Int)) = _
    congr 2
  have H : Unit → ∀ m, Calls Tryz.prog 127 #[.pointer (some ⟨yb, 2, none⟩), .slice (some ⟨g, 0, none⟩) l.length c] (w.drewN m) fun e w' => e = .returned (.tuple #[]) ∧ BkB (only g) (w.drewN m) w' yb na a0 VA p0 p1 p3 p4 p5 p6 p7 := fun _ m => by
    have kd : Keep nil w (w.drewN m) := (Keep.refl nil w).drewN m
    have hl : BRow w g l c := by
      have := hb.less l.length
      rw [← List.map_take, List.take_left] at this
      exact this
    refine bytes_row yb g c l a0 na ca VA p0 p1 p3 p4 p5 p6 p7 (w.drewN m) (hyb.keep kd (fun e => e)) hyg ?_ (hl.keep kd (fun e => e)) (by omega) (by omega) hna
    rcases hra with h | ⟨ab, h1, h2, h3, h4⟩
    · exact Or.inl h
    · exact Or.inr ⟨ab, h1, h2.keep kd (fun e => e), h3, h4⟩
  clear hyb hra hb hrb hbt hna
  go_enter Tryz.func82, Tryz.ntmps82
  go_wp2_with fail
  clear hnil
  go_loopw [8, 9] (fun ok i wr => ∃ k m : Nat, k ≤ l.length ∧ i = .int .i64 (k : Int) ∧ ok = .bool true ∧ wr = w.drewN m) (fun _ i _ => l.length - (intOf i).toNat)
  case atStart => exact ⟨0, 0, by omega, rfl, rfl, rfl⟩
  case round =>
    obtain ⟨k, m, hk, rfl, rfl, rfl⟩ := hrel
    by_cases hkl : k < l.length
    · have q1 := hc1 k hkl
      obtain ⟨bb, bo, rfl, q2⟩ := hc2 k hkl
      clear hc2
      go_wp2_with fail
      go_quiet (fail)
      go_wp2
      exact ⟨⟨k + 1, m + nq, by omega, by go_num, rfl, rfl⟩, by simp [intOf]; omega⟩
    · clear hc1 hc2
      go_wp2_with fail
      go_loopw [8, 10] (fun ok i wr => ∃ k : Nat, k ≤ 8 ∧ i = .int .i64 (k : Int) ∧ ok = .bool true ∧ wr = w.drewN m) (fun _ i _ => 8 - (intOf i).toNat)
      case atStart => exact ⟨0, by omega, rfl, rfl, rfl⟩
      case round =>
        obtain ⟨k, hk, rfl, rfl, rfl⟩ := hrel
        by_cases hk8 : k < 8
        · have q3 := hc3 k hk8
          have hkI : (k : Int) < 8 := by omega
          go_wp2
          exact ⟨⟨k + 1, by omega, by go_num, rfl, trivial⟩, by simp [intOf]; omega⟩
        · have e8 : k = 8 := by omega
          subst e8
          clear hc3 hlen hcl
          go_wp2_with fail
          refine Calls.mono (H () m) ?_
          rintro e w1 ⟨rfl, hpost⟩
          have HP : Unit → BkB (only g) (w.drewN m) w1 yb na a0 VA p0 p1 p3 p4 p5 p6 p7 := fun _ => hpost
          clear hpost
          go_wp2
          go_ret
          exact ⟨rfl, m, HP ()⟩
end Go.Proofs.YtlfijfodklhplaaGreat
