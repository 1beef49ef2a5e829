import Derived.Test.YtlfijfodklhplaaGreatLk19
import Derived.Deep.DeepCutAuto
import Derived.Deep.CutBlock
import Derived.Deep.RegionHeld3
import Derived.StillTailTactics
/- Walk of the book's edges. -/
namespace Go.Proofs.YtlfijfodklhplaaGreat
open Go.RowKit
set_option linter.unusedVariables false
set_option linter.unusedSimpArgs false

/-- What the book's edges leaves: one roll more, marked; nothing else that was there has turned but G's blocks, the Play and the row of rolls. -/
def BkE (G : Nat → Prop) (w w' : World) (yb nb : Nat) (b0 : Option Addr) (VB : List Value) (p0 p1 p2 p4 p5 p6 p7 : Value) : Prop :=
  ∃ (S : List Lst) (n0 ab cb' : Nat),
    Blk w' yb #[p0, p1, p2, .slice (some ⟨ab, 0, none⟩) (nb + 1) cb', p4, p5, p6, p7] 73 ∧
    VBuf w' ab 109 1 (VB ++ [.slice (some ⟨n0, 0, none⟩) 4 4]) cb' ∧ (b0 = some ⟨ab, 0, none⟩ ∨ w.heap.size ≤ ab) ∧
    Blk w' n0 (S.map Lst.val).toArray 26 ∧ w.heap.size ≤ n0 ∧ n0 ≠ ab ∧ S.length = 4 ∧
    (∀ t ∈ S, t.markedE w' nb ∧ (t.n : Int) ≤ 140737488351310 ∧ ∀ b, t.b = some b → (G b ∨ w.heap.size ≤ b) ∧ b ≠ ab ∧ b < w'.heap.size) ∧
    Keep (fun b => G b ∨ b = yb ∨ b0 = some ⟨b, 0, none⟩) w w'

set_option maxRecDepth 100000 in
set_option maxHeartbeats 4000000 in
theorem edges_row (yb g c : Nat) (l : List Ed) (b0 : Option Addr) (nb cb : Nat) (VB : List Value) (p0 p1 p2 p4 p5 p6 p7 : Value) (w : World) (hyb : Blk w yb #[p0, p1, p2, .slice b0 nb cb, p4, p5, p6, p7] 73) (hyg : yb ≠ g)
    (hra : RowIs w b0 nb cb 109 VB (fun b => b = g ∨ b = yb)) (hb : EBuf w g l c) (hcl : l.length ≤ c)
    (hlen : (l.length : Int) ≤ 5864062014700) (hnb : (nb : Int) < 1099511627776) :
    Calls Tryz.prog 123 #[.pointer (some ⟨yb, 2, none⟩), .slice (some ⟨g, 0, none⟩) l.length c] w fun e w' =>
      e = .returned (.tuple #[]) ∧ BkE (only g) w w' yb nb b0 VB p0 p1 p2 p4 p5 p6 p7 := by
  have hy := hyb.cell 3
  simp at hy
  have hyl := hyb.lt
  have hgl := hb.lt
  have hwz : IntKind.i64.wrap (-7070 - (nb : Int)) = -7070 - (nb : Int) := by rw [IntKind.wrap_i64]; omega
  have HYB : Unit → Blk w yb #[p0, p1, p2, .slice b0 nb cb, p4, p5, p6, p7] 73 := fun _ => hyb
  have HRA : Unit → RowIs w b0 nb cb 109 VB (fun b => b = g ∨ b = yb) := fun _ => hra
  have HNB : Unit → (nb : Int) < 1099511627776 := fun _ => hnb
  have HLN : Unit → (l.length : Int) ≤ 5864062014700 := fun _ => hlen
  have HB0 : Unit → EBuf w g l c := fun _ => hb
  clear hyb hra hnb hb hlen
  go_enter Tryz.func123, Tryz.ntmps123
  go_upto_region 1 with fail
  obtain ⟨W0, hW0⟩ : ∃ W0, W0 = w.alloc (.cells #[.int .i64 (-7070 - (nb : Int)), .int .i64 0, .int .i64 0] 30) := ⟨_, rfl⟩
  have hs0 : EdS w W0 g c w.heap.size nb l := by
    rw [hW0]
    exact ⟨(Keep.refl _ w).alloc _, (HB0 ()).alloc _, Blk.new _ _ _, by omega⟩
  rw [← hW0]
  obtain ⟨zb, hzb⟩ : ∃ zb, zb = w.heap.size := ⟨_, rfl⟩
  rw [← hzb] at hs0 ⊢
  have z0 := hs0.z.cell 0
  have z1 := hs0.z.cell 1
  have z2 := hs0.z.cell 2
  simp [Ed.cells, eMark] at z0 z1 z2
  have HS0 : Unit → EdS w W0 g c zb nb l := fun _ => hs0
  have HZ : Unit → zb = w.heap.size := fun _ => hzb
  have HW0 : Unit → W0.heap.size = w.heap.size + 1 := fun _ => by rw [hW0]; simp
  clear hs0 hW0 hzb
  have hgW : g < W0.heap.size := by have := (HS0 ()).keep.size; omega
  go_cut [5] (fun v wx => ∃ (S : List Lst) (n0 : Nat), v = .slice (some ⟨n0, 0, none⟩) 4 4 ∧ Mid w wx g zb nb l.length n0 S)
  case first =>
    go_region_held3 (fun w' => w'.cell? ⟨zb, 0, none⟩ = some (.int .i64 (-7070 - (nb : Int))) ∧ w'.cell? ⟨zb, 1, none⟩ = some (.int .i64 0) ∧ w'.cell? ⟨zb, 2, none⟩ = some (.int .i64 0) ∧ EdS w w' g c zb nb l) (first | exact held_of (EdS.ald (held_in (by assumption))) | exact held_of (EdS.alloc (held_in (by assumption)) _) | exact held_of (EdS.app (held_in (by assumption)) (by assumption) (by assumption) (by assumption)) | exact held_of ((HS0 ()).drew)) ((first | (refine step_append_any rfl (.tmp 16) (.tmp 18) 26 rfl 30 (.agg #[.int .i64 0, .int .i64 0, .int .i64 0]) 3 24 Tryz.underlying26 edge_info rfl g l.length c (by simp [Act.eval, Act.put]) (ecells l) (ecells_len l) (held_in (by assumption)).buf _ 1 1 (by rfl) (ecells [eMark nb]) rfl (At.cell (B := W0.heap.size) (by repeat (first | exact At.newd (by simp) (by (try simp only [World.size_alloc]); omega) | exact At.new (by simp) (by first | (have q1 := hk1.size; (try simp only [World.size_alloc, World.size_drew] at q1); (try simp only [World.size_alloc, World.size_drew]); omega) | (have q1 := hk1.size; have q2 := hk2.size; (try simp only [World.size_alloc, World.size_drew] at q1); (try simp only [World.size_alloc, World.size_drew] at q2); (try simp only [World.size_alloc, World.size_drew]); omega)) | refine At.ald ?_ | refine At.al ?_ | refine At.kp hk2 hgW ?_ | refine At.kp hk1 hgW ?_))) (ecells_one _) (by have := HLN (); omega) (by have := HLN (); omega) ?_; intro g1 c1 w1 hb1 hc1 hd1 hk1) | (refine step_append_any rfl (.tmp 20) (.tmp 23) 26 rfl 30 (.agg #[.int .i64 0, .int .i64 0, .int .i64 0]) 3 24 Tryz.underlying26 edge_info rfl g l.length c (by simp [Act.eval, Act.put]) (ecells l) (ecells_len l) (held_in (by assumption)).buf _ 2 2 (by rfl) (ecells [eMark nb, eMark nb]) rfl (At.cell (B := W0.heap.size) (by repeat (first | exact At.newd (by simp) (by (try simp only [World.size_alloc]); omega) | exact At.new (by simp) (by first | (have q1 := hk1.size; (try simp only [World.size_alloc, World.size_drew] at q1); (try simp only [World.size_alloc, World.size_drew]); omega) | (have q1 := hk1.size; have q2 := hk2.size; (try simp only [World.size_alloc, World.size_drew] at q1); (try simp only [World.size_alloc, World.size_drew] at q2); (try simp only [World.size_alloc, World.size_drew]); omega)) | refine At.ald ?_ | refine At.al ?_ | refine At.kp hk2 hgW ?_ | refine At.kp hk1 hgW ?_))) (ecells_one _) (by have := HLN (); omega) (by have := HLN (); omega) ?_; intro g2 c2 w2 hb2 hc2 hd2 hk2) | (refine step_append_any rfl (.tmp 25) (.tmp 29) 26 rfl 30 (.agg #[.int .i64 0, .int .i64 0, .int .i64 0]) 3 24 Tryz.underlying26 edge_info rfl g l.length c (by simp [Act.eval, Act.put]) (ecells l) (ecells_len l) (held_in (by assumption)).buf _ 3 3 (by rfl) (ecells [eMark nb, eMark nb, eMark nb]) rfl (At.cell (B := W0.heap.size) (by repeat (first | exact At.newd (by simp) (by (try simp only [World.size_alloc]); omega) | exact At.new (by simp) (by first | (have q1 := hk1.size; (try simp only [World.size_alloc, World.size_drew] at q1); (try simp only [World.size_alloc, World.size_drew]); omega) | (have q1 := hk1.size; have q2 := hk2.size; (try simp only [World.size_alloc, World.size_drew] at q1); (try simp only [World.size_alloc, World.size_drew] at q2); (try simp only [World.size_alloc, World.size_drew]); omega)) | refine At.ald ?_ | refine At.al ?_ | refine At.kp hk2 hgW ?_ | refine At.kp hk1 hgW ?_))) (ecells_one _) (by have := HLN (); omega) (by have := HLN (); omega) ?_; intro g3 c3 w3 hb3 hc3 hd3 hk3)))
    all_goals
      have q1 := hk1.size
      have q2 := hk2.size
      have q3 := hk3.size
      have k12 : Keep (only g) w1 w2 := by first | exact hk2 | exact hk2.al | exact hk2.al.al
      have k23 : Keep (only g) w2 w3 := by first | exact hk3 | exact hk3.al
      have hW0s := HW0 ()
      have hd1' : (g1 = g ∧ c1 = c) ∨ w.heap.size < g1 := by
        rcases hd1 with h | ⟨h, _⟩
        · exact Or.inl h
        · right; simp only [World.size_alloc, World.size_drew] at h q1; omega
      have hd2' : (g2 = g ∧ c2 = c) ∨ w.heap.size < g2 := by
        rcases hd2 with h | ⟨h, _⟩
        · exact Or.inl h
        · right; (try simp only [World.size_alloc, World.size_drew] at h); (try simp only [World.size_alloc, World.size_drew] at q1); omega
      have hd3' : (g3 = g ∧ c3 = c) ∨ w.heap.size < g3 := by
        rcases hd3 with h | ⟨h, _⟩
        · exact Or.inl h
        · right; (try simp only [World.size_alloc, World.size_drew] at h); (try simp only [World.size_alloc, World.size_drew] at q1); (try simp only [World.size_alloc, World.size_drew] at q2); omega
      have hz3 : w.heap.size < w3.heap.size := by (try simp only [World.size_alloc, World.size_drew] at q1); (try simp only [World.size_alloc, World.size_drew] at q2); (try simp only [World.size_alloc, World.size_drew] at q3); omega
      have HM : Unit → Mid _ _ _ _ _ _ _ _ := fun _ => mid_of (held_in (by assumption)) hgl (HZ ()) hz3 hcl hb1 hc1 hd1' k12 hb2 hc2 hd2' k23 hb3 hc3 hd3'
      clear hb1 hb2 hb3 hk1 hk2 hk3 hd1 hd2 hd3 hd1' hd2' hd3' k12 k23 hz3 q1 q2 q3
      go_wp2_with fail
      go_meet
      case rel => exact ⟨_, _, rfl, HM ()⟩
  case rest =>
    obtain ⟨S, n0, rfl, hM⟩ := hcut
    have HM : Unit → Mid w wc g zb nb l.length n0 S := fun _ => hM
    have st0 : StE wc wc S nb 0 := ⟨Keep.refl _ _, hM.ok, fun j t hj => by omega⟩
    have HST0 : Unit → StE wc wc S nb 0 := fun _ => st0
    have HSL : Unit → ∀ t ∈ S, (t.n : Int) ≤ 5864062014703 := fun _ t ht => by have := (HM ()).sl t ht; have := HLN (); omega
    clear hM st0 z0 z1 z2
    go_wp2_with fail
    go_loopw [6] (fun j wr => ∃ k : Nat, k ≤ 4 ∧ j = .int .i64 (k : Int) ∧ StE wc wr S nb k) (fun j _ => 4 - (intOf j).toNat)
    case atStart => exact ⟨0, by omega, rfl, HST0 ()⟩
    case round =>
      obtain ⟨k, hk, rfl, hst⟩ := hrel
      by_cases hk4 : k < 4
      · obtain ⟨t, ht⟩ : ∃ t, S[k]? = some t := ⟨S[k]'(by rw [(HM ()).four]; exact hk4), List.getElem?_eq_getElem _⟩
        have htm : t ∈ S := List.mem_of_getElem? ht
        have hcell : wr.cell? ⟨n0, k, none⟩ = some t.val := by
          have := ((HM ()).blk.keep hst.keep (fun ⟨u, hu, hb⟩ => ((HM ()).ne u hu _ hb).1 rfl)).cell k
          rw [this, List.getElem?_toArray, List.getElem?_map, ht]; rfl
        have hkI : (k : Int) < 4 := by omega
        cases hb : t.b with
        | none =>
          have hv : t.val = .slice none 0 0 := by unfold Lst.val; rw [hb]
          rw [hv] at hcell
          have hmk : t.markedE wr nb := by unfold Lst.markedE; rw [hb]; trivial
          have st1 := hst.next t ht hmk
          have HST : Unit → StE wc wr S nb (k + 1) := fun _ => st1
          clear hst st1 hmk hv hb ht htm
          go_wp2_with fail
          go_loopw [7] (fun p wi => p = .int .i64 0 ∧ wi = wr) (fun _ _ => 0)
          case atStart => exact ⟨rfl, rfl⟩
          case round =>
            obtain ⟨rfl, rfl⟩ := hrel
            go_wp2
            go_roundw
            case rel => exact ⟨k + 1, by omega, by go_num, HST ()⟩
            case measure => simp [intOf]; omega
        | some g' =>
          have hv : t.val = .slice (some ⟨g', 0, none⟩) t.n t.c := by unfold Lst.val; rw [hb]
          have hsl := HSL () t htm
          have hdone : ∀ wi, EMarked wi g' nb t.n → t.markedE wi nb := fun wi h => by unfold Lst.markedE; rw [hb]; exact h
          have HD : Unit → ∀ wi, EMarked wi g' nb t.n → t.markedE wi nb := fun _ => hdone
          have HT : Unit → S[k]? = some t ∧ t ∈ S ∧ t.b = some g' := fun _ => ⟨ht, htm, hb⟩
          have HV : Unit → t.val = .slice (some ⟨g', 0, none⟩) t.n t.c := fun _ => hv
          have HST : Unit → StE wc wr S nb k := fun _ => hst
          rw [hv] at hcell
          clear hst hdone ht htm hb hv
          go_wp2_with fail
          go_loopw [7] (fun p wi => ∃ q : Nat, q ≤ t.n ∧ p = .int .i64 (q : Int) ∧ StE wc wi S nb k ∧ EMarked wi g' nb q) (fun p _ => t.n - (intOf p).toNat)
          case atStart => exact ⟨0, by omega, rfl, HST (), fun p hp => by omega⟩
          case round =>
            obtain ⟨q, hq, rfl, hst, hmk⟩ := hrel
            clear hcell HST
            have hcell : wr.cell? ⟨n0, k, none⟩ = some (.slice (some ⟨g', 0, none⟩) t.n t.c) := by
              have := ((HM ()).blk.keep hst.keep (fun ⟨u, hu, hb⟩ => ((HM ()).ne u hu _ hb).1 rfl)).cell k
              rw [this, List.getElem?_toArray, List.getElem?_map, (HT ()).1, ← HV ()]; rfl
            have hroom : Room wr g' 30 (t.n * 3) := by
              have := hst.ok t (HT ()).2.1
              unfold Lst.okE at this
              rw [(HT ()).2.2] at this
              exact this
            by_cases hqt : q < t.n
            · have hzz := (HM ()).z.keep hst.keep (fun ⟨u, hu, hb⟩ => ((HM ()).ne u hu _ hb).2 rfl)
              have z0 := hzz.cell 0
              have z1 := hzz.cell 1
              have z2 := hzz.cell 2
              simp [Ed.cells, eMark] at z0 z1 z2
              obtain ⟨v0, hv0⟩ := hroom.some (q * 3) (by omega)
              obtain ⟨v1, hv1⟩ := hroom.some (q * 3 + 1) (by omega)
              obtain ⟨v2, hv2⟩ := hroom.some (q * 3 + 2) (by omega)
              have f0 := hroom.frozen (q * 3)
              have f1 := hroom.frozen (q * 3 + 1)
              have f2 := hroom.frozen (q * 3 + 2)
              have s2 := hst.put g' q ⟨t, (HT ()).2.1, (HT ()).2.2⟩
              have m2 := hmk.more (hroom.less (by omega))
              unfold put3 at s2 m2
              rw [emk0, emk1, emk2] at s2 m2
              have HS2 : Unit → StE wc _ S nb k := fun _ => s2
              have HM2 : Unit → EMarked _ g' nb (q + 1) := fun _ => m2
              have hqI : (q : Int) < (t.n : Int) := by omega
              clear hst hmk hroom s2 m2 hzz
              go_wp2_with fail
              go_still_tail 7, (by kernel_rfl)
              go_wp2
              go_roundw
              case rel => exact ⟨q + 1, by omega, by go_num, (HS2 ()).drew, HM2 ()⟩
              case measure => simp [intOf]; omega
            · have eq : q = t.n := by omega
              subst eq
              have HS2 : Unit → StE wc wr S nb (k + 1) := fun _ => hst.next t (HT ()).1 (HD () wr hmk)
              clear hst hmk hroom
              go_wp2
              go_roundw
              case rel => exact ⟨k + 1, by omega, by go_num, HS2 ()⟩
              case measure => simp [intOf]; omega
      · have e4 : k = 4 := by omega
        subst e4
        have hM := HM ()
        have hex : ∀ b, (∃ t ∈ S, t.b = some b) → b = g ∨ w.heap.size ≤ b := fun b ⟨t, ht, hb⟩ => hM.new t ht b hb
        have k1 : Keep (only g) w wr := hM.keep.trans' hst.keep (fun i hi e => by rcases hex i e with h | h; exact h; omega)
        have byb := (HYB ()).keep k1 (fun e => hyg e)
        have hcy := byb.cell 3
        have hfy := byb.frozen 3
        simp at hcy
        have hzr := k1.size
        have hkr := hst.keep.size
        have bnb := hM.blk.keep hst.keep (fun ⟨u, hu, hb⟩ => (hM.ne u hu _ hb).1 rfl)
        have hmk : ∀ t ∈ S, t.markedE wr nb := fun t ht => by
          obtain ⟨j, hj, e⟩ := List.getElem_of_mem ht
          exact hst.done j t (by have := hM.four; omega) (by rw [List.getElem?_eq_getElem hj, e])
        have hbl : ∀ t ∈ S, ∀ b, t.b = some b → b < wr.heap.size := fun t ht b hb => by
          have := hst.ok t ht
          unfold Lst.okE at this
          rw [hb] at this
          exact this.lt
        have HF : Unit → Blk wr yb #[p0, p1, p2, .slice b0 nb cb, p4, p5, p6, p7] 73 ∧ Keep (only g) w wr ∧ Blk wr n0 (S.map Lst.val).toArray 26 ∧ (∀ t ∈ S, t.markedE wr nb) ∧ (∀ t ∈ S, ∀ b, t.b = some b → b < wr.heap.size) := fun _ => ⟨byb, k1, bnb, hmk, hbl⟩
        clear hst byb bnb hmk hbl hex k1 hM
        rcases HRA () with ⟨rfl, rfl, rfl, rfl⟩ | ⟨ab, rfl, hva, hvl, hab⟩
        · clear HRA
          go_wp2_with (at_builtin; refine wpList_append_new _ rfl (.tmp 58) (.tmp 60) 65 rfl 109 (.slice none 0 0) 1 24 Tryz.underlying65 rolls_info rfl rfl ⟨wr.heap.size, 0, none⟩ 1 1 (by omega) rfl [.slice (some ⟨n0, 0, none⟩) 4 4] rfl (cells_elist wr [.slice (some ⟨n0, 0, none⟩) 4 4] 109 _ rfl) (by omega) (by omega) ?_; intro c' w4 hb4 hc4 hk4; have hcy4 := ((((HF ()).1.old _).keep hk4 (fun e => e)).cell 3); have hfy4 := ((((HF ()).1.old _).keep hk4 (fun e => e)).frozen 3); simp at hcy4)
          go_end0
          obtain ⟨byb, k1, bnb, hmk, hbl⟩ := HF ()
          rw [World.size_alloc] at hb4
          exact ⟨rfl, S, n0, wr.heap.size + 1, c', edges_end (G := only g) byb hyg hyl k1 bnb (HM ()).far (HM ()).four (fun t ht => by have := HSL () t ht; omega) hmk hbl (HM ()).new (fun b e => by cases e) (Or.inr rfl) (hk4.mono (fun i hi e => e.elim)) hb4⟩
        · have hvr := hva.keep (HF ()).2.1 (fun e => hab (Or.inl e))
          have habl := hva.lt
          have hna3 := HNB ()
          have HV : Unit → (VB.length = nb ∧ ¬ (ab = g ∨ ab = yb)) := fun _ => ⟨hvl, hab⟩
          clear HRA hva hvl hab
          go_wp2_with (at_builtin; refine wpList_append_any _ rfl (.tmp 58) (.tmp 60) 65 rfl 109 (.slice none 0 0) 1 24 Tryz.underlying65 rolls_info rfl ab nb cb rfl VB (by rw [(HV ()).1]; omega) (hvr.alloc _) ⟨wr.heap.size, 0, none⟩ 1 1 rfl [.slice (some ⟨n0, 0, none⟩) 4 4] rfl (cells_elist wr [.slice (some ⟨n0, 0, none⟩) 4 4] 109 _ rfl) (by intro u hu; simp at hu; subst hu; rfl) (by omega) (by omega) ?_; intro ab' c' w4 hb4 hc4 hd4 hk4; have hcy4 := ((((HF ()).1.old _).keep hk4 (fun e => (HV ()).2 (Or.inr e.symm))).cell 3); have hfy4 := ((((HF ()).1.old _).keep hk4 (fun e => (HV ()).2 (Or.inr e.symm))).frozen 3); simp at hcy4)
          go_end0
          obtain ⟨byb, k1, bnb, hmk, hbl⟩ := HF ()
          exact ⟨rfl, S, n0, ab', c', edges_end (G := only g) byb hyg hyl k1 bnb (HM ()).far (HM ()).four (fun t ht => by have := HSL () t ht; omega) hmk hbl (HM ()).new (fun b e => by cases e; exact ⟨fun e => (HV ()).2 (Or.inl e), fun e => (HV ()).2 (Or.inr e), habl⟩) (by rcases hd4 with ⟨rfl, _⟩ | ⟨rfl, _⟩; exact Or.inl rfl; exact Or.inr (World.size_alloc _ _)) (hk4.mono (fun i hi e => by simp only [only] at e; rw [e])) hb4⟩
end Go.Proofs.YtlfijfodklhplaaGreat
