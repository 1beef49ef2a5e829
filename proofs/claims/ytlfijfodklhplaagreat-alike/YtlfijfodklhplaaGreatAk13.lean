import Derived.Test.YtlfijfodklhplaaGreatAk12
/- The heap: a bag of things, as far as is wanted here. -/
namespace Go.Proofs.YtlfijfodklhplaaGreat.HI
open Go.RowKit
set_option linter.unusedVariables false
set_option linter.unusedSimpArgs false

/-- The same things, in whatever order. -/
def SameT (L' L : List Th) : Prop := L'.length = L.length ∧ ∀ x, x ∈ L' ↔ x ∈ L
theorem SameT.refl (L : List Th) : SameT L L := ⟨rfl, fun _ => Iff.rfl⟩
theorem SameT.trans {L L' L'' : List Th} (h : SameT L'' L') (h' : SameT L' L) : SameT L'' L := ⟨h.1.trans h'.1, fun x => (h.2 x).trans (h'.2 x)⟩
theorem sameT_swap {L : List Th} {i j : Nat} {x y : Th} (hi : L[i]? = some x) (hj : L[j]? = some y) (hij : i ≠ j) : SameT ((L.set i y).set j x) L := by
  refine ⟨by simp, fun z => ?_⟩
  have hil := (List.getElem?_eq_some_iff.1 hi).1
  have hjl := (List.getElem?_eq_some_iff.1 hj).1
  constructor
  · intro h
    obtain ⟨k, hk⟩ := List.getElem?_of_mem h
    rw [List.getElem?_set] at hk
    split at hk
    · rename_i e
      rw [List.length_set, if_pos hjl] at hk
      cases hk
      exact List.mem_of_getElem? hi
    · rw [List.getElem?_set] at hk
      split at hk
      · first
          | (cases hk; exact List.mem_of_getElem? hj)
          | (rw [if_pos hil] at hk; cases hk; exact List.mem_of_getElem? hj)
      · exact List.mem_of_getElem? hk
  · intro h
    obtain ⟨k, hk⟩ := List.getElem?_of_mem h
    by_cases e1 : k = i
    · subst e1
      rw [hi] at hk
      cases hk
      exact List.mem_of_getElem? (i := j) (by rw [List.getElem?_set, if_pos rfl, List.length_set, if_pos hjl])
    · by_cases e2 : k = j
      · subst e2
        rw [hj] at hk
        cases hk
        exact List.mem_of_getElem? (i := i) (by rw [List.getElem?_set, if_neg (Ne.symm hij), List.getElem?_set, if_pos rfl, if_pos hil])
      · exact List.mem_of_getElem? (i := k) (by rw [List.getElem?_set, if_neg (Ne.symm e2), List.getElem?_set, if_neg (Ne.symm e1)]; exact hk)

/-- The pile as an interface. -/
abbrev ifv (hb ho : Nat) : Value := .iface 302 (.pointer (some ⟨hb, ho, none⟩))

/-- How the pile's methods are found. -/
theorem load_pile (hb ho : Nat) (a : Option Addr) (n c : Nat) (w : World) (h : w.cell? ⟨hb, ho, none⟩ = some (.slice a n c)) : (loadVar 253 ⟨hb, ho, none⟩).run Tryz.prog w = .ok (.slice a n c) w := by
  unfold loadVar
  go_simp
theorem wrap_chk (P : Program) (xt : TypeId) (ad : Addr) (nm : String) (w : World) : (Builtin.ssaWrapNilChk_ #[xt] xt #[.pointer (some ad), strVal "", strVal nm]).run P w = .ok (.pointer (some ad)) w := rfl
theorem less_at (k hb ho : Nat) (a : Option Addr) (n c : Nat) (w : World) (h : w.cell? ⟨hb, ho, none⟩ = some (.slice a n c)) : (method (k + 1) 302 (.pointer (some ⟨hb, ho, none⟩)) "Less").run Tryz.prog w = .ok (251, .slice a n c) w := by
  have hl := load_pile hb ho a n c w h
  have hf : (Tryz.t302.methods.find? (fun x => x.name == "Less")).map (fun m => (m.path, m.func)) = some (#[], some (251, false)) := by kernel_rfl
  obtain ⟨m, hm, hp⟩ := Option.map_eq_some_iff.1 hf
  simp only [Prod.mk.injEq] at hp
  unfold method
  go_simp
  unfold follow receiverAt
  generalize ("Less".splitOn ".").getLast?.getD "Less" = nm
  have hc := wrap_chk Tryz.prog 302 ⟨hb, ho, none⟩ nm w
  unfold Place.get
  go_simp
theorem swap_at (k hb ho : Nat) (a : Option Addr) (n c : Nat) (w : World) (h : w.cell? ⟨hb, ho, none⟩ = some (.slice a n c)) : (method (k + 1) 302 (.pointer (some ⟨hb, ho, none⟩)) "Swap").run Tryz.prog w = .ok (252, .slice a n c) w := by
  have hl := load_pile hb ho a n c w h
  have hf : (Tryz.t302.methods.find? (fun x => x.name == "Swap")).map (fun m => (m.path, m.func)) = some (#[], some (252, false)) := by kernel_rfl
  obtain ⟨m, hm, hp⟩ := Option.map_eq_some_iff.1 hf
  simp only [Prod.mk.injEq] at hp
  unfold method
  go_simp
  unfold follow receiverAt
  generalize ("Swap".splitOn ".").getLast?.getD "Swap" = nm
  have hc := wrap_chk Tryz.prog 302 ⟨hb, ho, none⟩ nm w
  unfold Place.get
  go_simp
theorem len_at (k hb ho : Nat) (a : Option Addr) (n c : Nat) (w : World) (h : w.cell? ⟨hb, ho, none⟩ = some (.slice a n c)) : (method (k + 1) 302 (.pointer (some ⟨hb, ho, none⟩)) "Len").run Tryz.prog w = .ok (250, .slice a n c) w := by
  have hl := load_pile hb ho a n c w h
  have hf : (Tryz.t302.methods.find? (fun x => x.name == "Len")).map (fun m => (m.path, m.func)) = some (#[], some (250, false)) := by kernel_rfl
  obtain ⟨m, hm, hp⟩ := Option.map_eq_some_iff.1 hf
  simp only [Prod.mk.injEq] at hp
  unfold method
  go_simp
  unfold follow receiverAt
  generalize ("Len".splitOn ".").getLast?.getD "Len" = nm
  have hc := wrap_chk Tryz.prog 302 ⟨hb, ho, none⟩ nm w
  unfold Place.get
  go_simp
theorem push_at (k hb ho : Nat) (w : World) : (method (k + 1) 302 (.pointer (some ⟨hb, ho, none⟩)) "Push").run Tryz.prog w = .ok (254, .pointer (some ⟨hb, ho, none⟩)) w := by kernel_rfl
theorem pop_at (k hb ho : Nat) (w : World) : (method (k + 1) 302 (.pointer (some ⟨hb, ho, none⟩)) "Pop").run Tryz.prog w = .ok (253, .pointer (some ⟨hb, ho, none⟩)) w := by kernel_rfl

set_option maxRecDepth 100000 in
set_option maxHeartbeats 2000000 in
/-- What is no lighter than its parent stays. -/
theorem up_stay (hb ho : Nat) (cs : Array Value) (ty : TypeId) (pb c n : Nat) (L : List Th) (j0 : Nat) (w : World) (hbk : Blk w hb cs ty) (hcs : cs[ho]? = some (.slice (some ⟨pb, 0, none⟩) n c)) (hne : hb ≠ pb) (ht : TBuf w pb L c) (hl : L.length = n) (hj0 : j0 < n) (hlen : (n : Int) < 1000000)
    (hstay : ∀ x y, L[j0]? = some x → L[(j0 - 1) / 2]? = some y → y.w ≤ x.w) :
    Calls Tryz.prog 220 #[ifv hb ho, .int .i64 (j0 : Int)] w fun e w' => e = .returned (.tuple #[]) ∧ Keep nil w w' := by
  have HB : Unit → Blk w hb cs ty ∧ cs[ho]? = some (.slice (some ⟨pb, 0, none⟩) n c) := fun _ => ⟨hbk, hcs⟩
  have HT : Unit → TBuf w pb L c ∧ L.length = n ∧ j0 < n ∧ (n : Int) < 1000000 ∧ (∀ x y, L[j0]? = some x → L[(j0 - 1) / 2]? = some y → y.w ≤ x.w) := fun _ => ⟨ht, hl, hj0, hlen, hstay⟩
  clear hbk hcs ht hl hj0 hlen hstay
  go_enter Tryz.func220, Tryz.ntmps220
  go_wp2_with fail
  go_loopw [1] (fun v wr => v = .int .i64 (j0 : Int) ∧ wr = w) (fun v _ => 0)
  case atStart => exact ⟨rfl, rfl⟩
  case round =>
    obtain ⟨rfl, rfl⟩ := hrel
    have hcell := ((HB ()).1.cell ho).trans (HB ()).2
    have hjI : (j0 : Int) < (n : Int) := by have := HT (); omega
    by_cases hj : j0 = 0
    · subst hj
      go_wp2
      go_end0
      exact ⟨rfl, Keep.refl _ _⟩
    · obtain ⟨i, hi⟩ : ∃ i, i = (j0 - 1) / 2 := ⟨_, rfl⟩
      have hij : i < j0 := by omega
      have hq1 : wrap64 ((j0 : Int) - 1) = ((j0 - 1 : Nat) : Int) := by unfold wrap64; have := HT (); omega
      have hq2 : wrap64 (((j0 - 1 : Nat) : Int) / 2) = (i : Int) := by unfold wrap64; have := HT (); omega
      have hq3 : (((j0 - 1 : Nat) : Int)).tdiv 2 = ((j0 - 1 : Nat) : Int) / 2 := rfl
      have hn1 : ¬ i = j0 := by omega
      obtain ⟨x, hx⟩ : ∃ x, L[j0]? = some x := ⟨_, List.getElem?_eq_getElem (by have := HT (); omega)⟩
      obtain ⟨y, hy⟩ : ∃ y, L[i]? = some y := ⟨_, List.getElem?_eq_getElem (by have := HT (); omega)⟩
      have hlt3 : y.w ≤ x.w := (HT ()).2.2.2.2 x y hx (by rw [← hi]; exact hy)
      have hm := fun k => less_at k hb ho _ _ _ wr hcell
      have HXY : Unit → L[j0]? = some x ∧ L[i]? = some y := fun _ => ⟨hx, hy⟩
      have hiI : (i : Int) < (n : Int) := by omega
      have hn2 : ((i : Int) == (j0 : Int)) = false := by simp; omega
      clear hx hy hi
      go_wp2_with fail
      refine (less_any pb n c L j0 i x y (HXY ()).1 (HXY ()).2 wr (HT ()).1 hjI hiI).mono ?_
      rintro e w1 ⟨rfl, m, rfl⟩
      have kd : Keep nil wr (wr.drewN m) := (Keep.refl nil wr).drewN m
      have HKD : Unit → Keep nil wr (wr.drewN m) := fun _ => kd
      clear hm hcell kd
      have hlt2 : decide (x.w < y.w) = false := by simp only [decide_eq_false_iff_not]; omega
      go_wp2
      go_end0
      exact ⟨rfl, HKD ()⟩
end Go.Proofs.YtlfijfodklhplaaGreat.HI
/- The heap: down, and the calls. -/
namespace Go.Proofs.YtlfijfodklhplaaGreat.HI
open Go.RowKit
set_option linter.unusedVariables false
set_option linter.unusedSimpArgs false

/-- The same things, those from n on in their places. -/
def SameU (n : Nat) (L' L : List Th) : Prop := SameT L' L ∧ ∀ k, n ≤ k → L'[k]? = L[k]?
theorem SameU.refl (n : Nat) (L : List Th) : SameU n L L := ⟨SameT.refl L, fun _ _ => rfl⟩
theorem SameU.trans {n : Nat} {L L' L'' : List Th} (h : SameU n L'' L') (h' : SameU n L' L) : SameU n L'' L := ⟨h.1.trans h'.1, fun k hk => (h.2 k hk).trans (h'.2 k hk)⟩
theorem sameU_swap {n : Nat} {L : List Th} {i j : Nat} {x y : Th} (hi : L[i]? = some x) (hj : L[j]? = some y) (hij : i ≠ j) (hin : i < n) (hjn : j < n) : SameU n ((L.set i y).set j x) L :=
  ⟨sameT_swap hi hj hij, fun k hk => by rw [List.getElem?_set_ne (by omega), List.getElem?_set_ne (by omega)]⟩

set_option maxRecDepth 100000 in
set_option maxHeartbeats 4000000 in
theorem down_any (hb ho : Nat) (cs : Array Value) (ty : TypeId) (pb c N : Nat) (L : List Th) (n : Nat) (w : World) (hbk : Blk w hb cs ty) (hcs : cs[ho]? = some (.slice (some ⟨pb, 0, none⟩) N c)) (hne : hb ≠ pb) (ht : TBuf w pb L c) (hl : L.length = N) (hn : n ≤ N) (hlen : (N : Int) < 1000000) :
    Calls Tryz.prog 186 #[ifv hb ho, .int .i64 0, .int .i64 (n : Int)] w fun e w' => (∃ b, e = .returned (.bool b)) ∧ ∃ L', SameU n L' L ∧ TBuf w' pb L' c ∧ Keep (only pb) w w' := by
  have HB : Unit → Blk w hb cs ty ∧ cs[ho]? = some (.slice (some ⟨pb, 0, none⟩) N c) := fun _ => ⟨hbk, hcs⟩
  have HT : Unit → TBuf w pb L c ∧ L.length = N ∧ n ≤ N ∧ (N : Int) < 1000000 := fun _ => ⟨ht, hl, hn, hlen⟩
  clear hbk hcs ht hl hn hlen
  go_enter Tryz.func186, Tryz.ntmps186
  go_wp2_with fail
  go_loopw [7] (fun v wr => ∃ (i : Nat) (L' : List Th), (i < n ∨ i = 0) ∧ v = .int .i64 (i : Int) ∧ SameU n L' L ∧ TBuf wr pb L' c ∧ Keep (only pb) w wr) (fun v _ => n - (intOf v).toNat)
  case atStart => exact ⟨0, L, Or.inr rfl, rfl, SameU.refl n L, (HT ()).1, Keep.refl _ _⟩
  case round =>
    obtain ⟨i, L', hin, rfl, hsm, hbuf, hkp⟩ := hrel
    have HR : Unit → SameU n L' L ∧ TBuf wr pb L' c ∧ Keep (only pb) w wr := fun _ => ⟨hsm, hbuf, hkp⟩
    have hcell := (((HB ()).1.keep hkp (fun e => hne e)).cell ho).trans (HB ()).2
    have hi6 : (i : Int) < 1000000 := by have := HT (); omega
    have hw1 : wrap64 (2 * (i : Int)) = 2 * (i : Int) := by unfold wrap64; omega
    have hw2 : wrap64 (2 * (i : Int) + 1) = 2 * (i : Int) + 1 := by unfold wrap64; omega
    have hw3 : wrap64 (2 * (i : Int) + 1 + 1) = 2 * (i : Int) + 1 + 1 := by unfold wrap64; omega
    have HI6 : Unit → (i : Int) < 1000000 := fun _ => hi6
    clear hsm hbuf hkp hi6
    by_cases hj1 : 2 * i + 1 < n
    · have hj1I : 2 * (i : Int) + 1 < (n : Int) := by omega
      have hj1b : (0 : Int) ≤ 2 * (i : Int) + 1 := by omega
      have hd1 : decide ((n : Int) ≤ 2 * (i : Int) + 1) = false := by simp; omega
      have hd2 : decide (2 * (i : Int) + 1 < 0) = false := by simp; omega
      have hLl : ∀ k, k < n → ∃ x, L'[k]? = some x := fun k hk => ⟨_, List.getElem?_eq_getElem (by have := (HR ()).1.1.1; have := HT (); omega)⟩
      obtain ⟨xi, hxi⟩ := hLl i (by omega)
      obtain ⟨x1, hx1⟩ := hLl (2 * i + 1) hj1
      have c1 : ((2 * i + 1 : Nat) : Int) = 2 * (i : Int) + 1 := by omega
      have c2 : ((2 * i + 1 + 1 : Nat) : Int) = 2 * (i : Int) + 1 + 1 := by omega
      have hm0 := fun k => less_at k hb ho _ _ _ wr hcell
      by_cases hj2 : 2 * i + 1 + 1 < n
      · have hj2I : 2 * (i : Int) + 1 + 1 < (n : Int) := by omega
        obtain ⟨x2, hx2⟩ := hLl (2 * i + 1 + 1) hj2
        have HL : Unit → _ := fun _ => less_any pb N c L' (2 * i + 1 + 1) (2 * i + 1) x2 x1 hx2 hx1 wr (HR ()).2.1 (by have := HT (); omega) (by have := HT (); omega)
        have HX : Unit → L'[i]? = some xi ∧ L'[2 * i + 1]? = some x1 ∧ L'[2 * i + 1 + 1]? = some x2 := fun _ => ⟨hxi, hx1, hx2⟩
        clear hLl hxi hx1 hx2
        go_wp2_with fail
        rw [c1, c2] at HL
        refine (HL ()).mono ?_
        rintro e w3 ⟨rfl, m3, hw3'⟩
        have kd3 : Keep nil wr w3 := by rw [hw3']; exact (Keep.refl nil wr).drewN m3
        clear hw3'
        have hcell3 : w3.cell? ⟨hb, ho, none⟩ = some (.slice (some ⟨pb, 0, none⟩) N c) := (kd3.cell hb ho (World.block_lt_of_cell? wr _ hcell) (fun e => e)).trans hcell
        have hm3 := fun k => less_at k hb ho _ _ _ w3 hcell3
        have HKJ : Unit → Keep nil wr w3 := fun _ => kd3
        clear kd3 HL hm0
        by_cases hl3 : x2.w < x1.w
        · go_wp2_with fail
          rw [← c2]
          obtain ⟨j, hj⟩ : ∃ j, j = 2 * i + 1 + 1 := ⟨_, rfl⟩
          obtain ⟨xj, hxj⟩ : ∃ xj, xj = x2 := ⟨_, rfl⟩
          have HJ : Unit → L'[j]? = some xj ∧ L'[i]? = some xi ∧ (i < j ∧ j < n) ∧ (j : Int) < (N : Int) ∧ (i : Int) < (N : Int) ∧ i ≠ j := fun _ => by
            rw [hj, hxj]; exact ⟨(HX ()).2.2, (HX ()).1, by omega, by have := HT (); omega, by have := HT (); omega, by omega⟩
          rw [← hj]
          clear hj hxj c1 c2
          refine (less_any pb N c L' j i xj xi (HJ ()).1 (HJ ()).2.1 w3 ((HR ()).2.1.keep (HKJ ()) (fun e => e)) (HJ ()).2.2.2.1 (HJ ()).2.2.2.2.1).mono ?_
          rintro e w4 ⟨rfl, m4, hw4⟩
          have kd4 : Keep nil wr w4 := by rw [hw4]; exact (HKJ ()).trans ((Keep.refl nil w3).drewN m4)
          clear hw4
          have hcell4 : w4.cell? ⟨hb, ho, none⟩ = some (.slice (some ⟨pb, 0, none⟩) N c) := (kd4.cell hb ho (World.block_lt_of_cell? wr _ hcell) (fun e => e)).trans hcell
          have hm4 := fun k => swap_at k hb ho _ _ _ w4 hcell4
          have HK4 : Unit → Keep nil wr w4 := fun _ => kd4
          clear kd4
          by_cases hlt : xj.w < xi.w
          · go_wp2_with fail
            refine (swap_any pb N c L' i j xi xj (HJ ()).2.1 (HJ ()).1 _ ((HR ()).2.1.keep (HK4 ()) (fun e => e)) (HJ ()).2.2.2.2.1 (HJ ()).2.2.2.1 (HJ ()).2.2.2.2.2).mono ?_
            rintro e w5 ⟨rfl, hb5, hk5⟩
            have HP : Unit → SameU n ((L'.set i xj).set j xi) L ∧ TBuf w5 pb ((L'.set i xj).set j xi) c ∧ Keep (only pb) w w5 := fun _ => ⟨(sameU_swap (HJ ()).2.1 (HJ ()).1 (HJ ()).2.2.2.2.2 (by have := (HJ ()).2.2.1; omega) (by have := (HJ ()).2.2.1; omega)).trans (HR ()).1, hb5, ((HR ()).2.2.trans ((HK4 ()).mono (fun _ _ e => e.elim))).trans hk5⟩
            clear hb5 hk5 hcell4 hm4
            go_wp2
            go_roundw
            case rel => exact ⟨j, _, Or.inl (HJ ()).2.2.1.2, rfl, HP ()⟩
            case measure => simp [intOf]; have := (HJ ()).2.2.1; omega
          · have hlt2 : decide (xj.w < xi.w) = false := by simp only [decide_eq_false_iff_not]; exact hlt
            have hlt3 : xi.w ≤ xj.w := by omega
            clear hlt
            go_wp2
            go_ret
            exact ⟨⟨_, rfl⟩, L', (HR ()).1, (HR ()).2.1.keep (HK4 ()) (fun e => e), (HR ()).2.2.trans ((HK4 ()).mono (fun _ _ e => e.elim))⟩
        · have hl4 : decide (x2.w < x1.w) = false := by simp only [decide_eq_false_iff_not]; exact hl3
          have hl5 : x1.w ≤ x2.w := by omega
          clear hl3
          go_wp2_with fail
          rw [← c1]
          obtain ⟨j, hj⟩ : ∃ j, j = 2 * i + 1 := ⟨_, rfl⟩
          obtain ⟨xj, hxj⟩ : ∃ xj, xj = x1 := ⟨_, rfl⟩
          have HJ : Unit → L'[j]? = some xj ∧ L'[i]? = some xi ∧ (i < j ∧ j < n) ∧ (j : Int) < (N : Int) ∧ (i : Int) < (N : Int) ∧ i ≠ j := fun _ => by
            rw [hj, hxj]; exact ⟨(HX ()).2.1, (HX ()).1, by omega, by have := HT (); omega, by have := HT (); omega, by omega⟩
          rw [← hj]
          clear hj hxj c1 c2
          refine (less_any pb N c L' j i xj xi (HJ ()).1 (HJ ()).2.1 w3 ((HR ()).2.1.keep (HKJ ()) (fun e => e)) (HJ ()).2.2.2.1 (HJ ()).2.2.2.2.1).mono ?_
          rintro e w4 ⟨rfl, m4, hw4⟩
          have kd4 : Keep nil wr w4 := by rw [hw4]; exact (HKJ ()).trans ((Keep.refl nil w3).drewN m4)
          clear hw4
          have hcell4 : w4.cell? ⟨hb, ho, none⟩ = some (.slice (some ⟨pb, 0, none⟩) N c) := (kd4.cell hb ho (World.block_lt_of_cell? wr _ hcell) (fun e => e)).trans hcell
          have hm4 := fun k => swap_at k hb ho _ _ _ w4 hcell4
          have HK4 : Unit → Keep nil wr w4 := fun _ => kd4
          clear kd4
          by_cases hlt : xj.w < xi.w
          · go_wp2_with fail
            refine (swap_any pb N c L' i j xi xj (HJ ()).2.1 (HJ ()).1 _ ((HR ()).2.1.keep (HK4 ()) (fun e => e)) (HJ ()).2.2.2.2.1 (HJ ()).2.2.2.1 (HJ ()).2.2.2.2.2).mono ?_
            rintro e w5 ⟨rfl, hb5, hk5⟩
            have HP : Unit → SameU n ((L'.set i xj).set j xi) L ∧ TBuf w5 pb ((L'.set i xj).set j xi) c ∧ Keep (only pb) w w5 := fun _ => ⟨(sameU_swap (HJ ()).2.1 (HJ ()).1 (HJ ()).2.2.2.2.2 (by have := (HJ ()).2.2.1; omega) (by have := (HJ ()).2.2.1; omega)).trans (HR ()).1, hb5, ((HR ()).2.2.trans ((HK4 ()).mono (fun _ _ e => e.elim))).trans hk5⟩
            clear hb5 hk5 hcell4 hm4
            go_wp2
            go_roundw
            case rel => exact ⟨j, _, Or.inl (HJ ()).2.2.1.2, rfl, HP ()⟩
            case measure => simp [intOf]; have := (HJ ()).2.2.1; omega
          · have hlt2 : decide (xj.w < xi.w) = false := by simp only [decide_eq_false_iff_not]; exact hlt
            have hlt3 : xi.w ≤ xj.w := by omega
            clear hlt
            go_wp2
            go_ret
            exact ⟨⟨_, rfl⟩, L', (HR ()).1, (HR ()).2.1.keep (HK4 ()) (fun e => e), (HR ()).2.2.trans ((HK4 ()).mono (fun _ _ e => e.elim))⟩
      · have hj2I : (n : Int) ≤ 2 * (i : Int) + 1 + 1 := by omega
        have hd3 : decide (2 * (i : Int) + 1 + 1 < (n : Int)) = false := by simp; omega
        have HX : Unit → L'[i]? = some xi ∧ L'[2 * i + 1]? = some x1 := fun _ => ⟨hxi, hx1⟩
        have HKJ : Unit → Keep nil wr wr := fun _ => Keep.refl nil wr
        clear hLl hxi hx1
        go_wp2_with fail
        rw [← c1]
        obtain ⟨j, hj⟩ : ∃ j, j = 2 * i + 1 := ⟨_, rfl⟩
        obtain ⟨xj, hxj⟩ : ∃ xj, xj = x1 := ⟨_, rfl⟩
        have HJ : Unit → L'[j]? = some xj ∧ L'[i]? = some xi ∧ (i < j ∧ j < n) ∧ (j : Int) < (N : Int) ∧ (i : Int) < (N : Int) ∧ i ≠ j := fun _ => by
          rw [hj, hxj]; exact ⟨(HX ()).2, (HX ()).1, by omega, by have := HT (); omega, by have := HT (); omega, by omega⟩
        rw [← hj]
        have hwj : wrap64 (j : Int) = (j : Int) := by rw [hj, c1]; exact hw2
        try simp only [hwj]
        clear hj hxj c1 c2 hm0
        refine (less_any pb N c L' j i xj xi (HJ ()).1 (HJ ()).2.1 wr ((HR ()).2.1.keep (HKJ ()) (fun e => e)) (HJ ()).2.2.2.1 (HJ ()).2.2.2.2.1).mono ?_
        rintro e w4 ⟨rfl, m4, hw4⟩
        have kd4 : Keep nil wr w4 := by rw [hw4]; exact (HKJ ()).trans ((Keep.refl nil wr).drewN m4)
        clear hw4
        have hcell4 : w4.cell? ⟨hb, ho, none⟩ = some (.slice (some ⟨pb, 0, none⟩) N c) := (kd4.cell hb ho (World.block_lt_of_cell? wr _ hcell) (fun e => e)).trans hcell
        have hm4 := fun k => swap_at k hb ho _ _ _ w4 hcell4
        have HK4 : Unit → Keep nil wr w4 := fun _ => kd4
        clear kd4
        by_cases hlt : xj.w < xi.w
        · go_wp2_with fail
          refine (swap_any pb N c L' i j xi xj (HJ ()).2.1 (HJ ()).1 _ ((HR ()).2.1.keep (HK4 ()) (fun e => e)) (HJ ()).2.2.2.2.1 (HJ ()).2.2.2.1 (HJ ()).2.2.2.2.2).mono ?_
          rintro e w5 ⟨rfl, hb5, hk5⟩
          have HP : Unit → SameU n ((L'.set i xj).set j xi) L ∧ TBuf w5 pb ((L'.set i xj).set j xi) c ∧ Keep (only pb) w w5 := fun _ => ⟨(sameU_swap (HJ ()).2.1 (HJ ()).1 (HJ ()).2.2.2.2.2 (by have := (HJ ()).2.2.1; omega) (by have := (HJ ()).2.2.1; omega)).trans (HR ()).1, hb5, ((HR ()).2.2.trans ((HK4 ()).mono (fun _ _ e => e.elim))).trans hk5⟩
          clear hb5 hk5 hcell4 hm4
          go_wp2
          go_roundw
          case rel => exact ⟨j, _, Or.inl (HJ ()).2.2.1.2, rfl, HP ()⟩
          case measure => simp [intOf]; have := (HJ ()).2.2.1; omega
        · have hlt2 : decide (xj.w < xi.w) = false := by simp only [decide_eq_false_iff_not]; exact hlt
          have hlt3 : xi.w ≤ xj.w := by omega
          clear hlt
          go_wp2
          go_ret
          exact ⟨⟨_, rfl⟩, L', (HR ()).1, (HR ()).2.1.keep (HK4 ()) (fun e => e), (HR ()).2.2.trans ((HK4 ()).mono (fun _ _ e => e.elim))⟩
    · have hj1I : (n : Int) ≤ 2 * (i : Int) + 1 := by omega
      go_wp2
      go_ret
      exact ⟨⟨_, rfl⟩, L', (HR ()).1, (HR ()).2.1, (HR ()).2.2⟩
end Go.Proofs.YtlfijfodklhplaaGreat.HI
/- The heap: a bag of things, as far as is wanted here. -/
namespace Go.Proofs.YtlfijfodklhplaaGreat
open Go.RowKit
set_option linter.unusedVariables false
set_option linter.unusedSimpArgs false

/-- The same things, in whatever order. -/
def SameT (L' L : List Th) : Prop := L'.length = L.length ∧ ∀ x, x ∈ L' ↔ x ∈ L
theorem SameT.refl (L : List Th) : SameT L L := ⟨rfl, fun _ => Iff.rfl⟩
theorem SameT.trans {L L' L'' : List Th} (h : SameT L'' L') (h' : SameT L' L) : SameT L'' L := ⟨h.1.trans h'.1, fun x => (h.2 x).trans (h'.2 x)⟩
theorem sameT_swap {L : List Th} {i j : Nat} {x y : Th} (hi : L[i]? = some x) (hj : L[j]? = some y) (hij : i ≠ j) : SameT ((L.set i y).set j x) L := by
  refine ⟨by simp, fun z => ?_⟩
  have hil := (List.getElem?_eq_some_iff.1 hi).1
  have hjl := (List.getElem?_eq_some_iff.1 hj).1
  constructor
  · intro h
    obtain ⟨k, hk⟩ := List.getElem?_of_mem h
    rw [List.getElem?_set] at hk
    split at hk
    · rename_i e
      rw [List.length_set, if_pos hjl] at hk
      cases hk
      exact List.mem_of_getElem? hi
    · rw [List.getElem?_set] at hk
      split at hk
      · first
          | (cases hk; exact List.mem_of_getElem? hj)
          | (rw [if_pos hil] at hk; cases hk; exact List.mem_of_getElem? hj)
      · exact List.mem_of_getElem? hk
  · intro h
    obtain ⟨k, hk⟩ := List.getElem?_of_mem h
    by_cases e1 : k = i
    · subst e1
      rw [hi] at hk
      cases hk
      exact List.mem_of_getElem? (i := j) (by rw [List.getElem?_set, if_pos rfl, List.length_set, if_pos hjl])
    · by_cases e2 : k = j
      · subst e2
        rw [hj] at hk
        cases hk
        exact List.mem_of_getElem? (i := i) (by rw [List.getElem?_set, if_neg (Ne.symm hij), List.getElem?_set, if_pos rfl, if_pos hil])
      · exact List.mem_of_getElem? (i := k) (by rw [List.getElem?_set, if_neg (Ne.symm e2), List.getElem?_set, if_neg (Ne.symm e1)]; exact hk)

/-- The pile as an interface. -/
abbrev ifv (hb ho : Nat) : Value := .iface 239 (.pointer (some ⟨hb, ho, none⟩))

/-- How the pile's methods are found. -/
theorem load_pile (hb ho : Nat) (a : Option Addr) (n c : Nat) (w : World) (h : w.cell? ⟨hb, ho, none⟩ = some (.slice a n c)) : (loadVar 170 ⟨hb, ho, none⟩).run Tryz.prog w = .ok (.slice a n c) w := by
  unfold loadVar
  go_simp
theorem wrap_chk (P : Program) (xt : TypeId) (ad : Addr) (nm : String) (w : World) : (Builtin.ssaWrapNilChk_ #[xt] xt #[.pointer (some ad), strVal "", strVal nm]).run P w = .ok (.pointer (some ad)) w := rfl
theorem less_at (k hb ho : Nat) (a : Option Addr) (n c : Nat) (w : World) (h : w.cell? ⟨hb, ho, none⟩ = some (.slice a n c)) : (method (k + 1) 239 (.pointer (some ⟨hb, ho, none⟩)) "Less").run Tryz.prog w = .ok (245, .slice a n c) w := by
  have hl := load_pile hb ho a n c w h
  have hf : (Tryz.t239.methods.find? (fun x => x.name == "Less")).map (fun m => (m.path, m.func)) = some (#[], some (245, false)) := by kernel_rfl
  obtain ⟨m, hm, hp⟩ := Option.map_eq_some_iff.1 hf
  simp only [Prod.mk.injEq] at hp
  unfold method
  go_simp
  unfold follow receiverAt
  generalize ("Less".splitOn ".").getLast?.getD "Less" = nm
  have hc := wrap_chk Tryz.prog 239 ⟨hb, ho, none⟩ nm w
  unfold Place.get
  go_simp
theorem swap_at (k hb ho : Nat) (a : Option Addr) (n c : Nat) (w : World) (h : w.cell? ⟨hb, ho, none⟩ = some (.slice a n c)) : (method (k + 1) 239 (.pointer (some ⟨hb, ho, none⟩)) "Swap").run Tryz.prog w = .ok (246, .slice a n c) w := by
  have hl := load_pile hb ho a n c w h
  have hf : (Tryz.t239.methods.find? (fun x => x.name == "Swap")).map (fun m => (m.path, m.func)) = some (#[], some (246, false)) := by kernel_rfl
  obtain ⟨m, hm, hp⟩ := Option.map_eq_some_iff.1 hf
  simp only [Prod.mk.injEq] at hp
  unfold method
  go_simp
  unfold follow receiverAt
  generalize ("Swap".splitOn ".").getLast?.getD "Swap" = nm
  have hc := wrap_chk Tryz.prog 239 ⟨hb, ho, none⟩ nm w
  unfold Place.get
  go_simp
theorem len_at (k hb ho : Nat) (a : Option Addr) (n c : Nat) (w : World) (h : w.cell? ⟨hb, ho, none⟩ = some (.slice a n c)) : (method (k + 1) 239 (.pointer (some ⟨hb, ho, none⟩)) "Len").run Tryz.prog w = .ok (244, .slice a n c) w := by
  have hl := load_pile hb ho a n c w h
  have hf : (Tryz.t239.methods.find? (fun x => x.name == "Len")).map (fun m => (m.path, m.func)) = some (#[], some (244, false)) := by kernel_rfl
  obtain ⟨m, hm, hp⟩ := Option.map_eq_some_iff.1 hf
  simp only [Prod.mk.injEq] at hp
  unfold method
  go_simp
  unfold follow receiverAt
  generalize ("Len".splitOn ".").getLast?.getD "Len" = nm
  have hc := wrap_chk Tryz.prog 239 ⟨hb, ho, none⟩ nm w
  unfold Place.get
  go_simp
theorem push_at (k hb ho : Nat) (w : World) : (method (k + 1) 239 (.pointer (some ⟨hb, ho, none⟩)) "Push").run Tryz.prog w = .ok (249, .pointer (some ⟨hb, ho, none⟩)) w := by kernel_rfl
theorem pop_at (k hb ho : Nat) (w : World) : (method (k + 1) 239 (.pointer (some ⟨hb, ho, none⟩)) "Pop").run Tryz.prog w = .ok (248, .pointer (some ⟨hb, ho, none⟩)) w := by kernel_rfl

set_option maxRecDepth 100000 in
set_option maxHeartbeats 2000000 in
theorem up_any (hb ho : Nat) (cs : Array Value) (ty : TypeId) (pb c n : Nat) (L : List Th) (j0 : Nat) (w : World) (hbk : Blk w hb cs ty) (hcs : cs[ho]? = some (.slice (some ⟨pb, 0, none⟩) n c)) (hne : hb ≠ pb) (ht : TBuf w pb L c) (hl : L.length = n) (hj0 : j0 < n) (hlen : (n : Int) < 1000000) :
    Calls Tryz.prog 220 #[ifv hb ho, .int .i64 (j0 : Int)] w fun e w' => e = .returned (.tuple #[]) ∧ ∃ L', SameT L' L ∧ TBuf w' pb L' c ∧ Keep (only pb) w w' := by
  have HB : Unit → Blk w hb cs ty ∧ cs[ho]? = some (.slice (some ⟨pb, 0, none⟩) n c) := fun _ => ⟨hbk, hcs⟩
  have HT : Unit → TBuf w pb L c ∧ L.length = n ∧ j0 < n ∧ (n : Int) < 1000000 := fun _ => ⟨ht, hl, hj0, hlen⟩
  clear hbk hcs ht hl hj0 hlen
  go_enter Tryz.func220, Tryz.ntmps220
  go_wp2_with fail
  go_loopw [1] (fun v wr => ∃ (j : Nat) (L' : List Th), j < n ∧ v = .int .i64 (j : Int) ∧ SameT L' L ∧ TBuf wr pb L' c ∧ Keep (only pb) w wr) (fun v _ => (intOf v).toNat)
  case atStart => exact ⟨j0, L, (HT ()).2.2.1, rfl, SameT.refl L, (HT ()).1, Keep.refl _ _⟩
  case round =>
    obtain ⟨j, L', hjn, rfl, hsm, hbuf, hkp⟩ := hrel
    have HR : Unit → SameT L' L ∧ TBuf wr pb L' c ∧ Keep (only pb) w wr := fun _ => ⟨hsm, hbuf, hkp⟩
    have hcell := (((HB ()).1.keep hkp (fun e => hne e)).cell ho).trans (HB ()).2
    have hjI : (j : Int) < (n : Int) := by omega
    clear hsm hbuf hkp
    by_cases hj : j = 0
    · subst hj
      go_wp2
      go_end0
      exact ⟨rfl, L', (HR ()).1, (HR ()).2.1, (HR ()).2.2⟩
    · obtain ⟨i, hi⟩ : ∃ i, i = (j - 1) / 2 := ⟨_, rfl⟩
      have hij : i < j := by omega
      have hq1 : wrap64 ((j : Int) - 1) = ((j - 1 : Nat) : Int) := by unfold wrap64; have := HT (); omega
      have hq2 : wrap64 (((j - 1 : Nat) : Int) / 2) = (i : Int) := by unfold wrap64; have := HT (); omega
      have hq3 : (((j - 1 : Nat) : Int)).tdiv 2 = ((j - 1 : Nat) : Int) / 2 := rfl
      have hn1 : ¬ i = j := by omega
      obtain ⟨x, hx⟩ : ∃ x, L'[j]? = some x := ⟨_, List.getElem?_eq_getElem (by have := (HR ()).1.1; have := (HT ()).2.1; omega)⟩
      obtain ⟨y, hy⟩ : ∃ y, L'[i]? = some y := ⟨_, List.getElem?_eq_getElem (by have := (HR ()).1.1; have := (HT ()).2.1; omega)⟩
      have hm := fun k => less_at k hb ho _ _ _ wr hcell
      have HXY : Unit → L'[j]? = some x ∧ L'[i]? = some y := fun _ => ⟨hx, hy⟩
      have hiI : (i : Int) < (n : Int) := by omega
      have hn2 : ((i : Int) == (j : Int)) = false := by simp; omega
      clear hx hy hi
      go_wp2_with fail
      refine (less_any pb n c L' j i x y (HXY ()).1 (HXY ()).2 wr (HR ()).2.1 hjI hiI).mono ?_
      rintro e w1 ⟨rfl, m, rfl⟩
      have kd : Keep nil wr (wr.drewN m) := (Keep.refl nil wr).drewN m
      have hcell1 : (wr.drewN m).cell? ⟨hb, ho, none⟩ = some (.slice (some ⟨pb, 0, none⟩) n c) := (kd.cell hb ho (World.block_lt_of_cell? wr _ hcell) (fun e => e)).trans hcell
      have hm1 := fun k => swap_at k hb ho _ _ _ (wr.drewN m) hcell1
      have HKD : Unit → Keep nil wr (wr.drewN m) := fun _ => kd
      clear hm hcell kd
      by_cases hlt : x.w < y.w
      · go_wp2_with fail
        refine (swap_any pb n c L' i j y x (HXY ()).2 (HXY ()).1 _ ((HR ()).2.1.keep (HKD ()) (fun e => e)) hiI hjI hn1).mono ?_
        rintro e w2 ⟨rfl, hb2, hk2⟩
        have HP : Unit → SameT ((L'.set i x).set j y) L ∧ TBuf w2 pb ((L'.set i x).set j y) c ∧ Keep (only pb) w w2 := fun _ => ⟨(sameT_swap (HXY ()).2 (HXY ()).1 hn1).trans (HR ()).1, hb2, ((HR ()).2.2.trans ((HKD ()).mono (fun _ _ e => e.elim))).trans hk2⟩
        clear hb2 hk2
        go_wp2
        go_roundw
        case rel => exact ⟨i, _, by omega, rfl, HP ()⟩
        case measure => simp [intOf]; omega
      · have hlt2 : decide (x.w < y.w) = false := by simp only [decide_eq_false_iff_not]; exact hlt
        have hlt3 : y.w ≤ x.w := by omega
        clear hlt
        go_wp2
        go_end0
        exact ⟨rfl, L', (HR ()).1, (HR ()).2.1.keep (HKD ()) (fun e => e), (HR ()).2.2.trans ((HKD ()).mono (fun _ _ e => e.elim))⟩
end Go.Proofs.YtlfijfodklhplaaGreat
