import Derived.Test.YtlfijfodklhplaaGreatAk34
import Derived.Test.YtlfijfodklhplaaGreatAk10
/- Spoil. -/
namespace Go.Proofs.YtlfijfodklhplaaGreat
open Go.RowKit
set_option linter.unusedVariables false
set_option linter.unusedSimpArgs false

theorem RV.setAt {w : World} {e : TypeId} {size : Nat} {n c g o : Nat} {vs : List Value} (h : RV w e size (some ⟨g, o, none⟩) n c vs) (j : Nat) (hj : j < vs.length) (v : Value) : RV (w.setCell ⟨g, o + j, none⟩ v) e size (some ⟨g, o, none⟩) n c (vs.set j v) := by
  obtain ⟨h1, h2, h3⟩ := h
  rcases h3 with ⟨e, _⟩ | ⟨g', o', e, pre, sp, hb, hp, hc⟩
  · cases e
  · cases e
    refine ⟨by simpa using h1, h2, Or.inr ⟨g, o, rfl, pre, sp, ?_, hp, by simpa using hc⟩⟩
    have := hb.set (o + j) v
    have e2 : (pre ++ vs ++ sp).toArray.setIfInBounds (o + j) v = (pre ++ vs.set j v ++ sp).toArray := by
      apply Array.ext'
      simp only [Array.toList_setIfInBounds]
      rw [List.append_assoc, List.set_append_right _ _ (by omega), hp, show o + j - o = j by omega, List.set_append_left _ _ hj, ← List.append_assoc]
    rw [e2] at this
    exact this
theorem pkcells_set (l : List Pk) : ∀ (k : Nat) (x x' : Pk), l[k]? = some x → x'.from_ = x.from_ → x'.to_ = x.to_ → x'.slice = x.slice → pkcells (l.set k x') = (pkcells l).set (k * 4 + 3) (.bool x'.sp) := by
  induction l with
  | nil => intro k x x' h; simp at h
  | cons y t ih =>
    intro k x x' h h1 h2 h3
    have hc : ∀ (z : Pk) (r : List Pk), pkcells (z :: r) = pkcell z ++ pkcells r := fun z r => by simp [pkcells]
    cases k with
    | zero =>
      simp only [List.getElem?_cons_zero, Option.some.injEq] at h
      subst h
      rw [List.set_cons_zero, hc, hc, List.set_append_left _ _ (by simp [pkcell])]
      simp [pkcell, h1, h2, h3]
    | succ k =>
      simp only [List.getElem?_cons_succ] at h
      have hl : (pkcell y).length = 4 := rfl
      rw [List.set_cons_succ, hc, hc, ih k x x' h h1 h2 h3, List.set_append_right _ _ (by omega), hl, show (k + 1) * 4 + 3 - 4 = k * 4 + 3 by omega]
def Nt.spo (N : Nt) (k : Nat) (x : Pk) (at_ v : Nat) : Nt := { N with L := N.L.set k { x with l := x.l.set at_ v, sp := true } }
theorem NtR.spoilt {w : World} {N : Nt} (h : NtR w N) {k at_ v : Nat} {x : Pk} (hx : N.L[k]? = some x) (ha : at_ < x.l.length) {bb bo : Nat} (hba : N.ba = some ⟨bb, bo, none⟩) :
    NtR ((w.setCell ⟨x.g, at_, none⟩ (.int .u8 (v : Int))).setCell ⟨bb, bo + k * 4 + 3, none⟩ (.bool true)) (N.spo k x at_ v) ∧ NtTo w ((w.setCell ⟨x.g, at_, none⟩ (.int .u8 (v : Int))).setCell ⟨bb, bo + k * 4 + 3, none⟩ (.bool true)) N (N.spo k x at_ v) := by
  have hxm : x ∈ N.L := List.mem_of_getElem? hx
  have hkl := (List.getElem?_eq_some_iff.1 hx).1
  have og : N.own .pks x.g := ⟨x, hxm, rfl⟩
  have ob : N.own .bag bb := by show inB N.ba bb; rw [hba]; exact inB_self bb bo
  have hgb : x.g ≠ bb := fun e => by have := h.apart .pks .bag bb (e ▸ og) ob; cases this
  obtain ⟨w1, hw1⟩ : ∃ w1, w1 = w.setCell ⟨x.g, at_, none⟩ (.int .u8 (v : Int)) := ⟨_, rfl⟩
  obtain ⟨w2, hw2⟩ : ∃ w2, w2 = w1.setCell ⟨bb, bo + k * 4 + 3, none⟩ (.bool true) := ⟨_, rfl⟩
  have k1 : Keep (only x.g) w w1 := by rw [hw1]; exact (Keep.refl (only x.g) w).setCell (p := ⟨x.g, at_, none⟩) (fun _ => rfl) _
  have k2 : Keep (only bb) w1 w2 := by rw [hw2]; exact (Keep.refl (only bb) w1).setCell (p := ⟨bb, bo + k * 4 + 3, none⟩) (fun _ => rfl) _
  have kk : Keep (fun b => b = x.g ∨ b = bb) w w2 := (k1.mono (fun _ _ e => Or.inl e)).trans (k2.mono (fun _ _ e => Or.inr e))
  rw [← hw1, ← hw2]
  have hmg : (N.L.set k { x with l := x.l.set at_ v, sp := true }).map Pk.g = N.L.map Pk.g := map_set_eq Pk.g _ _ _ _ hx rfl
  have hown : ∀ q b, (N.spo k x at_ v).own q b → N.own q b := fun q b hb => by
    cases q with
    | pks =>
      obtain ⟨y, hy, rfl⟩ := hb
      have h1 : y.g ∈ (N.L.set k { x with l := x.l.set at_ v, sp := true }).map Pk.g := List.mem_map.2 ⟨y, hy, rfl⟩
      rw [hmg] at h1
      obtain ⟨z, hz, e⟩ := List.mem_map.1 h1
      exact ⟨z, hz, e⟩
    | spot i a => exact hb
    | _ => exact hb
  have notE : ∀ (q : Pt) (b : Nat), N.own q b → q ≠ .pks → q ≠ .bag → ¬ (b = x.g ∨ b = bb) := fun q b hq h1 h2 e => by
    rcases e with e | e
    · exact h1 (h.apart _ _ b hq (e ▸ og))
    · exact h2 (h.apart _ _ b hq (e ▸ ob))
  refine ⟨⟨?_, ?_, ?_, ?_, ?_, ?_, ?_, ?_, ?_, ?_, ?_⟩, ⟨?_, ?_, rfl, rfl, rfl, rfl, rfl, rfl, rfl, rfl⟩⟩
  · have := h.blk.keep kk (notE .net N.nb rfl (by simp) (by simp))
    simpa [Nt.cells, Nt.spo] using this
  · exact h.erow.keep kk (fun b hb => notE .edges b hb (by simp) (by simp))
  · exact h.prow.keep kk (fun b hb => notE .spots b hb (by simp) (by simp))
  · have h1 := h.brow.keep k1 (fun b hb e => by
      rw [show b = x.g from e] at hb
      have := h.apart .bag .pks x.g hb og; cases this)
    show RV w2 200 4 N.ba (N.L.set k _).length N.bc (pkcells (N.L.set k _))
    rw [hba] at h1 ⊢
    have h2 := h1.setAt (k * 4 + 3) (by rw [pkcells_len]; omega) (.bool true)
    rw [← Nat.add_assoc, ← hw2] at h2
    rw [List.length_set, pkcells_set N.L k x { x with l := x.l.set at_ v, sp := true } hx rfl rfl (by simp [Pk.slice])]
    exact h2
  · intro y hy
    have hy0 : y ∈ N.L.set k { x with l := x.l.set at_ v, sp := true } := hy
    obtain ⟨k', hk', e'⟩ := List.getElem_of_mem hy0
    have hy' : (N.L.set k { x with l := x.l.set at_ v, sp := true })[k']? = some y := by rw [List.getElem?_eq_getElem hk', e']
    rcases lset_get hy' with ⟨_, rfl⟩ | ⟨hne, hy2⟩
    · have h1 := (h.pks x hxm).setAt at_ (by simpa using ha) (.int .u8 (v : Int))
      rw [Nat.zero_add, ← hw1] at h1
      have h2 := h1.keep k2 (fun b hb e => by rw [inB_some.1 hb] at e; exact hgb e)
      show PRow w2 x.g (x.l.set at_ v) x.c
      unfold PRow
      rw [List.length_set, List.map_set]
      exact h2
    · have hyg : y.g ≠ x.g := fun e => by
        have hp := h.pkn
        rw [List.pairwise_iff_getElem] at hp
        have hk2 := (List.getElem?_eq_some_iff.1 hy2)
        have hk3 := (List.getElem?_eq_some_iff.1 hx)
        obtain ⟨l1, e1⟩ := hk2
        obtain ⟨l2, e2⟩ := hk3
        rcases Nat.lt_or_gt_of_ne hne with h4 | h4
        · have := hp k' k l1 l2 h4; rw [e1, e2] at this; exact this e
        · have := hp k k' l2 l1 h4; rw [e1, e2] at this; exact this e.symm
      have hym := List.mem_of_getElem? hy2
      refine (h.pks y hym).keep kk (fun b hb e => ?_)
      rw [inB_some.1 hb] at e
      rcases e with e | e
      · exact hyg e
      · have := h.apart .pks .bag bb ⟨y, hym, e⟩ ob; cases this
  · have := h.pkn
    have h1 : (N.L.map Pk.g).Pairwise (· ≠ ·) := List.pairwise_map.2 this
    rw [← hmg] at h1
    exact List.pairwise_map.1 h1
  · exact fun i s hs => (h.nods i s hs).keep kk (fun b hb => notE (.spot i .node) b ⟨s, hs, hb⟩ (by simp) (by simp))
  · exact fun i s hs => (h.sides i s hs).keep kk (fun b hb => notE (.spot i .side) b ⟨s, hs, hb⟩ (by simp) (by simp))
  · exact fun i s hs j d hd => (h.ends i s hs j d hd).keep kk (fun b hb => notE (.spot i (.ends j)) b ⟨s, hs, d, hd, hb⟩ (by simp) (by simp))
  · exact fun b hb => Nat.lt_of_lt_of_le (h.wayl b hb) kk.size
  · exact fun i j b hi hj => h.apart i j b (hown i b hi) (hown j b hj)
  · refine kk.mono (fun b _ e => ?_)
    rcases e with e | e
    · exact ⟨.pks, by simp, e ▸ og⟩
    · exact ⟨.bag, by simp, e ▸ ob⟩
  · rintro b ⟨q, hq, hb⟩
    exact Or.inl ⟨q, hq, hown q b hb⟩
theorem aok_spoil {A : AN} {B : Nat} (h : AOk A B) (k at_ y : Nat) (hy : y < 256) : AOk (A.spoil k at_ y) B := by
  unfold AN.spoil
  split
  · exact h
  · rename_i x hx
    split
    · refine ⟨h.few, h.well, h.out, h.kept, by simpa using h.bag, fun z hz => ?_, h.sym⟩
      rcases List.mem_or_eq_of_mem_set hz with h1 | rfl
      · exact h.pk z h1
      · obtain ⟨p1, p2, p3, p4⟩ := h.pk x (List.mem_of_getElem? hx)
        refine ⟨fun u hu => ?_, by simpa using p2, by simpa using p3, p4⟩
        obtain ⟨i, hi, rfl⟩ := List.getElem_of_mem hu
        have h2 : (x.l.modify at_ (fun v => v ^^^ y))[i]? = some ((x.l.modify at_ (fun v => v ^^^ y))[i]) := List.getElem?_eq_getElem hi
        obtain ⟨z, hz, e⟩ := modify_get h2
        have hz8 := p1 z (List.mem_of_getElem? hz)
        rw [e]
        split
        · exact Nat.xor_lt_two_pow (n := 8) hz8 hy
        · exact hz8
    · exact h
theorem abs_spo {N : Nt} {k at_ y v : Nat} {x : Pk} (hx : N.L[k]? = some x) (hsp : x.sp = false) (hv : x.l[at_]? = some v) (hy : y ≠ 0) : (N.spo k x at_ (v ^^^ y)).abs = N.abs.spoil k at_ y := by
  have ha := (List.getElem?_eq_some_iff.1 hv).1
  unfold AN.spoil
  rw [abs_bag_get hx]
  simp only
  rw [if_pos ⟨hsp, ha, hy⟩]
  simp only [Nt.abs, Nt.spo, List.map_set, Pk.abs]
  rw [modify_set hv]
theorem spoil_same {N : Nt} {k at_ y : Nat} {x : Pk} (hx : N.L[k]? = some x) (h : ¬ (x.sp = false ∧ at_ < x.l.length ∧ y ≠ 0)) : N.abs.spoil k at_ y = N.abs := by
  unfold AN.spoil
  rw [abs_bag_get hx]
  exact if_neg h
set_option maxRecDepth 100000 in
set_option maxHeartbeats 4000000 in
theorem mspoil_none (N : Nt) (k at_ : Int) (y : Nat) (w : World) (h : NtR w N) (hk : ¬ (0 ≤ k ∧ k < (N.L.length : Int))) :
    Calls Tryz.prog 70 #[.pointer (some ⟨N.nb, 0, none⟩), .int .i64 k, .int .i64 at_, .int .u8 (y : Int)] w fun r w' => r = .returned (.int .i64 7) ∧ Keep nil w w' := by
  have HH : Unit → ∀ w1, _ := fun _ w1 => bagHas_any N.ba N.L.length N.bc k w1
  rw [decide_eq_false hk] at HH
  have q2 := h.c2
  have hnl := h.blk.lt
  generalize N.nb = nb at *
  clear h hk
  go_enter Tryz.func70, Tryz.ntmps70
  go_wp2_with fail
  refine Calls.mono (HH () _) ?_
  rintro r w1 ⟨rfl, k1⟩
  have K1 : Unit → Keep nil w w1 := fun _ => k1
  clear k1 HH
  go_wp2
  go_ret
  exact ⟨rfl, K1 ()⟩
set_option maxRecDepth 100000 in
set_option maxHeartbeats 4000000 in
theorem mspoil_some (N : Nt) (k at_ y : Nat) (x : Pk) (B : Nat) (w : World) (h : NtR w N) (hx : N.L[k]? = some x) (ho : AOk N.abs B) (hy : y < 256) :
    Calls Tryz.prog 70 #[.pointer (some ⟨N.nb, 0, none⟩), .int .i64 (k : Int), .int .i64 (at_ : Int), .int .u8 (y : Int)] w fun r w' => ∃ z : Int, r = .returned (.int .i64 z) ∧ ∃ N', NtR w' N' ∧ N'.abs = N.abs.spoil k at_ y ∧ NtTo w w' N N' ∧ N'.way = N.way ∧ AOk N'.abs B := by
  have hkl := (List.getElem?_eq_some_iff.1 hx).1
  have hb3 : (N.L.length : Int) ≤ 300 := by have := ho.bag; rw [NtR.abs_len.1] at this; omega
  have hk9 : (k : Int) < 1000 := by omega
  have hkI : (k : Int) < (N.L.length : Int) := by omega
  have HH : Unit → ∀ w1, _ := fun _ w1 => bagHas_any N.ba N.L.length N.bc (k : Int) w1
  rw [decide_eq_true (p := 0 ≤ (k : Int) ∧ (k : Int) < (N.L.length : Int)) ⟨by omega, by omega⟩] at HH
  obtain ⟨g, q, hba, _, _, _, _, _⟩ := h.bag.at_ k x hx
  have hxm : x ∈ N.L := List.mem_of_getElem? hx
  have HSP : Unit → ∀ w1, Keep nil w w1 → Calls Tryz.prog 122 #[.pointer (some ⟨g, q + k * 4, none⟩), .int .i64 (at_ : Int), .int .u8 (y : Int)] w1 fun r w' => ∃ z : Int, r = .returned (.int .i64 z) ∧ ∃ N', NtR w' N' ∧ N'.abs = N.abs.spoil k at_ y ∧ NtTo w w' N N' ∧ N'.way = N.way ∧ AOk N'.abs B := fun _ w1 k1 => by
    have h1 := h.keep k1 (fun _ _ e => e)
    obtain ⟨g', q', a1, a2, a3, a4, a5, a6⟩ := h1.bag.at_ k x hx
    rw [hba] at a1
    cases a1
    have hok := aok_spoil ho k at_ y hy
    by_cases hc : x.sp = false ∧ at_ < x.l.length ∧ y ≠ 0
    · obtain ⟨c1, c2, c3⟩ := hc
      have hv : x.l[at_]? = some x.l[at_] := List.getElem?_eq_getElem c2
      have hv8 := (NtR.pkt ho hx).2.2 x.l[at_] (List.getElem_mem c2)
      have hp := h1.pks x hxm
      obtain ⟨g2, o2, e2, hvb⟩ := rv_pos hp (by omega)
      cases e2
      have hcv := hvb.cell at_ (bv x.l[at_]) (by simp [c2])
      rw [Nat.zero_add] at hcv
      have hgp : ¬ x.g = g := fun e => by
        have := h1.apart .pks .bag g ⟨x, hxm, e⟩ (by show inB N.ba g; rw [hba]; exact inB_self g q)
        cases this
      have hbf : w1.frozen? ⟨g, q + k * 4 + 3, none⟩ = false := by
        obtain ⟨g3, o3, e3, hb4⟩ := rv_pos h1.brow (by omega)
        rw [hba] at e3
        cases e3
        exact hb4.frozen _
      refine (spoil_yes g (q + k * 4) x.g x.c x.l.length at_ x.l[at_] y w1 a5 (by rw [a6, c1]) hbf a2 hvb.lt hgp hcv (hvb.frozen _) (by omega) (by omega) hv8 hy).mono ?_
      rintro r w2 ⟨rfl, rfl⟩
      obtain ⟨r1, r2⟩ := h1.spoilt (v := x.l[at_] ^^^ y) hx c2 hba
      have ha := abs_spo (N := N) hx c1 hv c3
      exact ⟨_, rfl, _, r1, ha, (NtTo.of_keep N k1).trans r2, rfl, by rw [ha]; exact hok⟩
    · refine (spoil_no g (q + k * 4) x.g x.c x.l.length y x.sp (at_ : Int) w1 a5 a6 a2 ?_).mono ?_
      · by_cases d1 : x.sp = true
        · exact Or.inl d1
        · have d1' : x.sp = false := by simpa using d1
          by_cases d2 : at_ < x.l.length
          · by_cases d3 : y = 0
            · exact Or.inr (Or.inr (Or.inr d3))
            · exact (hc ⟨d1', d2, d3⟩).elim
          · exact Or.inr (Or.inr (Or.inl (by omega)))
      · rintro r w2 ⟨rfl, k2⟩
        exact ⟨_, rfl, N, h1.keep k2 (fun _ _ e => e), (spoil_same hx hc).symm, NtTo.of_keep N (k1.trans k2), rfl, ho⟩
  have HC : Unit → ∀ w1, Keep nil w w1 → N.nb < w1.heap.size ∧ g < w1.heap.size ∧ w1.cell? ⟨N.nb, 2, none⟩ = some (.slice (some ⟨g, q, none⟩) N.L.length N.bc) := fun _ w1 k1 => by
    have h1 := h.keep k1 (fun _ _ e => e)
    exact ⟨h1.blk.lt, h1.brow.lt g (by rw [hba]; exact inB_self g q), by rw [← hba]; exact h1.c2⟩
  have q2 := h.c2
  have hnl := h.blk.lt
  obtain ⟨nb, hnb⟩ : ∃ nb, nb = N.nb := ⟨_, rfl⟩
  rw [← hnb] at HC q2 hnl ⊢
  clear h hx ho hkl hb3 hnb hba hxm hy
  go_enter Tryz.func70, Tryz.ntmps70
  go_wp2_with fail
  refine Calls.mono (HH () _) ?_
  rintro r w1 ⟨rfl, k1⟩
  have K1 : Unit → Keep nil w w1 := fun _ => k1
  obtain ⟨hnl1, hgl, c2⟩ := HC () w1 k1
  clear k1 HH q2 hnl HC
  go_wp2_with fail
  refine Calls.mono (HSP () w1 (K1 ())) ?_
  rintro r w2 ⟨z, rfl, N', b1, b2, b3, b4, b5⟩
  have HN : Unit → ∃ N', NtR w2 N' ∧ N'.abs = N.abs.spoil k at_ y ∧ NtTo w w2 N N' ∧ N'.way = N.way ∧ AOk N'.abs B := fun _ => ⟨N', b1, b2, b3, b4, b5⟩
  clear HSP b1 b2 b3 b4 b5 c2
  go_wp2
  go_ret
  exact ⟨z, rfl, HN ()⟩
end Go.Proofs.YtlfijfodklhplaaGreat
/- Tree. -/
namespace Go.Proofs.YtlfijfodklhplaaGreat
open Go.RowKit
set_option linter.unusedVariables false
set_option linter.unusedSimpArgs false

theorem NtR.pa_at {w : World} {N : Nt} (h : NtR w N) {i : Nat} {s : Sp} (hs : N.sps[i]? = some s) {pb po : Nat} (hpa : N.pa = some ⟨pb, po, none⟩) : pb < w.heap.size ∧ w.cell? ⟨pb, po + i * 2, none⟩ = some (.pointer (some ⟨s.b, 0, none⟩)) ∧ w.cell? ⟨pb, po + i * 2 + 1, none⟩ = some (.slice s.sa s.ss.length s.sc) := by
  obtain ⟨pb', po', h1, h2, h3, h4⟩ := h.spot_at hs
  rw [hpa] at h1
  cases h1
  exact ⟨h2, h3, h4⟩
set_option maxRecDepth 100000 in
set_option maxHeartbeats 4000000 in
theorem sbranch_any (N : Nt) (i k B pb po : Nat) (s : Sp) (w : World) (h : NtR w N) (hs : N.sps[i]? = some s) (ho : AOk N.abs B) (hpa : N.pa = some ⟨pb, po, none⟩) (hk : k ∈ s.ss.map Sd.to_) :
    Calls Tryz.prog 67 #[.pointer (some ⟨pb, po + i * 2, none⟩), .int .i64 (k : Int)] w fun r w' => r = .returned (.bool (N.abs.branch i k)) ∧ Keep nil w w' := by
  obtain ⟨j, hj1, hj2⟩ := find_first _ k hk
  obtain ⟨hpl, hp0, hp1⟩ := h.pa_at hs hpa
  have hjl : j < s.ss.length := by have := (List.getElem?_eq_some_iff.1 hj1).1; simpa using this
  obtain ⟨d, hd⟩ : ∃ d, s.ss[j]? = some d := ⟨_, List.getElem?_eq_getElem hjl⟩
  obtain ⟨g, o, cc, hsa, hgl, _, _, _⟩ := h.turnE hs hd
  have hwl := ho.well i s.abs (abs_spot hs)
  have hel : s.n.edges.length = s.ss.length := by simpa [Sp.abs] using hwl.2.1
  have hfew : (s.n.edges.length : Int) < 1000 := hwl.1.good.rise.few
  obtain ⟨e, he⟩ : ∃ e, s.n.edges[j]? = some e := ⟨_, List.getElem?_eq_getElem (by omega)⟩
  have hb : N.abs.branch i k = decide (e.2 = 1) := by
    unfold AN.branch
    rw [abs_spot hs, toEdge_eq hs hj1 hj2]
    have : s.abs.n.edges[j]? = some e := he
    simp only [this]
    by_cases h1 : e.2 = 1
    · simp [h1]
    · simp [h1]
  rw [hb]
  rw [hsa] at hp1
  have HET : Unit → ∀ w4, Keep nil w w4 → _ := fun _ w4 k4 => edgeTo_any pb (po + i * 2) k g o s.sc (s.ss.map Sd.to_) j w4 (by rw [List.length_map]; exact (k4.cell pb _ hpl id).trans hp1) (Nat.lt_of_lt_of_le hpl k4.size) ((h.srow hs hsa).keep k4 hgl id) (Nat.lt_of_lt_of_le hgl k4.size) (by rw [List.length_map]; omega) hj1 hj2
  have HB : Unit → ∀ w4, Keep nil w w4 → _ := fun _ w4 k4 => isBranch_any s.b s.n s.p j e w4 ((h.nods i s hs).keep k4 (fun _ _ e => e)) he (by omega)
  clear h hs ho hpa hk hj1 hj2 hjl hd hsa hwl hel hfew he hb hp1 hgl
  obtain ⟨bb, hbb⟩ : ∃ bb : Bool, bb = decide (e.2 = 1) := ⟨_, rfl⟩
  rw [← hbb] at HB ⊢
  clear hbb
  go_enter Tryz.func67, Tryz.ntmps67
  go_wp2_with fail
  have HP0 : Unit → ∀ w', Keep nil w.drew w' → w'.cell? ⟨pb, po + i * 2, none⟩ = some (.pointer (some ⟨s.b, 0, none⟩)) := fun _ w' k' => (k'.cell pb _ hpl id).trans hp0
  go_region_held3 (fun w' => w'.cell? ⟨pb, po + i * 2, none⟩ = some (.pointer (some ⟨s.b, 0, none⟩))) (first | go_keep | exact HP0 () _ hk4 | exact HP0 () _ (hk4.trans hk5)) (first | (go_at_call 115; refine (HET () _ ((Keep.refl nil w).drew)).mono ?_; rintro r w4 ⟨rfl, hk4⟩) | (go_at_call 119; refine (HB () _ ((Keep.refl nil w).drew.trans hk4)).mono ?_; rintro r w5 ⟨rfl, hk5⟩))
  have HK : Unit → Keep nil w w5 := fun _ => ((Keep.refl nil w).drew.trans hk4).trans hk5
  clear HET HB hk4 hk5 HP0 hp0
  go_wp2
  go_ret
  exact ⟨rfl, HK ()⟩
end Go.Proofs.YtlfijfodklhplaaGreat
/- The small questions of Check. -/
namespace Go.Proofs.YtlfijfodklhplaaGreat
open Go.RowKit
set_option linter.unusedVariables false
set_option linter.unusedSimpArgs false

abbrev edv (e : Ed) : Value := .agg #[.int .i64 e.a, .int .i64 e.b, .int .i64 e.wt]
def strayB (n : Int) (e : Ed) : Bool := !(decide (0 ≤ e.a) && decide (e.a < n)) || !(decide (0 ≤ e.b) && decide (e.b < n)) || (e.a == e.b)
def heavyB (e : Ed) : Bool := decide (e.wt < 1) || decide (1000 < e.wt)
def sameWB (e f : Ed) : Bool := e.wt == f.wt
def sameEB (e f : Ed) : Bool := (e.a == f.a && e.b == f.b) || (e.a == f.b && e.b == f.a)

theorem ecells_get (l : List Ed) : ∀ (k : Nat) (e : Ed), l[k]? = some e → (ecells l)[k * 3]? = some (.int .i64 e.a) ∧ (ecells l)[k * 3 + 1]? = some (.int .i64 e.b) ∧ (ecells l)[k * 3 + 2]? = some (.int .i64 e.wt) := by
  induction l with
  | nil => intro k e h; simp at h
  | cons x t ih =>
    intro k e h
    have hc : ecells (x :: t) = x.cells ++ ecells t := by simp [ecells]
    rw [hc]
    cases k with
    | zero =>
      simp at h
      subst h
      exact ⟨rfl, rfl, rfl⟩
    | succ k =>
      rw [List.getElem?_cons_succ] at h
      have := ih k e h
      have hl : x.cells.length = 3 := rfl
      rw [List.getElem?_append_right (by omega), List.getElem?_append_right (by omega), List.getElem?_append_right (by omega), hl]
      rw [show (k + 1) * 3 - 3 = k * 3 by omega, show (k + 1) * 3 + 1 - 3 = k * 3 + 1 by omega, show (k + 1) * 3 + 2 - 3 = k * 3 + 2 by omega]
      exact this
theorem erow_get {w : World} {b o : Nat} {l : List Ed} (h : ERow w b o l) (k : Nat) (e : Ed) (hk : l[k]? = some e) :
    w.cell? ⟨b, o + k * 3, none⟩ = some (.int .i64 e.a) ∧ w.cell? ⟨b, o + k * 3 + 1, none⟩ = some (.int .i64 e.b) ∧ w.cell? ⟨b, o + k * 3 + 2, none⟩ = some (.int .i64 e.wt) := by
  obtain ⟨h0, h1, h2⟩ := ecells_get l k e hk
  exact ⟨h _ _ h0, h _ _ h1, h _ _ h2⟩
/-- A list of edges, nil or a row. -/
def ESl (w : World) (sa : Option Addr) (es : List Ed) : Prop := es = [] ∨ ∃ bb bo, sa = some ⟨bb, bo, none⟩ ∧ bb < w.heap.size ∧ ERow w bb bo es
theorem ESl.keep {w w' : World} {sa : Option Addr} {es : List Ed} (h : ESl w sa es) (k : Keep nil w w') : ESl w' sa es :=
  h.imp id (fun ⟨bb, bo, h1, h2, h3⟩ => ⟨bb, bo, h1, Nat.lt_of_lt_of_le h2 k.size, h3.keep k h2 (fun e => e)⟩)
theorem ESl.some {w : World} {sa : Option Addr} {es : List Ed} (h : ESl w sa es) {i : Nat} (hi : i < es.length) : ∃ bb bo, sa = some ⟨bb, bo, none⟩ ∧ bb < w.heap.size ∧ ERow w bb bo es := by
  rcases h with h | h
  · rw [h] at hi; simp at hi
  · exact h
theorem mem_take_succ {es : List Ed} {k : Nat} {e : Ed} (he : es[k]? = some e) {x : Ed} : x ∈ es.take (k + 1) ↔ x ∈ es.take k ∨ x = e := by
  rw [List.take_add_one, he]; simp

theorem isNode_any (k n : Int) (w : World) : Calls Tryz.prog 50 #[.int .i64 k, .int .i64 n] w fun r w' => r = .returned (.bool (decide (0 ≤ k) && decide (k < n))) ∧ w = w' := by
  go_enter Tryz.func50, Tryz.ntmps50
  go_wp2
  all_goals
    go_ret
    refine ⟨?_, rfl⟩
    simp_all <;> omega

set_option maxRecDepth 100000 in
set_option maxHeartbeats 400000 in
theorem weighsWrong_any (e : Ed) (w : World) : Calls Tryz.prog 52 #[edv e] w fun r w' => r = .returned (.bool (heavyB e)) ∧ Keep nil w w' := by
  obtain ⟨a, b, wt⟩ := e
  go_enter Tryz.func52, Tryz.ntmps52
  go_wp2
  all_goals
    go_ret
    refine ⟨?_, (Keep.refl nil w).alloc _⟩
    simp_all [heavyB]

set_option maxRecDepth 100000 in
set_option maxHeartbeats 400000 in
theorem weighAlike_any (e f : Ed) (w : World) : Calls Tryz.prog 54 #[edv e, edv f] w fun r w' => r = .returned (.bool (sameWB e f)) ∧ Keep nil w w' := by
  obtain ⟨a, b, wt⟩ := e
  obtain ⟨a2, b2, wt2⟩ := f
  go_enter Tryz.func54, Tryz.ntmps54
  go_wp2
  all_goals
    go_ret
    refine ⟨?_, ((Keep.refl nil w).alloc _).alloc _⟩
    simp_all [sameWB]

set_option maxRecDepth 100000 in
set_option maxHeartbeats 400000 in
theorem joinAlike_any (e f : Ed) (w : World) : Calls Tryz.prog 55 #[edv e, edv f] w fun r w' => r = .returned (.bool (sameEB e f)) ∧ Keep nil w w' := by
  obtain ⟨a, b, wt⟩ := e
  obtain ⟨a2, b2, wt2⟩ := f
  go_enter Tryz.func55, Tryz.ntmps55
  go_wp2
  all_goals
    go_ret
    refine ⟨?_, ((Keep.refl nil w).alloc _).alloc _⟩
    simp_all [sameEB]

set_option maxRecDepth 100000 in
set_option maxHeartbeats 400000 in
theorem strays_any (nb : Nat) (n : Int) (e : Ed) (w : World) (hn : w.cell? ⟨nb, 0, none⟩ = some (.int .i64 n)) :
    Calls Tryz.prog 49 #[edv e, .pointer (some ⟨nb, 0, none⟩)] w fun r w' => r = .returned (.bool (strayB n e)) ∧ Keep nil w w' := by
  obtain ⟨a, b, wt⟩ := e
  have hl := World.block_lt_of_cell? w _ hn
  simp only at hl
  have HI : Unit → ∀ k w, Calls Tryz.prog 50 #[.int .i64 k, .int .i64 n] w fun r w' => r = .returned (.bool (decide (0 ≤ k) && decide (k < n))) ∧ w = w' := fun _ k w => isNode_any k n w
  go_enter Tryz.func49, Tryz.ntmps49
  go_wp2_with fail
  refine (HI () _ _).mono ?_
  rintro r w' ⟨rfl, rfl⟩
  cases hA : (decide (0 ≤ a) && decide (a < n))
  · go_wp2
    go_ret
    refine ⟨?_, ((Keep.refl nil w).alloc _)⟩
    simp_all [strayB] <;> omega
  · go_wp2_with fail
    refine (HI () _ _).mono ?_
    rintro r w' ⟨rfl, rfl⟩
    cases hB : (decide (0 ≤ b) && decide (b < n))
    · go_wp2
      go_ret
      refine ⟨?_, ((Keep.refl nil w).alloc _)⟩
      simp_all [strayB] <;> omega
    · go_wp2
      all_goals
        go_ret
        refine ⟨?_, ((Keep.refl nil w).alloc _)⟩
        simp_all [strayB]
end Go.Proofs.YtlfijfodklhplaaGreat
