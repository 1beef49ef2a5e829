import Derived.Test.YtlfijfodklhplaaGreatLk49
import Derived.Test.YtlfijfodklhplaaGreatLk47
/- Steps on ends: a frame that comes, encoded; what one end tells handed to another. -/
namespace Go.Proofs.YtlfijfodklhplaaGreat
open Go.RowKit
set_option linter.unusedVariables false
set_option linter.unusedSimpArgs false

/-- Bytes of a caller's own, held while others work. -/
def HeldB (g : Nat) (ls : List Nat) (c : Nat) (w : World) (tag : Nat → Nat) : Prop := BRow w g ls c ∧ tag g = 4
theorem heldB_st (g : Nat) (ls : List Nat) (c : Nat) : Zst (HeldB g ls c) := fun ex w w' tag tag' h k hn => by
  have := hn g h.1.lt (by rw [h.2]; unfold zt; omega)
  exact ⟨h.1.keep k this.1, this.2.trans h.2⟩
theorem LS.hold {W0 w : World} {tag : Nat → Nat} {yb : Nat} {ea : Option Addr} {ec : Nat} {l : List Lp} {p1 : Value} {R : Nat → Rw} {Y Z : World → (Nat → Nat) → Prop} (h : LS W0 w tag yb ea ec l p1 R Y Z) {g : Nat} {ls : List Nat} {c : Nat} (hb : BRow w g ls c) (h0 : tag g = 0) :
    ∃ tag', LS W0 w tag' yb ea ec l p1 R Y (HeldB g ls c) := by
  obtain ⟨tag', htag⟩ : ∃ tag' : Nat → Nat, tag' = fun k => if k = g then 4 else tag k := ⟨_, rfl⟩
  have t0 : ∀ k, tag k ≠ 0 → tag' k = tag k := fun k hk => by rw [htag]; simp only; rw [if_neg (fun e => hk (by rw [e]; exact h0))]
  have tb : tag' g = 4 := by rw [htag]; simp
  refine ⟨tag', h.turn (heldB_st g ls c) (fun i hi e => t0 i (by omega)) (fun i hi => ?_) ⟨hb, tb⟩⟩
  have := h.nz i hi
  have hbl := hb.lt
  rw [htag]; simp only; rw [if_neg (by omega)]; exact this

set_option maxRecDepth 100000 in
set_option maxHeartbeats 2000000 in
theorem linked_got (W0 w : World) (tag : Nat → Nat) (yb : Nat) (ea : Option Addr) (ec : Nat) (l : List Lp) (p1 : Value) (R : Nat → Rw) (Y Z : World → (Nat → Nat) → Prop) (hS : LS W0 w tag yb ea ec l p1 R Y Z) (halk : Alk l) (i : Nat) (x : Lp) (hx : l[i]? = some x) (hB : (Psi R l : Int) < 1000000000)
    (oc oa ob : Int) (E : Value) (d : Bool) (s k lv n : Int) (f : Bool) (D : Value) (he : E.oneCell' = true) (hd : D.oneCell' = true) :
    Calls Tryz.prog 44 #[.pointer (some ⟨yb, 0, none⟩), .agg #[.pointer (some ⟨x.xb, 0, none⟩), .pointer (some ⟨x.cb, 0, none⟩)], opv 7 oc oa ob E d s k lv n f D] w fun e w' => e = .returned (.bool true) ∧ LSt W0 w' yb p1 Y (Psi R l + 24) := by
  by_cases hen : encErr d s k lv n f = 0
  · obtain ⟨fr, hfr, hfv⟩ := frame_of hen
    obtain ⟨xb, hxb⟩ : ∃ xb, xb = x.xb := ⟨_, rfl⟩
    obtain ⟨cb, hcb⟩ : ∃ cb, cb = x.cb := ⟨_, rfl⟩
    have HNZ : Unit → ∀ b, w.heap.size ≤ b → tag b = 0 := fun _ => hS.nz
    have HEN : Unit → ∀ w1, Keep nil w w1 → Calls Tryz.prog 77 #[.agg (fc d s k lv n f)] w1 fun e w2 => ∃ g c, e = .returned (.tuple #[.slice (some ⟨g, 0, none⟩) (flen fr) c, .int .i64 0]) ∧ Keep nil w1 w2 ∧ ∀ w3, Keep nil w2 w3 → Calls Tryz.prog 86 #[.pointer (some ⟨yb, 0, none⟩), .agg #[.pointer (some ⟨xb, 0, none⟩), .pointer (some ⟨cb, 0, none⟩)], .slice (some ⟨g, 0, none⟩) (flen fr) c] w3 fun e w' => e = .returned (.bool true) ∧ LSt W0 w' yb p1 Y (Psi R l + 24) := fun _ w1 k1 => by
      rw [hxb, hcb, ← hfv]
      refine (refenc_any fr hfr w1).mono ?_
      rintro e w2 ⟨g, c, rfl, hg, hc, hb, k2⟩
      refine ⟨g, c, rfl, k2, fun w3 k3 => ?_⟩
      have hS3 := ((hS.same k1).same k2).same k3
      have hb3 := hb.keep k3 (fun e => e)
      obtain ⟨tag3, hS3'⟩ := hS3.hold hb3 (hS.nz g (by have := k1.size; omega))
      have hel := enc_len fr
      have hle := enc_le fr
      rw [← hel] at hc ⊢
      exact comes_st W0 w3 tag3 yb ea ec l p1 R Y _ hS3' halk i x hx hB (some ⟨g, 0, none⟩) (Fr.enc fr) c (Or.inr ⟨_, rfl, Or.inr ⟨g, 0, rfl, hb3.lt, brow_row hb3⟩, by omega, enc_byte fr hfr, hc⟩) (fun bb bo ha hl hne => by cases ha; have := hS3'.zz.2; omega)
    rw [← hxb, ← hcb]
    clear hS halk hx hB hxb hcb hfv
    generalize flen fr = fl at *
    go_enter Tryz.func44, Tryz.ntmps44
    go_wp2_with fail
    obtain ⟨W1, hW1⟩ : ∃ W1, W1 = (w.alloc (.cells #[.pointer (some ⟨xb, 0, none⟩), .pointer (some ⟨cb, 0, none⟩)] 98)).alloc (.cells #[.int .i64 7, .int .i64 oc, .int .i64 oa, .int .i64 ob, E, .bool d, .int .i64 s, .int .i64 k, .int .i64 lv, .int .i64 n, .bool f, D] 80) := ⟨_, rfl⟩
    have hb1 : Blk W1 w.heap.size #[.pointer (some ⟨xb, 0, none⟩), .pointer (some ⟨cb, 0, none⟩)] 98 := by rw [hW1]; exact (Blk.new _ _ _).old _
    have hb2 : Blk W1 (w.heap.size + 1) #[.int .i64 7, .int .i64 oc, .int .i64 oa, .int .i64 ob, E, .bool d, .int .i64 s, .int .i64 k, .int .i64 lv, .int .i64 n, .bool f, D] 80 := by rw [hW1]; exact Blk.new' _ _ _ _ (by simp)
    have hkw : Keep nil w W1 := by rw [hW1]; exact ((Keep.refl nil w).alloc _).alloc _
    rw [← hW1]
    have HB1 : Unit → Blk W1 w.heap.size #[.pointer (some ⟨xb, 0, none⟩), .pointer (some ⟨cb, 0, none⟩)] 98 := fun _ => hb1
    have HB2 : Unit → Blk W1 (w.heap.size + 1) #[.int .i64 7, .int .i64 oc, .int .i64 oa, .int .i64 ob, E, .bool d, .int .i64 s, .int .i64 k, .int .i64 lv, .int .i64 n, .bool f, D] 80 := fun _ => hb2
    have HKW : Unit → Keep nil w W1 := fun _ => hkw
    clear hW1 hb1 hb2 hkw
    refine Calls.mono (HEN () W1 (HKW ())) ?_
    rintro r w2 ⟨g, c, rfl, k2, hnext⟩
    have HNX : Unit → _ := fun _ => hnext
    have hbb := (HB1 ()).keep k2 (fun e => e)
    have c0 := hbb.cell 0
    have c1 := hbb.cell 1
    simp at c0 c1
    clear hnext k2 HEN hbb
    go_wp2_with fail
    refine Calls.mono (HNX () _ (Keep.refl _ _)) ?_
    rintro r w3 ⟨rfl, hpost⟩
    have HP : Unit → LSt W0 w3 yb p1 Y (Psi R l + 24) := fun _ => hpost
    clear hpost HNX c0 c1
    go_wp2
    go_ret
    exact ⟨rfl, HP ()⟩
  · have HEN : Unit → ∀ w1, Keep nil w w1 → Calls Tryz.prog 77 #[.agg (fc d s k lv n f)] w1 fun e w2 => e = .returned (.tuple #[.slice none 0 0, .int .i64 (encErr d s k lv n f)]) ∧ LSt W0 w2 yb p1 Y (Psi R l + 24) := fun _ w1 k1 => by
      refine (refenc_err d s k lv n f hen w1).mono ?_
      rintro e w2 ⟨rfl, k2⟩
      exact ⟨rfl, tag, ea, ec, l, R, Z, (hS.same k1).same k2, halk, by omega⟩
    obtain ⟨xb, hxb⟩ : ∃ xb, xb = x.xb := ⟨_, rfl⟩
    obtain ⟨cb, hcb⟩ : ∃ cb, cb = x.cb := ⟨_, rfl⟩
    have HNZ : Unit → ∀ b, w.heap.size ≤ b → tag b = 0 := fun _ => hS.nz
    rw [← hxb, ← hcb]
    clear hS halk hx hB hxb hcb
    generalize encErr d s k lv n f = z at *
    go_enter Tryz.func44, Tryz.ntmps44
    go_wp2_with fail
    obtain ⟨W1, hW1⟩ : ∃ W1, W1 = (w.alloc (.cells #[.pointer (some ⟨xb, 0, none⟩), .pointer (some ⟨cb, 0, none⟩)] 98)).alloc (.cells #[.int .i64 7, .int .i64 oc, .int .i64 oa, .int .i64 ob, E, .bool d, .int .i64 s, .int .i64 k, .int .i64 lv, .int .i64 n, .bool f, D] 80) := ⟨_, rfl⟩
    have hb1 : Blk W1 w.heap.size #[.pointer (some ⟨xb, 0, none⟩), .pointer (some ⟨cb, 0, none⟩)] 98 := by rw [hW1]; exact (Blk.new _ _ _).old _
    have hb2 : Blk W1 (w.heap.size + 1) #[.int .i64 7, .int .i64 oc, .int .i64 oa, .int .i64 ob, E, .bool d, .int .i64 s, .int .i64 k, .int .i64 lv, .int .i64 n, .bool f, D] 80 := by rw [hW1]; exact Blk.new' _ _ _ _ (by simp)
    have hkw : Keep nil w W1 := by rw [hW1]; exact ((Keep.refl nil w).alloc _).alloc _
    rw [← hW1]
    have HB1 : Unit → Blk W1 w.heap.size #[.pointer (some ⟨xb, 0, none⟩), .pointer (some ⟨cb, 0, none⟩)] 98 := fun _ => hb1
    have HB2 : Unit → Blk W1 (w.heap.size + 1) #[.int .i64 7, .int .i64 oc, .int .i64 oa, .int .i64 ob, E, .bool d, .int .i64 s, .int .i64 k, .int .i64 lv, .int .i64 n, .bool f, D] 80 := fun _ => hb2
    have HKW : Unit → Keep nil w W1 := fun _ => hkw
    clear hW1 hb1 hb2 hkw
    refine Calls.mono (HEN () W1 (HKW ())) ?_
    rintro r w2 ⟨rfl, hpost⟩
    have HP : Unit → LSt W0 w2 yb p1 Y (Psi R l + 24) := fun _ => hpost
    clear hpost HEN
    go_wp2
    go_ret
    exact ⟨rfl, HP ()⟩

set_option maxRecDepth 100000 in
set_option maxHeartbeats 2000000 in
theorem linked_pass (W0 w : World) (tag : Nat → Nat) (yb : Nat) (ea : Option Addr) (ec : Nat) (l : List Lp) (p1 : Value) (R : Nat → Rw) (Y Z : World → (Nat → Nat) → Prop) (hS : LS W0 w tag yb ea ec l p1 R Y Z) (halk : Alk l) (i : Nat) (x : Lp) (hx : l[i]? = some x) (hB : (Psi R l : Int) < 1000000000)
    (oc oa ob : Int) (E : Value) (d : Bool) (s k lv n : Int) (f : Bool) (D : Value) (hob : -9223372036854775808 ≤ ob ∧ ob ≤ 9223372036854775807) (he : E.oneCell' = true) (hd : D.oneCell' = true) :
    Calls Tryz.prog 44 #[.pointer (some ⟨yb, 0, none⟩), .agg #[.pointer (some ⟨x.xb, 0, none⟩), .pointer (some ⟨x.cb, 0, none⟩)], opv 10 oc oa ob E d s k lv n f D] w fun e w' => e = .returned (.bool true) ∧ LSt W0 w' yb p1 Y (Psi R l + 24) := by
  obtain ⟨xb, hxb⟩ : ∃ xb, xb = x.xb := ⟨_, rfl⟩
  obtain ⟨cb, hcb⟩ : ∃ cb, cb = x.cb := ⟨_, rfl⟩
  have HNZ : Unit → ∀ b, w.heap.size ≤ b → tag b = 0 := fun _ => hS.nz
  have hnp : 0 < l.length := by have := (List.getElem?_eq_some_iff.1 hx).1; omega
  have hnl := (psi_le R l).2.1
  obtain ⟨z, hz, hpick⟩ := pickL_nat ob (l.length : Int) hob.1 hob.2 (by omega) (by omega)
  obtain ⟨y, hy⟩ : ∃ y, l[z]? = some y := ⟨_, List.getElem?_eq_getElem (by omega)⟩
  have HPK : Unit → ∀ w, Calls Tryz.prog 45 #[.int .i64 ob, .int .i64 (l.length : Int)] w fun e w' => e = .returned (.int .i64 (z : Int)) ∧ w' = w := fun _ w => (hpick w).mono (fun _ _ h => ⟨h.1, h.2.symm⟩)
  have HPS : Unit → ∀ w1 turned, Keep nil w w1 → Calls Tryz.prog 90 #[.pointer (some ⟨yb, 0, none⟩), .agg #[.pointer (some ⟨xb, 0, none⟩), .pointer (some ⟨cb, 0, none⟩)], .agg #[.pointer (some ⟨y.xb, 0, none⟩), .pointer (some ⟨y.cb, 0, none⟩)], .bool turned] w1 fun e w' => e = .returned (.bool true) ∧ LSt W0 w' yb p1 Y (Psi R l + 24) := fun _ w1 turned k1 => by
    rw [hxb, hcb]
    refine (passed_any W0 w1 tag yb ea ec l p1 R Y Z (hS.same k1) halk i z x y hx hy turned hB).mono ?_
    rintro e w' ⟨rfl, tag', R', l', Z', hS', hak, _, hps⟩
    exact ⟨rfl, tag', ea, ec, l', R', Z', hS', hak, by omega⟩
  have HES : Unit → ∀ w1, Keep nil w w1 → ∃ eb eo, ea = some ⟨eb, eo, none⟩ ∧ w1.cell? ⟨yb, 0, none⟩ = some (.slice ea l.length ec) ∧ w1.cell? ⟨eb, eo + z * 2, none⟩ = some (.pointer (some ⟨y.xb, 0, none⟩)) ∧ w1.cell? ⟨eb, eo + z * 2 + 1, none⟩ = some (.pointer (some ⟨y.cb, 0, none⟩)) := fun _ w1 k1 => by
    have h1 := hS.same k1
    have c0 := h1.b.play.cell 0
    simp at c0
    obtain ⟨g1, g2, g3⟩ := h1.ends.row
    rcases g3 with ⟨_, g, _⟩ | ⟨eb, eo, g, hv⟩
    · omega
    · have hg := evals_get l z y hy
      exact ⟨eb, eo, g, c0, hv.cell _ _ hg.1, by rw [Nat.add_assoc]; exact hv.cell _ _ hg.2⟩
  have HZI : Unit → (z : Int) < (l.length : Int) := fun _ => hz
  rw [← hxb, ← hcb]
  clear hS halk hx hB hxb hcb hpick hnp hnl hy hz
  obtain ⟨yx, hyx⟩ : ∃ yx, yx = y.xb := ⟨_, rfl⟩
  obtain ⟨yc, hyc⟩ : ∃ yc, yc = y.cb := ⟨_, rfl⟩
  rw [← hyx, ← hyc] at HES HPS
  clear hyx hyc
  go_enter Tryz.func44, Tryz.ntmps44
  go_wp2_with fail
  obtain ⟨W1, hW1⟩ : ∃ W1, W1 = (w.alloc (.cells #[.pointer (some ⟨xb, 0, none⟩), .pointer (some ⟨cb, 0, none⟩)] 98)).alloc (.cells #[.int .i64 10, .int .i64 oc, .int .i64 oa, .int .i64 ob, E, .bool d, .int .i64 s, .int .i64 k, .int .i64 lv, .int .i64 n, .bool f, D] 80) := ⟨_, rfl⟩
  have hb1 : Blk W1 w.heap.size #[.pointer (some ⟨xb, 0, none⟩), .pointer (some ⟨cb, 0, none⟩)] 98 := by rw [hW1]; exact (Blk.new _ _ _).old _
  have hb2 : Blk W1 (w.heap.size + 1) #[.int .i64 10, .int .i64 oc, .int .i64 oa, .int .i64 ob, E, .bool d, .int .i64 s, .int .i64 k, .int .i64 lv, .int .i64 n, .bool f, D] 80 := by rw [hW1]; exact Blk.new' _ _ _ _ (by simp)
  have hkw : Keep nil w W1 := by rw [hW1]; exact ((Keep.refl nil w).alloc _).alloc _
  rw [← hW1]
  have c0 := hb1.cell 0
  have c1 := hb1.cell 1
  have d2 := hb2.cell 2
  have d3 := hb2.cell 3
  simp at c0 c1 d2 d3
  have HKW : Unit → Keep nil w W1 := fun _ => hkw
  obtain ⟨eb, eo, rfl, e0, e1, e2⟩ := HES () W1 hkw
  have hzI := HZI ()
  clear hW1 hb1 hb2 hkw HES HZI
  generalize l.length = ln at *
  go_still_tail 20, (by kernel_rfl)
  still_call (HPK () _)
  repeat still_step
  refine wpStill_nil ?_
  go_wp2_with fail
  refine Calls.mono (HPS () _ _ ((HKW ()).drew)) ?_
  rintro r w3 ⟨rfl, hpost⟩
  have HP : Unit → LSt W0 w3 yb p1 Y (Psi R l + 24) := fun _ => hpost
  clear hpost HPS HPK c0 c1 d2 d3 e0 e1 e2
  go_wp2
  go_ret
  exact ⟨rfl, HP ()⟩
end Go.Proofs.YtlfijfodklhplaaGreat
/- One step of a script, up to Pass. -/
namespace Go.Proofs.YtlfijfodklhplaaGreat
open Go.RowKit
set_option linter.unusedVariables false
set_option linter.unusedSimpArgs false

theorem BkT.set01 {C : Cx} {w : World} {tag : Nat → Nat} {yb : Nat} {p0 p1 : Value} {R : Nat → Rw} (h : BkT C w tag yb p0 p1 R) (i : Nat) (v p0' p1' : Value) (hp : (playv p0 p1 R).setIfInBounds i v = playv p0' p1' R) : BkT C (w.setCell ⟨yb, i, none⟩ v) tag yb p0' p1' R := by
  have ks : Keep (only yb) w (w.setCell ⟨yb, i, none⟩ v) := (Keep.refl (only yb) w).setCell (p := ⟨yb, i, none⟩) (fun _ => rfl) _
  have hy := h.ty
  have hex : ∀ k, only yb k → tag k = 10 := fun k e => by rw [show k = yb from e]; exact hy
  refine ⟨h.keep.trans ks, by rw [← hp]; exact h.play.set i v, fun κ hκ => (h.row κ hκ).keep ks (fun x hx hxa e => by have := hex x e; have := (h.rlt hκ hxa).2; omega), hy, h.old, fun κ hκ i u hu => (h.item κ hκ i u hu).keep ks (fun x hx h1 => ⟨fun e => by have := hex x e; omega, h1⟩), fun k hk => h.nz k (by simpa using hk), C.st _ _ _ _ _ h.x ks (fun k hk e => Or.inr (by have := hex k e; omega)) (fun _ _ _ => rfl)⟩
/-- One end more. -/
theorem LS.newEnd {W0 w w4 : World} {tag : Nat → Nat} {yb : Nat} {ea : Option Addr} {ec : Nat} {l : List Lp} {p1 : Value} {R : Nat → Rw} {Y Z : World → (Nat → Nat) → Prop} (h : LS W0 w tag yb ea ec l p1 R Y Z) {xb cb : Nat} {ea' : Option Addr} {ec' : Nat}
    (hk : Keep (inB ea) w w4) (h1 : w.heap.size ≤ xb) (h2 : w.heap.size ≤ cb) (hne : xb ≠ cb) (hrep : Rep w4 zero24 147 xb 0 En.new Pl.new) (href : RRep w4 cb Rf.new Rp.new)
    (hrow : RV w4 98 2 ea' (l.length + 1) ec' (evals l ++ [.pointer (some ⟨xb, 0, none⟩), .pointer (some ⟨cb, 0, none⟩)])) (hea : ∀ g, inB ea' g → inB ea g ∨ (w.heap.size ≤ g ∧ g ≠ xb ∧ g ≠ cb)) :
    ∃ tag', LS W0 (w4.setCell ⟨yb, 0, none⟩ (.slice ea' (l.length + 1) ec')) tag' yb ea' ec' (l ++ [⟨xb, cb, En.new, Pl.new, Rf.new, Rp.new⟩]) p1 R Y Z := by
  classical
  obtain ⟨tag', htag⟩ : ∃ tag' : Nat → Nat, tag' = fun k => if k < w.heap.size then tag k else if k = xb then 20 + 4 * l.length else if k = cb then 21 + 4 * l.length else if inB ea' k then 17 else 0 := ⟨_, rfl⟩
  have t1 : ∀ k, k < w.heap.size → tag' k = tag k := fun k hk => by rw [htag]; simp only [hk, if_true]
  have tx : tag' xb = 20 + 4 * l.length := by rw [htag]; simp only; rw [if_neg (by omega)]; simp
  have tc : tag' cb = 21 + 4 * l.length := by rw [htag]; simp only; rw [if_neg (by omega), if_neg (fun e => hne e.symm)]; simp
  have ta : ∀ g, inB ea' g → tag' g = 17 := fun g hg => by
    rcases hea g hg with e | ⟨e1, e2, e3⟩
    · have hl := h.ends.row.lt g e
      rw [t1 g hl]; exact h.ends.tr g e
    · rw [htag]; simp only; rw [if_neg (by omega), if_neg e2, if_neg e3, if_pos hg]
  have hw : ∀ k, inB ea k → tag k = 17 := h.ends.tr
  have hE : Ends w4 tag' ea' ec' (l ++ [⟨xb, cb, En.new, Pl.new, Rf.new, Rp.new⟩]) := by
    refine ⟨?_, ta, fun j z hz => ?_⟩
    · rw [List.length_append, evals_append]
      exact hrow
    · by_cases hj : j < l.length
      · rw [List.getElem?_append_left hj] at hz
        exact (h.ends.at_ j z hz).keep hk (fun k hkl ht => ⟨fun e => by have := hw k e; omega, t1 k hkl⟩)
      · rw [List.getElem?_append_right (by omega)] at hz
        have hj0 : j - l.length = 0 := by have := (List.getElem?_eq_some_iff.1 hz).1; simp at this; omega
        rw [hj0] at hz
        simp at hz
        subst hz
        have hjl : j = l.length := by omega
        subst hjl
        refine ⟨hrep, href, fun k hm => ?_, fun k hm => ?_⟩
        · rcases hm with rfl | hm | hm | hm
          · exact tx
          · exact (inB_none k hm).elim
          · exact (inB_none k hm).elim
          · simp [Pl.new] at hm
        · rcases hm with (rfl | hm | hm | hm) | ⟨c, hm⟩
          · exact tc
          · exact (inB_none k hm).elim
          · exact (inB_none k hm).elim
          · exact (inB_none k hm).elim
          · simp [Rp.new] at hm
  have hz : ∀ k, w4.heap.size ≤ k → tag' k = 0 := fun k hkl => by
    have s1 := hk.size
    have s2 := hrep.lt xb (Or.inl rfl)
    have s3 := href.lt cb (Or.inl (Or.inl rfl))
    rw [htag]; simp only; rw [if_neg (by omega), if_neg (by omega), if_neg (by omega), if_neg (fun e => by have := hrow.lt k e; omega)]
  have hb := h.b.move (C' := cxL W0 R ea' ec' (l ++ [⟨xb, cb, En.new, Pl.new, Rf.new, Rp.new⟩]) Y Z h.y h.z) (tag' := tag') hk (fun k hkl e => by have := hw k e; omega) (fun k hkl _ => t1 k hkl) hz ⟨hE, h.y _ _ _ _ _ h.yy hk (fun k hkl ht => ⟨fun e => by have := hw k e; unfold yt at ht; omega, t1 k hkl⟩), h.z _ _ _ _ _ h.zz hk (fun k hkl ht => ⟨fun e => by have := hw k e; unfold zt at ht; omega, t1 k hkl⟩)⟩ rfl
  refine ⟨tag', h.y, h.z, ?_⟩
  rw [show (l ++ [(⟨xb, cb, En.new, Pl.new, Rf.new, Rp.new⟩ : Lp)]).length = l.length + 1 by simp]
  exact hb.set01 0 _ _ _ rfl
theorem lsum_new (l : List Lp) (xb cb : Nat) : lsum (l ++ [⟨xb, cb, En.new, Pl.new, Rf.new, Rp.new⟩]) = lsum l := by
  simp [lsum, En.wt, En.new, osum]
theorem rows2_self (R : Nat → Rw) : rows2 R (R 0) (R 1) = R := by
  funext i; unfold rows2
  split
  · rename_i h; subst h; rfl
  · split
    · rename_i h; subst h; rfl
    · rfl
/-- Check, Encode, Decode, beside ends. -/
theorem plain_st (W0 w : World) (yb : Nat) (p1 : Value) (Y : World → (Nat → Nat) → Prop) (B : Nat) (h : LSt W0 w yb p1 Y B) (o : OpD) (hok : o.ok w) (h1 : 1 ≤ o.kd) (h3 : o.kd ≤ 3) (hB : (B : Int) < 1000000000) :
    Calls Tryz.prog 40 #[.pointer (some ⟨yb, 0, none⟩), o.v] w fun e w' => e = .returned (.bool true) ∧ LSt W0 w' yb p1 Y (B + 24) := by
  obtain ⟨tag, ea, ec, l, R, Z, hS, hak, hps⟩ := h
  have b := psi_le R l
  have b0 := b.1 0 (by omega)
  have b1 := b.1 1 (by omega)
  have hBk : Book2 (cxL W0 R ea ec l Y Z hS.y hS.z) w yb (.slice ea l.length ec) p1 (R 0).n (R 1).n := by
    refine ⟨(R 0).a, (R 0).c, (R 0).V, (R 1).a, (R 1).c, (R 1).V, tag, ?_⟩
    have := hS.b
    rw [show rows2 (cxL W0 R ea ec l Y Z hS.y hS.z).R ⟨(R 0).a, (R 0).n, (R 0).c, (R 0).V⟩ ⟨(R 1).a, (R 1).n, (R 1).c, (R 1).V⟩ = R from rows2_self R]
    exact this
  refine (plain2_any _ w yb _ p1 (R 0).n (R 1).n hBk o hok h1 h3 (by omega) (by omega)).mono ?_
  rintro e w' ⟨rfl, na', nb', ha, hb, a0, ca, VA, b0', cb, VB, tag', h'⟩
  refine ⟨rfl, tag', ea, ec, l, rows2 R ⟨a0, na', ca, VA⟩ ⟨b0', nb', cb, VB⟩, Z, ⟨hS.y, hS.z, ?_⟩, hak, ?_⟩
  · exact ⟨h'.keep, h'.play, h'.row, h'.ty, h'.old, h'.item, h'.nz, h'.x⟩
  · have e0 : (rows2 R ⟨a0, na', ca, VA⟩ ⟨b0', nb', cb, VB⟩ 0).n = na' := rfl
    have e1 : (rows2 R ⟨a0, na', ca, VA⟩ ⟨b0', nb', cb, VB⟩ 1).n = nb' := rfl
    have e2 : ∀ j, 2 ≤ j → rows2 R ⟨a0, na', ca, VA⟩ ⟨b0', nb', cb, VB⟩ j = R j := fun j hj => by unfold rows2; rw [if_neg (by omega), if_neg (by omega)]
    unfold Psi at hps ⊢
    rw [e0, e1, e2 2 (by omega), e2 3 (by omega), e2 4 (by omega), e2 5 (by omega)]
    omega

theorem end_info : (Tryz.prog.info? 98).map (fun i => (i.zero, i.size, i.bytes)) = some (some (.agg #[.pointer none, .pointer none]), 2, 16) := by kernel_rfl

theorem heldY_drew {w2 w' : World} {yb : Nat} {ea : Option Addr} {v : Value} (h : w'.cell? ⟨yb, 0, none⟩ = some v ∧ w'.frozen? ⟨yb, 0, none⟩ = false ∧ Keep (inB ea) w2 w') : w'.drew.cell? ⟨yb, 0, none⟩ = some v ∧ w'.drew.frozen? ⟨yb, 0, none⟩ = false ∧ Keep (inB ea) w2 w'.drew := ⟨h.1, h.2.1, h.2.2.drew⟩
theorem heldY_keep {ex : Nat → Prop} {w2 w' w3 : World} {yb : Nat} {ea : Option Addr} {v : Value} (hy : ¬ inB ea yb) (hl : yb < w2.heap.size) (h : w'.cell? ⟨yb, 0, none⟩ = some v ∧ w'.frozen? ⟨yb, 0, none⟩ = false ∧ Keep (inB ea) w2 w') (k : Keep ex w' w3) (hx : ∀ i, ex i → inB ea i) : w3.cell? ⟨yb, 0, none⟩ = some v ∧ w3.frozen? ⟨yb, 0, none⟩ = false ∧ Keep (inB ea) w2 w3 := by
  have hl' : yb < w'.heap.size := Nat.lt_of_lt_of_le hl h.2.2.size
  exact ⟨(k.cell yb 0 hl' (fun e => hy (hx yb e))).trans h.1, (k.frozen yb 0 hl' (fun e => hy (hx yb e))).trans h.2.1, h.2.2.trans (k.mono (fun i _ e => hx i e))⟩
theorem heldY_alloc {w2 w' : World} {yb : Nat} {ea : Option Addr} {v : Value} (h : w'.cell? ⟨yb, 0, none⟩ = some v ∧ w'.frozen? ⟨yb, 0, none⟩ = false ∧ Keep (inB ea) w2 w') (hl : yb < w2.heap.size) (hy : ¬ inB ea yb) (o : Obj) : (w'.alloc o).cell? ⟨yb, 0, none⟩ = some v ∧ (w'.alloc o).frozen? ⟨yb, 0, none⟩ = false ∧ Keep (inB ea) w2 (w'.alloc o) :=
  heldY_keep hy hl h ((Keep.refl nil w').alloc o) (fun _ e => e.elim)

set_option maxRecDepth 100000 in
set_option maxHeartbeats 2000000 in
theorem step_end (W0 w : World) (yb : Nat) (p1 : Value) (Y : World → (Nat → Nat) → Prop) (B : Nat) (h : LSt W0 w yb p1 Y B) (oc oa ob : Int) (E : Value) (d : Bool) (s k lv n : Int) (f : Bool) (D : Value) (he : E.oneCell' = true) (hd : D.oneCell' = true) (hB : (B : Int) < 1000000000) :
    Calls Tryz.prog 27 #[.pointer (some ⟨yb, 0, none⟩), opv 4 oc oa ob E d s k lv n f D] w fun e w' => e = .returned (.bool true) ∧ LSt W0 w' yb p1 Y (B + 24) := by
  obtain ⟨tag, ea, ec, l, R, Z, hS, hak, hps⟩ := h
  have H0 : Unit → LS W0 w tag yb ea ec l p1 R Y Z ∧ Alk l ∧ Psi R l ≤ B ∧ (B : Int) < 1000000000 := fun _ => ⟨hS, hak, hps, hB⟩
  clear hS hak hps hB
  go_enter Tryz.func27, Tryz.ntmps27
  go_wp2_with fail
  obtain ⟨W1, hW1⟩ : ∃ W1, W1 = w.alloc (.cells #[.int .i64 4, .int .i64 oc, .int .i64 oa, .int .i64 ob, E, .bool d, .int .i64 s, .int .i64 k, .int .i64 lv, .int .i64 n, .bool f, D] 80) := ⟨_, rfl⟩
  have hkw : Keep nil w W1 := by rw [hW1]; exact (Keep.refl nil w).alloc _
  rw [← hW1]
  have HKW : Unit → Keep nil w W1 := fun _ => hkw
  clear hW1 hkw
  refine (newEnd_any W1).mono ?_
  rintro r w2 ⟨rfl, hrep, k2⟩
  obtain ⟨xb, hxb⟩ : ∃ xb, xb = W1.heap.size := ⟨_, rfl⟩
  rw [← hxb] at hrep ⊢
  have H2 : Unit → Rep w2 zero24 147 xb 0 En.new Pl.new ∧ Keep nil W1 w2 ∧ xb = W1.heap.size := fun _ => ⟨hrep, k2, hxb⟩
  clear hrep k2 hxb
  have c0 := (((H0 ()).1.same (HKW ())).same (H2 ()).2.1).b.play.cell 0
  have f0 := (((H0 ()).1.same (HKW ())).same (H2 ()).2.1).b.play.frozen 0
  simp at c0
  have hyl : yb < w2.heap.size := (((H0 ()).1.same (HKW ())).same (H2 ()).2.1).ylt.1
  have HRW : Unit → ∀ w3, Keep nil w2 w3 → RV w3 98 2 ea l.length ec (evals l) := fun _ w3 k3 => ((((H0 ()).1.same (HKW ())).same (H2 ()).2.1).same k3).ends.row
  have HLL : Unit → (l.length : Int) < 1000000000 := fun _ => by have h1 := (psi_le R l).2.1; have h2 := H0 (); omega
  generalize hln : l.length = ln at *
  generalize hev : evals l = ev at *
  go_wp2_with fail
  have hya : ¬ inB ea yb := fun e => by have h1 := (H0 ()).1.ends.tr yb e; have h2 := (H0 ()).1.ylt; omega
  have HYA : Unit → ¬ inB ea yb := fun _ => hya
  have c0' : w2.cell? ⟨yb, 0, none⟩ = some (.slice ea ln ec) ∧ w2.frozen? ⟨yb, 0, none⟩ = false ∧ Keep (inB ea) w2 w2 := ⟨c0, f0, Keep.refl _ _⟩
  go_region_law (first
    | (refine step_append_rvS rfl (.tmp 31) (.tmp 35) 62 rfl 98 (.agg #[.pointer none, .pointer none]) 2 16 Tryz.underlying62 end_info rfl ea ln ec (by simp [Act.eval, Act.put]) ev ((HRW () w3 (((Keep.refl nil w2).drew).trans hk3)).alloc _) ⟨w3.heap.size, 0, none⟩ 1 1 (by omega) rfl [.pointer (some ⟨xb, 0, none⟩), .pointer (some ⟨w2.heap.size, 0, none⟩)] rfl (cells_elist w3 [.pointer (some ⟨xb, 0, none⟩), .pointer (some ⟨w2.heap.size, 0, none⟩)] 98 _ rfl) (by intro u hu; simp at hu; rcases hu with rfl | rfl <;> rfl) (by have := HLL (); omega) (by have := HLL (); omega) ?_; intro a' c' w4 hb4 hd4 hk4; have g0 := ((((Keep.refl nil w3).alloc _).mono (fun _ _ e => e.elim)).trans hk4).cell yb 0 (Nat.lt_of_lt_of_le hyl hk3.size) (HYA ()); have g1 := ((((Keep.refl nil w3).alloc _).mono (fun _ _ e => e.elim)).trans hk4).frozen yb 0 (Nat.lt_of_lt_of_le hyl hk3.size) (HYA ()); rw [d0] at g0; rw [d1] at g1)
    | (go_simp; go_at_call 42; refine (refNew_any _).mono ?_; rintro r w3 ⟨rfl, hr3, hk3⟩; have d0 := (hk3.cell yb 0 hyl (fun e => e)).trans c0; have d1 := (hk3.frozen yb 0 hyl (fun e => e)).trans f0; have hy3 : yb < w3.heap.size := Nat.lt_of_lt_of_le hyl hk3.size))
  all_goals
    have HP : Unit → LSt W0 (w4.setCell ⟨yb, 0, none⟩ (.slice a' (ln + 1) c')) yb p1 Y (B + 24) := fun _ => by
      obtain ⟨hS, hak, hps, hB⟩ := H0 ()
      obtain ⟨hrep, k2, hxb⟩ := H2 ()
      have hS1 := hS.same (HKW ())
      have k24 : Keep (inB ea) w2 w4 := (((((Keep.refl nil w2).drew).trans hk3).alloc _).mono (fun _ _ e => e.elim)).trans hk4
      have k14 : Keep (inB ea) W1 w4 := (k2.mono (fun _ _ e => e.elim)).trans k24
      have k34 : Keep (inB ea) w3 w4 := (((Keep.refl nil w3).alloc _).mono (fun _ _ e => e.elim)).trans hk4
      have hx2 := hrep.lt xb (Or.inl rfl)
      have hc3 : w2.heap.size < w3.heap.size := hr3.lt _ (Or.inl (Or.inl rfl))
      have hs2 := k2.size
      have hE17 : ∀ g, inB ea g → g < W1.heap.size := hS1.ends.row.lt
      have hnx : ¬ inB ea xb := fun e => by have := hE17 xb e; omega
      have hnc : ¬ inB ea w2.heap.size := fun e => by have := hE17 _ e; omega
      have hrep4 : Rep w4 zero24 147 xb 0 En.new Pl.new := hrep.keep k24 (fun j hj e => by
        rcases hj with rfl | hj | hj | hj
        · exact hnx e
        · exact inB_none j hj
        · exact inB_none j hj
        · simp [Pl.new] at hj)
      have href4 : RRep w4 w2.heap.size Rf.new Rp.new := RRep.keep hr3 k34 (fun j hj e => by
        rcases hj with (hj | hj | hj | hj) | ⟨c, hj⟩
        · rw [show j = w2.heap.size from hj] at e; exact hnc e
        · exact inB_none j hj
        · exact inB_none j hj
        · exact inB_none j hj
        · simp [Rp.new] at hj)
      rw [← hln, ← hev] at hb4
      rw [← hln]
      obtain ⟨tag', hS'⟩ := hS1.newEnd k14 (show W1.heap.size ≤ xb by omega) (show W1.heap.size ≤ w2.heap.size from hs2) (by omega) hrep4 href4 hb4 (fun g hg => by
        rcases hd4 with ⟨e, _⟩ | ⟨e, _⟩
        · rw [e] at hg; exact Or.inl hg
        · rw [e] at hg
          have := inB_some.1 hg
          simp only [World.size_alloc] at this
          exact Or.inr ⟨by omega, by omega, by omega⟩)
      refine ⟨tag', _, _, _, R, Z, hS', fun j z hz => ?_, ?_⟩
      · by_cases hj : j < l.length
        · rw [List.getElem?_append_left hj] at hz; exact hak j z hz
        · rw [List.getElem?_append_right (by omega)] at hz
          have hz' := List.mem_of_getElem? hz
          simp at hz'
          subst hz'
          exact Lk.new
      · unfold Psi at hps ⊢
        rw [lsum_new, List.length_append]
        simp only [List.length_cons, List.length_nil]
        omega
    clear hb4 hd4 hk4 hr3 hk3 d0 d1 g0 g1 hy3
    go_wp2
    go_ret
    exact ⟨rfl, HP ()⟩
end Go.Proofs.YtlfijfodklhplaaGreat
/- One step of a script, up to Pass: all kinds. -/
namespace Go.Proofs.YtlfijfodklhplaaGreat
open Go.RowKit
set_option linter.unusedVariables false
set_option linter.unusedSimpArgs false

/-- What a step's numbers and lists must be: numbers of 64 bits; bytes that lie where nobody writes. -/
structure OpD.fit (W0 : World) (yb : Nat) (o : OpD) : Prop where
  c : -9223372036854775808 ≤ o.oc ∧ o.oc ≤ 9223372036854775807
  b : -9223372036854775808 ≤ o.ob ∧ o.ob ≤ 9223372036854775807
  d : ∀ bb bo, o.da = some ⟨bb, bo, none⟩ → o.ds ≠ [] → bb < W0.heap.size ∧ bb ≠ yb
theorem linked_any (W0 w : World) (tag : Nat → Nat) (yb : Nat) (ea : Option Addr) (ec : Nat) (l : List Lp) (p1 : Value) (R : Nat → Rw) (Y Z : World → (Nat → Nat) → Prop) (hS : LS W0 w tag yb ea ec l p1 R Y Z) (halk : Alk l) (i : Nat) (x : Lp) (hx : l[i]? = some x) (hB : (Psi R l : Int) < 1000000000)
    (o : OpD) (hok : o.ok w) (hfit : o.fit W0 yb) (h5 : 5 ≤ o.kd) (h10 : o.kd ≤ 10) :
    Calls Tryz.prog 44 #[.pointer (some ⟨yb, 0, none⟩), .agg #[.pointer (some ⟨x.xb, 0, none⟩), .pointer (some ⟨x.cb, 0, none⟩)], o.v] w fun e w' => e = .returned (.bool true) ∧ LSt W0 w' yb p1 Y (Psi R l + 24) := by
  obtain ⟨kd, oc, oa, ob, eda, es, ede, d, s, k, lv, n, f, da, ds, dc⟩ := o
  simp only at h5 h10
  obtain rfl | rfl | rfl | rfl | rfl | rfl : kd = 5 ∨ kd = 6 ∨ kd = 7 ∨ kd = 8 ∨ kd = 9 ∨ kd = 10 := by omega
  · exact linked_send W0 w tag yb ea ec l p1 R Y Z hS halk i x hx hB oc oa ob _ d s k lv n f _ rfl rfl
  · exact linked_in W0 w tag yb ea ec l p1 R Y Z hS halk i x hx hB oc oa ob _ d s k lv n f _ da ds dc rfl hok.dd hfit.d rfl rfl
  · exact linked_got W0 w tag yb ea ec l p1 R Y Z hS halk i x hx hB oc oa ob _ d s k lv n f _ rfl rfl
  · exact linked_tick W0 w tag yb ea ec l p1 R Y Z hS halk i x hx hB oc oa ob _ d s k lv n f _ rfl rfl
  · exact linked_out W0 w tag yb ea ec l p1 R Y Z hS halk i x hx hB oc oa ob _ d s k lv n f _ rfl rfl
  · exact linked_pass W0 w tag yb ea ec l p1 R Y Z hS halk i x hx hB oc oa ob _ d s k lv n f _ hfit.b rfl rfl

set_option maxRecDepth 100000 in
set_option maxHeartbeats 2000000 in
theorem step_link (W0 w : World) (yb : Nat) (p1 : Value) (Y : World → (Nat → Nat) → Prop) (B : Nat) (h : LSt W0 w yb p1 Y B) (o : OpD) (hok : o.ok w) (hfit : o.fit W0 yb) (h5 : 5 ≤ o.kd) (h10 : o.kd ≤ 10) (hB : (B : Int) < 1000000000) :
    Calls Tryz.prog 27 #[.pointer (some ⟨yb, 0, none⟩), o.v] w fun e w' => e = .returned (.bool true) ∧ LSt W0 w' yb p1 Y (B + 24) := by
  have HL : Unit → LSt W0 w yb p1 Y B := fun _ => h
  obtain ⟨tag, ea, ec, l, R, Z, hS, hak, hps⟩ := h
  by_cases h0 : l.length = 0
  · have c0' := hS.b.play.cell 0
    simp at c0'
    rw [h0] at c0'
    have hyl := hS.ylt.1
    obtain ⟨kd, oc, oa, ob, eda, es, ede, d, s, k, lv, n, f, da, ds, dc⟩ := o
    clear hok hfit hS hak hps hB h0
    simp only at h5 h10
    go_enter Tryz.func27, Tryz.ntmps27
    go_wp2
    go_ret
    exact ⟨rfl, ((HL ()).same ((Keep.refl nil w).alloc _)).more (by omega)⟩
  · have hnl := (psi_le R l).2.1
    obtain ⟨z, hz, hpick⟩ := pickL_nat o.oc (l.length : Int) hfit.c.1 hfit.c.2 (by omega) (by omega)
    obtain ⟨x, hx⟩ : ∃ x, l[z]? = some x := ⟨_, List.getElem?_eq_getElem (by omega)⟩
    have HPK : Unit → ∀ w, Calls Tryz.prog 45 #[.int .i64 o.oc, .int .i64 (l.length : Int)] w fun e w' => e = .returned (.int .i64 (z : Int)) ∧ w' = w := fun _ w => (hpick w).mono (fun _ _ h => ⟨h.1, h.2.symm⟩)
    have HLK : Unit → ∀ w1, Keep nil w w1 → Calls Tryz.prog 44 #[.pointer (some ⟨yb, 0, none⟩), .agg #[.pointer (some ⟨x.xb, 0, none⟩), .pointer (some ⟨x.cb, 0, none⟩)], o.v] w1 fun e w' => e = .returned (.bool true) ∧ LSt W0 w' yb p1 Y (Psi R l + 24) := fun _ w1 k1 =>
      linked_any W0 w1 tag yb ea ec l p1 R Y Z (hS.same k1) hak z x hx (by omega) o (hok.keep k1 ⟨fun _ _ _ _ e => e, fun _ _ _ _ e => e⟩) hfit h5 h10
    have HES : Unit → ∀ w1, Keep nil w w1 → ∃ eb eo, ea = some ⟨eb, eo, none⟩ ∧ w1.cell? ⟨yb, 0, none⟩ = some (.slice ea l.length ec) ∧ w1.cell? ⟨eb, eo + z * 2, none⟩ = some (.pointer (some ⟨x.xb, 0, none⟩)) ∧ w1.cell? ⟨eb, eo + z * 2 + 1, none⟩ = some (.pointer (some ⟨x.cb, 0, none⟩)) := fun _ w1 k1 => by
      have h1 := hS.same k1
      have c0 := h1.b.play.cell 0
      simp at c0
      obtain ⟨g1, g2, g3⟩ := h1.ends.row
      rcases g3 with ⟨_, g, _⟩ | ⟨eb, eo, g, hv⟩
      · omega
      · have hg := evals_get l z x hx
        exact ⟨eb, eo, g, c0, hv.cell _ _ hg.1, by rw [Nat.add_assoc]; exact hv.cell _ _ hg.2⟩
    have HZI : Unit → (z : Int) < (l.length : Int) ∧ Psi R l ≤ B ∧ 0 < l.length := fun _ => ⟨hz, hps, by omega⟩
    clear hok hfit hS hak hps hB hpick hx hz hnl h0
    obtain ⟨xb, hxb⟩ : ∃ xb, xb = x.xb := ⟨_, rfl⟩
    obtain ⟨cb, hcb⟩ : ∃ cb, cb = x.cb := ⟨_, rfl⟩
    rw [← hxb, ← hcb] at HLK HES
    clear hxb hcb
    obtain ⟨kd, oc, oa, ob, eda, es, ede, d, s, k, lv, n, f, da, ds, dc⟩ := o
    simp only [OpD.v] at h5 h10 HPK HLK ⊢
    generalize es.length = el at *
    generalize ds.length = dl at *
    go_enter Tryz.func27, Tryz.ntmps27
    obtain ⟨eb, eo, he, e0, e1, e2⟩ := HES () w (Keep.refl _ _)
    have hyl : yb < w.heap.size := World.block_lt_of_cell? w _ e0
    have hl0 : decide ((l.length : Int) = 0) = false := decide_eq_false (by have := HZI (); omega)
    have hl1 : ((l.length : Int) == 0) = false := by rw [beq_eq_false_iff_ne]; have := HZI (); omega
    go_wp2_with fail
    obtain ⟨W1, hW1⟩ : ∃ W1, W1 = w.alloc (.cells #[.int .i64 kd, .int .i64 oc, .int .i64 oa, .int .i64 ob, .slice eda el ede, .bool d, .int .i64 s, .int .i64 k, .int .i64 lv, .int .i64 n, .bool f, .slice da dl dc] 80) := ⟨_, rfl⟩
    have hb2 : Blk W1 w.heap.size #[.int .i64 kd, .int .i64 oc, .int .i64 oa, .int .i64 ob, .slice eda el ede, .bool d, .int .i64 s, .int .i64 k, .int .i64 lv, .int .i64 n, .bool f, .slice da dl dc] 80 := by rw [hW1]; exact Blk.new _ _ _
    have hkw : Keep nil w W1 := by rw [hW1]; exact (Keep.refl nil w).alloc _
    rw [← hW1]
    have HKW : Unit → Keep nil w W1 := fun _ => hkw
    clear e0 e1 e2 he hl0 hl1
    obtain ⟨eb, eo, rfl, e0, e1, e2⟩ := HES () W1 hkw
    have d0 := hb2.cell 0
    have d1 := hb2.cell 1
    have d2 := hb2.cell 2
    have d3 := hb2.cell 3
    have d4 := hb2.cell 4
    have d5 := hb2.cell 5
    have d6 := hb2.cell 6
    have d7 := hb2.cell 7
    have d8 := hb2.cell 8
    have d9 := hb2.cell 9
    have d10 := hb2.cell 10
    have d11 := hb2.cell 11
    simp at d0 d1 d2 d3 d4 d5 d6 d7 d8 d9 d10 d11
    have hzI := (HZI ()).1
    have HPS : Unit → Psi R l ≤ B := fun _ => (HZI ()).2.1
    clear hW1 hb2 hkw HES HZI
    generalize l.length = ln at *
    go_still_tail 16, (by kernel_rfl)
    still_call (HPK () _)
    repeat still_step
    refine wpStill_nil ?_
    go_wp2_with fail
    refine Calls.mono (HLK () _ ((HKW ()).drew)) ?_
    rintro r w3 ⟨rfl, hpost⟩
    have HP : Unit → LSt W0 w3 yb p1 Y (Psi R l + 24) := fun _ => hpost
    clear hpost HLK HPK d0 d1 d2 d3 d4 d5 d6 d7 d8 d9 d10 d11 e0 e1 e2
    go_wp2
    go_ret
    exact ⟨rfl, (HP ()).more (by have := HPS (); omega)⟩

set_option maxRecDepth 100000 in
set_option maxHeartbeats 2000000 in
/-- One step of a script. -/
theorem step_all10 (W0 w : World) (yb : Nat) (p1 : Value) (Y : World → (Nat → Nat) → Prop) (B : Nat) (h : LSt W0 w yb p1 Y B) (o : OpD) (hok : o.ok w) (hfit : o.fit W0 yb) (h10 : o.kd ≤ 10) (hB : (B : Int) < 1000000000) :
    Calls Tryz.prog 27 #[.pointer (some ⟨yb, 0, none⟩), o.v] w fun e w' => e = .returned (.bool true) ∧ LSt W0 w' yb p1 Y (B + 24) := by
  by_cases h5 : 5 ≤ o.kd
  · exact step_link W0 w yb p1 Y B h o hok hfit h5 h10 hB
  by_cases h4 : o.kd = 4
  · obtain ⟨kd, oc, oa, ob, eda, es, ede, d, s, k, lv, n, f, da, ds, dc⟩ := o
    simp only at h4
    subst h4
    exact step_end W0 w yb p1 Y B h oc oa ob _ d s k lv n f _ rfl rfl hB
  have HL : Unit → LSt W0 w yb p1 Y B := fun _ => h
  by_cases h1 : o.kd < 1
  · obtain ⟨kd, oc, oa, ob, eda, es, ede, d, s, k, lv, n, f, da, ds, dc⟩ := o
    clear hok hfit hB h5 h4 h10 h
    simp only at h1
    go_enter Tryz.func27, Tryz.ntmps27
    go_wp2
    go_ret
    exact ⟨rfl, ((HL ()).same ((Keep.refl nil w).alloc _)).more (by omega)⟩
  · have HP : Unit → ∀ w1, Keep nil w w1 → Calls Tryz.prog 40 #[.pointer (some ⟨yb, 0, none⟩), o.v] w1 fun e w' => e = .returned (.bool true) ∧ LSt W0 w' yb p1 Y (B + 24) := fun _ w1 k1 =>
      plain_st W0 w1 yb p1 Y B (h.same k1) o (hok.keep k1 ⟨fun _ _ _ _ e => e, fun _ _ _ _ e => e⟩) (by omega) (by omega) hB
    obtain ⟨kd, oc, oa, ob, eda, es, ede, d, s, k, lv, n, f, da, ds, dc⟩ := o
    clear hok hfit hB h
    simp only at h1 h5 h4 h10
    have h1' : 1 ≤ kd := by omega
    have h3' : kd ≤ 3 := by omega
    clear h1 h5 h4 h10
    simp only [OpD.v] at HP
    go_enter Tryz.func27, Tryz.ntmps27
    go_wp2_with fail
    refine Calls.mono (HP () _ ((Keep.refl nil w).alloc _)) ?_
    rintro e w2 ⟨rfl, hpost⟩
    have HK : Unit → LSt W0 w2 yb p1 Y (B + 24) := fun _ => hpost
    clear hpost HP
    go_wp2
    go_ret
    exact ⟨rfl, HK ()⟩
end Go.Proofs.YtlfijfodklhplaaGreat
