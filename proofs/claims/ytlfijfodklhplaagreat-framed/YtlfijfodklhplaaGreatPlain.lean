/- Walks of plain: Encode and Decode. -/
import Derived.Test.YtlfijfodklhplaaGreatBookK
import Derived.Test.YtlfijfodklhplaaGreatEncErr
import Derived.Test.YtlfijfodklhplaaGreatDecNil
import Derived.Test.YtlfijfodklhplaaGreatRefEncE
import Derived.Test.YtlfijfodklhplaaGreatRefDecAny
import Derived.Test.YtlfijfodklhplaaGreatLent
namespace Go.Proofs.YtlfijfodklhplaaGreat
open Go.RowKit
set_option linter.unusedVariables false
set_option linter.unusedSimpArgs false

/-- A step, as a value. -/
abbrev opv (kd oc oa ob : Int) (E : Value) (d : Bool) (s k l n : Int) (f : Bool) (D : Value) : Value :=
  .agg #[.int .i64 kd, .int .i64 oc, .int .i64 oa, .int .i64 ob, E, .bool d, .int .i64 s, .int .i64 k, .int .i64 l, .int .i64 n, .bool f, D]

theorem enc_le (f : Fr.Frm) : (Fr.enc f).length ≤ 10 := by
  rw [enc_len]; rcases (show flen f = 5 ∨ flen f = 10 by unfold flen; split <;> simp) with h | h <;> omega

set_option maxRecDepth 100000 in
set_option maxHeartbeats 2000000 in
theorem plain_enc_err (W0 w : World) (yb : Nat) (p0 p1 : Value) (na nb : Nat) (hB : Book W0 w yb p0 p1 na nb) (oc oa ob : Int) (E : Value) (d : Bool) (s k l n : Int) (f : Bool) (D : Value)
    (he : E.oneCell' = true) (hd : D.oneCell' = true) (herr : encErr d s k l n f ≠ 0) (hna : (na : Int) < 1099511627776) :
    Calls Tryz.prog 40 #[.pointer (some ⟨yb, 0, none⟩), opv 2 oc oa ob E d s k l n f D] w fun e w' => e = .returned (.bool true) ∧ Book W0 w' yb p0 p1 (na + 1) nb := by
  obtain ⟨a0, ca, VA, b0, cb, VB, hb⟩ := hB
  have HB : Unit → Bk W0 w yb p0 p1 a0 na ca VA b0 nb cb VB := fun _ => hb
  have HN : Unit → (na : Int) < 1099511627776 := fun _ => hna
  have H1 : Unit → ∀ w, Calls Tryz.prog 76 #[.agg (fc d s k l n f)] w fun e w' => e = .returned (.tuple #[.slice none 0 0, .int .i64 (encErr d s k l n f)]) ∧ Keep nil w w' := fun _ => arborEncode_err d s k l n f herr
  have H2 : Unit → ∀ w, Calls Tryz.prog 77 #[.agg (fc d s k l n f)] w fun e w' => e = .returned (.tuple #[.slice none 0 0, .int .i64 (encErr d s k l n f)]) ∧ Keep nil w w' := fun _ => refenc_err d s k l n f herr
  clear hb hna herr
  generalize encErr d s k l n f = er at H1 H2
  go_enter Tryz.func40, Tryz.ntmps40
  go_wp2_with fail
  obtain ⟨W1, hW1⟩ : ∃ W1, W1 = w.alloc (.cells #[.int .i64 2, .int .i64 oc, .int .i64 oa, .int .i64 ob, E, .bool d, .int .i64 s, .int .i64 k, .int .i64 l, .int .i64 n, .bool f, D] 80) := ⟨_, rfl⟩
  have hbx : Blk W1 w.heap.size #[.int .i64 2, .int .i64 oc, .int .i64 oa, .int .i64 ob, E, .bool d, .int .i64 s, .int .i64 k, .int .i64 l, .int .i64 n, .bool f, D] 80 := by rw [hW1]; exact Blk.new _ _ _
  have hkw : Keep nil w W1 := by rw [hW1]; exact (Keep.refl nil w).alloc _
  rw [← hW1]
  obtain ⟨xb, hxb⟩ : ∃ xb, xb = w.heap.size := ⟨_, rfl⟩
  rw [← hxb] at hbx ⊢
  have HX : Unit → Blk W1 xb #[.int .i64 2, .int .i64 oc, .int .i64 oa, .int .i64 ob, E, .bool d, .int .i64 s, .int .i64 k, .int .i64 l, .int .i64 n, .bool f, D] 80 ∧ Keep nil w W1 := fun _ => ⟨hbx, hkw⟩
  clear hW1 hbx hkw hxb
  refine (H1 () _).mono ?_
  rintro e w2 ⟨rfl, hk2⟩
  have c5 := ((HX ()).1.keep hk2 (fun e => e)).cell 5
  have c6 := ((HX ()).1.keep hk2 (fun e => e)).cell 6
  have c7 := ((HX ()).1.keep hk2 (fun e => e)).cell 7
  have c8 := ((HX ()).1.keep hk2 (fun e => e)).cell 8
  have c9 := ((HX ()).1.keep hk2 (fun e => e)).cell 9
  have c10 := ((HX ()).1.keep hk2 (fun e => e)).cell 10
  simp at c5 c6 c7 c8 c9 c10
  go_wp2_with fail
  refine (H2 () _).mono ?_
  rintro e w3 ⟨rfl, hk3⟩
  have HK : Unit → Keep nil w w3 := fun _ => ((HX ()).2.trans hk2).trans hk3
  clear hk2 hk3 c5 c6 c7 c8 c9 c10
  have HT : Unit → _ := fun _ => told_nils yb a0 na ca VA p0 p1 (.slice b0 nb cb) (.slice none 0 0) (.slice none 0 0) (.slice none 0 0) (.slice none 0 0) w3 (((HB ()).same (HK ())).play) (((HB ()).same (HK ())).rowA.out (fun x _ _ h e => h (Or.inl e))) (HN ())
  go_wp2_with fail
  refine Calls.mono (HT ()) ?_
  rintro e w4 ⟨rfl, hpost⟩
  have HP : Unit → Book W0 w4 yb p0 p1 (na + 1) nb := fun _ => (HB ()).sheet (HK ()) (fun x e => e.elim) hpost
  clear hpost HT
  go_wp2
  go_ret
  exact ⟨rfl, HP ()⟩

set_option maxRecDepth 100000 in
set_option maxHeartbeats 2000000 in
theorem plain_enc_ok (W0 w : World) (yb : Nat) (p0 p1 : Value) (na nb : Nat) (hB : Book W0 w yb p0 p1 na nb) (oc oa ob : Int) (E : Value) (d : Bool) (s k l n : Int) (f : Bool) (D : Value)
    (he : E.oneCell' = true) (hd : D.oneCell' = true) (herr : encErr d s k l n f = 0) (hna : (na : Int) < 1099511627776) :
    Calls Tryz.prog 40 #[.pointer (some ⟨yb, 0, none⟩), opv 2 oc oa ob E d s k l n f D] w fun e w' => e = .returned (.bool true) ∧ Book W0 w' yb p0 p1 (na + 1) nb := by
  obtain ⟨a0, ca, VA, b0, cb, VB, hb⟩ := hB
  have HB : Unit → Bk W0 w yb p0 p1 a0 na ca VA b0 nb cb VB := fun _ => hb
  have HN : Unit → (na : Int) < 1099511627776 := fun _ => hna
  obtain ⟨fr, hok, hfv⟩ := frame_of herr
  have H1 : Unit → ∀ w, Calls Tryz.prog 76 #[.agg (fc d s k l n f)] w fun e w' => ∃ g, e = .returned (.tuple #[.slice (some ⟨g, 0, none⟩) (flen fr) 10, .int .i64 0]) ∧ w.heap.size ≤ g ∧ Buf w' g (Fr.enc fr) 10 ∧ Keep nil w w' := fun _ w => by rw [← hfv]; exact arborEncode_any fr hok w
  have H2 : Unit → ∀ w, Calls Tryz.prog 77 #[.agg (fc d s k l n f)] w fun e w' => ∃ g c, e = .returned (.tuple #[.slice (some ⟨g, 0, none⟩) (flen fr) c, .int .i64 0]) ∧ w.heap.size ≤ g ∧ flen fr ≤ c ∧ BRow w' g (Fr.enc fr) c ∧ Keep nil w w' := fun _ w => by rw [← hfv]; exact refenc_any fr hok w
  clear hb hna herr hok hfv
  go_enter Tryz.func40, Tryz.ntmps40
  go_wp2_with fail
  obtain ⟨W1, hW1⟩ : ∃ W1, W1 = w.alloc (.cells #[.int .i64 2, .int .i64 oc, .int .i64 oa, .int .i64 ob, E, .bool d, .int .i64 s, .int .i64 k, .int .i64 l, .int .i64 n, .bool f, D] 80) := ⟨_, rfl⟩
  have hbx : Blk W1 w.heap.size #[.int .i64 2, .int .i64 oc, .int .i64 oa, .int .i64 ob, E, .bool d, .int .i64 s, .int .i64 k, .int .i64 l, .int .i64 n, .bool f, D] 80 := by rw [hW1]; exact Blk.new _ _ _
  have hkw : Keep nil w W1 := by rw [hW1]; exact (Keep.refl nil w).alloc _
  rw [← hW1]
  obtain ⟨xb, hxb⟩ : ∃ xb, xb = w.heap.size := ⟨_, rfl⟩
  rw [← hxb] at hbx ⊢
  have HX : Unit → Blk W1 xb #[.int .i64 2, .int .i64 oc, .int .i64 oa, .int .i64 ob, E, .bool d, .int .i64 s, .int .i64 k, .int .i64 l, .int .i64 n, .bool f, D] 80 ∧ Keep nil w W1 := fun _ => ⟨hbx, hkw⟩
  clear hW1 hbx hkw hxb
  refine (H1 () _).mono ?_
  rintro e w2 ⟨g, rfl, hg, hbg, hk2⟩
  have c5 := ((HX ()).1.keep hk2 (fun e => e)).cell 5
  have c6 := ((HX ()).1.keep hk2 (fun e => e)).cell 6
  have c7 := ((HX ()).1.keep hk2 (fun e => e)).cell 7
  have c8 := ((HX ()).1.keep hk2 (fun e => e)).cell 8
  have c9 := ((HX ()).1.keep hk2 (fun e => e)).cell 9
  have c10 := ((HX ()).1.keep hk2 (fun e => e)).cell 10
  simp at c5 c6 c7 c8 c9 c10
  have HG : Unit → w.heap.size ≤ g ∧ Buf w2 g (Fr.enc fr) 10 := fun _ => ⟨by have := (HX ()).2.size; omega, hbg⟩
  clear hg hbg
  go_wp2_with fail
  refine (H2 () _).mono ?_
  rintro e w3 ⟨g2, c2, rfl, hg2, hc2, hb2, hk3⟩
  have HK : Unit → Keep nil w w3 := fun _ => ((HX ()).2.trans hk2).trans hk3
  have HR : Unit → Buf w3 g (Fr.enc fr) 10 ∧ BRow w3 g2 (Fr.enc fr) c2 := fun _ => ⟨(HG ()).2.keep hk3 (fun e => e), hb2⟩
  clear hk2 hk3 c5 c6 c7 c8 c9 c10 hg2 hc2 hb2
  have HT : Unit → _ := fun _ => told_rows yb g 10 g2 0 c2 (Fr.enc fr) a0 na ca VA p0 p1 (.slice b0 nb cb) (.slice none 0 0) (.slice none 0 0) (.slice none 0 0) (.slice none 0 0) w3 (((HB ()).same (HK ())).play) (by have := (HB ()).play.lt; have := (HG ()).1; omega) (((HB ()).same (HK ())).rowA.out (fun x hx hx0 h e => by
      rcases e with e | e
      · have := ((HB ()).rowA.lt x hx0).1; have := (HG ()).1; omega
      · exact h (Or.inl e))) (buf_brow (HR ()).1) (enc_le fr) (brow_row (HR ()).2) (by have := enc_le fr; omega) (HN ())
  rw [← enc_len fr]
  go_wp2_with fail
  refine Calls.mono (HT ()) ?_
  rintro e w4 ⟨rfl, hpost⟩
  have HP : Unit → Book W0 w4 yb p0 p1 (na + 1) nb := fun _ => (HB ()).sheet (HK ()) (fun x e => by rw [e]; exact (HG ()).1) hpost
  clear hpost HT
  go_wp2
  go_ret
  exact ⟨rfl, HP ()⟩

set_option maxRecDepth 100000 in
set_option maxHeartbeats 2000000 in
theorem plain_dec_nil (W0 w : World) (yb : Nat) (p0 p1 : Value) (na nb : Nat) (hB : Book W0 w yb p0 p1 na nb) (oc oa ob : Int) (E : Value) (d : Bool) (s k l n : Int) (f : Bool) (D : Value)
    (he : E.oneCell' = true) (hd : D.oneCell' = true) (hD : D = .slice none 0 0) (hna : (na : Int) < 1099511627776) :
    Calls Tryz.prog 40 #[.pointer (some ⟨yb, 0, none⟩), opv 3 oc oa ob E d s k l n f D] w fun e w' => e = .returned (.bool true) ∧ Book W0 w' yb p0 p1 na nb := by
  obtain ⟨a0, ca, VA, b0, cb, VB, hb⟩ := hB
  have HB : Unit → Bk W0 w yb p0 p1 a0 na ca VA b0 nb cb VB := fun _ => hb
  have HN : Unit → (na : Int) < 1099511627776 := fun _ => hna
  obtain ⟨d', s', k', l', n', f', er, H1', H2'⟩ : ∃ (d' : Bool) (s' k' l' n' : Int) (f' : Bool) (er : Int), (∀ w, Calls Tryz.prog 80 #[.slice none 0 0] w fun e w' => e = .returned (.tuple #[.agg #[.bool d', .int .i64 s', .int .i64 k', .int .i64 l', .int .i64 n', .bool f'], .int .i64 er]) ∧ Keep nil w w') ∧
      (∀ w, Calls Tryz.prog 81 #[.slice none 0 0] w fun e w' => e = .returned (.tuple #[.agg #[.bool d', .int .i64 s', .int .i64 k', .int .i64 l', .int .i64 n', .bool f'], .int .i64 er]) ∧ Keep nil w w') :=
    ⟨false, 0, 0, 0, 0, false, 9, arborDecode_nil, fun w => refdec_len none 0 0 w (by decide) (by decide)⟩
  have H1 : Unit → _ := fun _ => H1'
  have H2 : Unit → _ := fun _ => H2'
  subst hD
  clear hb hna hd H1' H2'
  go_enter Tryz.func40, Tryz.ntmps40
  go_wp2_with fail
  obtain ⟨W1, hW1⟩ : ∃ W1, W1 = w.alloc (.cells #[.int .i64 3, .int .i64 oc, .int .i64 oa, .int .i64 ob, E, .bool d, .int .i64 s, .int .i64 k, .int .i64 l, .int .i64 n, .bool f, .slice none 0 0] 80) := ⟨_, rfl⟩
  have hbx : Blk W1 w.heap.size #[.int .i64 3, .int .i64 oc, .int .i64 oa, .int .i64 ob, E, .bool d, .int .i64 s, .int .i64 k, .int .i64 l, .int .i64 n, .bool f, .slice none 0 0] 80 := by rw [hW1]; exact Blk.new _ _ _
  have hkw : Keep nil w W1 := by rw [hW1]; exact (Keep.refl nil w).alloc _
  rw [← hW1]
  obtain ⟨xb, hxb⟩ : ∃ xb, xb = w.heap.size := ⟨_, rfl⟩
  rw [← hxb] at hbx ⊢
  have HX : Unit → Blk W1 xb #[.int .i64 3, .int .i64 oc, .int .i64 oa, .int .i64 ob, E, .bool d, .int .i64 s, .int .i64 k, .int .i64 l, .int .i64 n, .bool f, .slice none 0 0] 80 ∧ Keep nil w W1 := fun _ => ⟨hbx, hkw⟩
  clear hW1 hbx hkw hxb
  refine (lent_nil _).mono ?_
  rintro e w1' ⟨rfl, rfl⟩
  go_wp2_with fail
  refine (H1 () _).mono ?_
  rintro e w2 ⟨rfl, hk2⟩
  have c11 := ((HX ()).1.keep hk2 (fun e => e)).cell 11
  simp at c11
  have hxl : xb < w2.heap.size := by have := (HX ()).1.lt; have := (hk2).size; omega
  have HK2 : Unit → Keep nil W1 w2 := fun _ => hk2
  clear hk2
  go_wp2_with fail
  obtain ⟨W2, hW2⟩ : ∃ W2, W2 = w2.alloc (.cells #[.bool d', .int .i64 s', .int .i64 k', .int .i64 l', .int .i64 n', .bool f'] 78) := ⟨_, rfl⟩
  have hbq : Blk W2 w2.heap.size #[.bool d', .int .i64 s', .int .i64 k', .int .i64 l', .int .i64 n', .bool f'] 78 := by rw [hW2]; exact Blk.new _ _ _
  have hkq : Keep nil w2 W2 := by rw [hW2]; exact (Keep.refl nil w2).alloc _
  rw [← hW2]
  obtain ⟨qb, hqb⟩ : ∃ qb, qb = w2.heap.size := ⟨_, rfl⟩
  rw [← hqb] at hbq ⊢
  have HQ : Unit → Blk W2 qb #[.bool d', .int .i64 s', .int .i64 k', .int .i64 l', .int .i64 n', .bool f'] 78 ∧ Keep nil w2 W2 ∧ qb = w2.heap.size := fun _ => ⟨hbq, hkq, hqb⟩
  clear hW2 hbq hkq hqb c11 hxl
  refine (H2 () _).mono ?_
  rintro e w3 ⟨rfl, hk3⟩
  have c11 := ((HX ()).1.keep (((HK2 ()).trans (HQ ()).2.1).trans hk3) (fun e => e)).cell 11
  simp at c11
  have hxl : xb < w3.heap.size := by have := (HX ()).1.lt; have := (HK2 ()).size; have := (HQ ()).2.1.size; have := hk3.size; omega
  have HK3 : Unit → Keep nil W2 w3 := fun _ => hk3
  clear hk3
  go_wp2_with fail
  obtain ⟨W3, hW3⟩ : ∃ W3, W3 = w3.alloc (.cells #[.bool d', .int .i64 s', .int .i64 k', .int .i64 l', .int .i64 n', .bool f'] 78) := ⟨_, rfl⟩
  have hbr : Blk W3 w3.heap.size #[.bool d', .int .i64 s', .int .i64 k', .int .i64 l', .int .i64 n', .bool f'] 78 := by rw [hW3]; exact Blk.new _ _ _
  have hkr : Keep nil w3 W3 := by rw [hW3]; exact (Keep.refl nil w3).alloc _
  rw [← hW3]
  obtain ⟨rb, hrb⟩ : ∃ rb, rb = w3.heap.size := ⟨_, rfl⟩
  rw [← hrb] at hbr ⊢
  have HR : Unit → Blk W3 rb #[.bool d', .int .i64 s', .int .i64 k', .int .i64 l', .int .i64 n', .bool f'] 78 ∧ Keep nil w3 W3 ∧ rb = w3.heap.size := fun _ => ⟨hbr, hkr, hrb⟩
  clear hW3 hbr hkr hrb c11 hxl
  refine (returned_nil yb (.slice none 0 0) _).mono ?_
  rintro e w4 ⟨rfl, rfl⟩
  have HP : Unit → Book W0 W3 yb p0 p1 na nb := fun _ => ⟨a0, ca, VA, b0, cb, VB, (HB ()).same (((((HX ()).2.trans (HK2 ())).trans (HQ ()).2.1).trans (HK3 ())).trans (HR ()).2.1)⟩
  have BQ := ((HQ ()).1.keep (HK3 ()) (fun e => e)).keep (HR ()).2.1 (fun e => e)
  have BR := (HR ()).1
  have a0' := BQ.cell 0
  have a1' := BQ.cell 1
  have a2' := BQ.cell 2
  have a3' := BQ.cell 3
  have a4' := BQ.cell 4
  have a5' := BQ.cell 5
  have e0' := BR.cell 0
  have e1' := BR.cell 1
  have e2' := BR.cell 2
  have e3' := BR.cell 3
  have e4' := BR.cell 4
  have e5' := BR.cell 5
  simp at a0' a1' a2' a3' a4' a5' e0' e1' e2' e3' e4' e5'
  clear BQ BR
  go_wp2
  go_ret
  exact ⟨rfl, HP ()⟩

theorem BkB.keep {G : Nat → Prop} {w w' : World} {yb na : Nat} {a0 : Option Addr} {VA : List Value} {p0 p1 p3 p4 p5 p6 p7 : Value} (h : BkB G w w' yb na a0 VA p0 p1 p3 p4 p5 p6 p7) : Keep (fun b => G b ∨ b = yb ∨ a0 = some ⟨b, 0, none⟩) w w' := by
  obtain ⟨_, _, _, _, _, _, _, _, _, _, _, _, hk⟩ := h
  exact hk

set_option maxRecDepth 100000 in
set_option maxHeartbeats 2000000 in
theorem plain_dec_row (W0 w : World) (yb : Nat) (p0 p1 : Value) (na nb : Nat) (hB : Book W0 w yb p0 p1 na nb) (oc oa ob : Int) (E : Value) (d : Bool) (s k l n : Int) (f : Bool) (D : Value)
    (he : E.oneCell' = true) (hd : D.oneCell' = true) (ad : Addr) (cap : Nat) (ls : List Nat) (hD : D = .slice (some ad) ls.length cap) (hrow : BSl w ad ls) (hcap : ls.length ≤ cap) (hlen : (ls.length : Int) ≤ 140737488351232) (hby : ∀ x ∈ ls, x < 256) (hna : (na : Int) < 1099511627776) :
    Calls Tryz.prog 40 #[.pointer (some ⟨yb, 0, none⟩), opv 3 oc oa ob E d s k l n f D] w fun e w' => e = .returned (.bool true) ∧ Book W0 w' yb p0 p1 (na + 1) nb := by
  obtain ⟨a0, ca, VA, b0, cb, VB, hb⟩ := hB
  have HB : Unit → Bk W0 w yb p0 p1 a0 na ca VA b0 nb cb VB := fun _ => hb
  have HN : Unit → (na : Int) < 1099511627776 := fun _ => hna
  obtain ⟨d', s', k', l', n', f', er, H1', H2'⟩ : ∃ (d' : Bool) (s' k' l' n' : Int) (f' : Bool) (er : Int), (∀ (w : World) (g c : Nat), Row w g 0 ls → g < w.heap.size → ls.length ≤ c → Calls Tryz.prog 80 #[.slice (some ⟨g, 0, none⟩) ls.length c] w fun e w' => e = .returned (.tuple #[.agg #[.bool d', .int .i64 s', .int .i64 k', .int .i64 l', .int .i64 n', .bool f'], .int .i64 er]) ∧ Keep nil w w') ∧
      (∀ w : World, BSl w ad ls → Calls Tryz.prog 81 #[.slice (some ad) ls.length cap] w fun e w' => e = .returned (.tuple #[.agg #[.bool d', .int .i64 s', .int .i64 k', .int .i64 l', .int .i64 n', .bool f'], .int .i64 er]) ∧ Keep nil w w') := by
    by_cases h0 : ls = []
    · subst h0
      have hno : ∀ x, ¬ ReadOk [] x := fun x ⟨k, c1, c2, _, h1, _⟩ => by simp at h1
      exact ⟨false, 0, 0, 0, 0, false, 9, fun w g c h1 h2 h3 => arborDecode_no g 0 c [] w h1 h2 h3 (by simp) hby hno, fun w _ => refdec_len (some ad) 0 cap w (by decide) (by decide)⟩
    have hbs : ∀ w : World, BSl w ad ls → ∃ bb bo, ad = ⟨bb, bo, none⟩ ∧ bb < w.heap.size ∧ Row w bb bo ls := fun w h => h.elim (fun h => (h0 h).elim) id
    by_cases hx : ∃ x, ReadOk ls x
    · obtain ⟨x, hx⟩ := hx
      exact ⟨x.d, x.s, x.k, x.l, x.n, x.f, 0, fun w g c h1 h2 h3 => arborDecode_yes g 0 c ls w h1 h2 h3 (by omega) hby x hx, fun w h => by
        obtain ⟨bb, bo, rfl, h2, h1⟩ := hbs w h
        exact refdec_yes bb bo cap ls w h1 h2 hcap hby x hx⟩
    · have hno : ∀ x, ¬ ReadOk ls x := fun x h => hx ⟨x, h⟩
      exact ⟨false, 0, 0, 0, 0, false, 9, fun w g c h1 h2 h3 => arborDecode_no g 0 c ls w h1 h2 h3 (by omega) hby hno, fun w h => by
        obtain ⟨bb, bo, rfl, h2, h1⟩ := hbs w h
        exact refdec_no bb bo cap ls w h1 h2 hcap hby hno⟩
  have H1 : Unit → _ := fun _ => H1'
  have H2 : Unit → _ := fun _ => H2'
  have HROW : Unit → BSl w ad ls ∧ (ls.length : Int) ≤ 140737488351232 ∧ (∀ x ∈ ls, x < 256) := fun _ => ⟨hrow, hlen, hby⟩
  have HL : Unit → ∀ w1, Keep nil w w1 → Calls Tryz.prog 79 #[.slice (some ad) ls.length cap] w1 fun e w' => ∃ g c, e = .returned (.slice (some ⟨g, 0, none⟩) ls.length c) ∧ w1.heap.size ≤ g ∧ BRow w' g (ls ++ marks 8) c ∧ ls.length + 8 ≤ c ∧ Keep nil w1 w' := fun _ w1 k => by
    by_cases h0 : 0 < ls.length
    · rcases hrow.keep k with e | ⟨bb, bo, rfl, e2, e3⟩
      · rw [e] at h0; simp at h0
      · exact lent_any bb bo cap ls w1 e3 e2 hlen h0
    · have : ls = [] := List.eq_nil_of_length_eq_zero (by omega)
      subst this
      have := lent_empty ad cap w1
      simpa using this
  subst hD
  clear hb hna hd H1' H2' hrow hlen hby hcap
  go_enter Tryz.func40, Tryz.ntmps40
  go_wp2_with fail
  obtain ⟨W1, hW1⟩ : ∃ W1, W1 = w.alloc (.cells #[.int .i64 3, .int .i64 oc, .int .i64 oa, .int .i64 ob, E, .bool d, .int .i64 s, .int .i64 k, .int .i64 l, .int .i64 n, .bool f, .slice (some ad) ls.length cap] 80) := ⟨_, rfl⟩
  have hbx : Blk W1 w.heap.size #[.int .i64 3, .int .i64 oc, .int .i64 oa, .int .i64 ob, E, .bool d, .int .i64 s, .int .i64 k, .int .i64 l, .int .i64 n, .bool f, .slice (some ad) ls.length cap] 80 := by rw [hW1]; exact Blk.new _ _ _
  have hkw : Keep nil w W1 := by rw [hW1]; exact (Keep.refl nil w).alloc _
  rw [← hW1]
  obtain ⟨xb, hxb⟩ : ∃ xb, xb = w.heap.size := ⟨_, rfl⟩
  rw [← hxb] at hbx ⊢
  have HX : Unit → Blk W1 xb #[.int .i64 3, .int .i64 oc, .int .i64 oa, .int .i64 ob, E, .bool d, .int .i64 s, .int .i64 k, .int .i64 l, .int .i64 n, .bool f, .slice (some ad) ls.length cap] 80 ∧ Keep nil w W1 := fun _ => ⟨hbx, hkw⟩
  clear hW1 hbx hkw hxb
  refine (HL () _ (HX ()).2).mono ?_
  rintro e w1 ⟨g, c, rfl, hg, hbg, hcg, hk1⟩
  have HG : Unit → W1.heap.size ≤ g ∧ BRow w1 g (ls ++ marks 8) c ∧ ls.length + 8 ≤ c ∧ Keep nil W1 w1 ∧ g < w1.heap.size := fun _ => ⟨hg, hbg, hcg, hk1, hbg.lt⟩
  clear hg hbg hcg hk1
  go_wp2_with fail
  refine (H1 () _ g c (by
    have := brow_row (HG ()).2.1
    intro j hj
    have h2 := this j (by rw [List.length_append]; omega)
    rw [List.getElem_append_left hj] at h2
    exact h2) (HG ()).2.2.2.2 (by have := (HG ()).2.2.1; omega)).mono ?_
  rintro e w2 ⟨rfl, hk2⟩
  have c11 := ((HX ()).1.keep ((HG ()).2.2.2.1.trans hk2) (fun e => e)).cell 11
  simp at c11
  have hxl : xb < w2.heap.size := by have := (HX ()).1.lt; have := (((HG ()).2.2.2.1.trans hk2)).size; omega
  have HK2 : Unit → Keep nil W1 w2 := fun _ => ((HG ()).2.2.2.1.trans hk2)
  have HK12 : Unit → Keep nil w1 w2 := fun _ => hk2
  clear hk2
  go_wp2_with fail
  obtain ⟨W2, hW2⟩ : ∃ W2, W2 = w2.alloc (.cells #[.bool d', .int .i64 s', .int .i64 k', .int .i64 l', .int .i64 n', .bool f'] 78) := ⟨_, rfl⟩
  have hbq : Blk W2 w2.heap.size #[.bool d', .int .i64 s', .int .i64 k', .int .i64 l', .int .i64 n', .bool f'] 78 := by rw [hW2]; exact Blk.new _ _ _
  have hkq : Keep nil w2 W2 := by rw [hW2]; exact (Keep.refl nil w2).alloc _
  rw [← hW2]
  obtain ⟨qb, hqb⟩ : ∃ qb, qb = w2.heap.size := ⟨_, rfl⟩
  rw [← hqb] at hbq ⊢
  have HQ : Unit → Blk W2 qb #[.bool d', .int .i64 s', .int .i64 k', .int .i64 l', .int .i64 n', .bool f'] 78 ∧ Keep nil w2 W2 ∧ qb = w2.heap.size := fun _ => ⟨hbq, hkq, hqb⟩
  clear hW2 hbq hkq hqb c11 hxl
  refine (H2 () _ ((HROW ()).1.keep ((HX ()).2.trans ((HK2 ()).trans (HQ ()).2.1)))).mono ?_
  rintro e w3 ⟨rfl, hk3⟩
  have c11 := ((HX ()).1.keep (((HK2 ()).trans (HQ ()).2.1).trans hk3) (fun e => e)).cell 11
  simp at c11
  have hxl : xb < w3.heap.size := by have := (HX ()).1.lt; have := (HK2 ()).size; have := (HQ ()).2.1.size; have := hk3.size; omega
  have HK3 : Unit → Keep nil W2 w3 := fun _ => hk3
  clear hk3
  go_wp2_with fail
  obtain ⟨W3, hW3⟩ : ∃ W3, W3 = w3.alloc (.cells #[.bool d', .int .i64 s', .int .i64 k', .int .i64 l', .int .i64 n', .bool f'] 78) := ⟨_, rfl⟩
  have hbr : Blk W3 w3.heap.size #[.bool d', .int .i64 s', .int .i64 k', .int .i64 l', .int .i64 n', .bool f'] 78 := by rw [hW3]; exact Blk.new _ _ _
  have hkr : Keep nil w3 W3 := by rw [hW3]; exact (Keep.refl nil w3).alloc _
  rw [← hW3]
  obtain ⟨rb, hrb⟩ : ∃ rb, rb = w3.heap.size := ⟨_, rfl⟩
  rw [← hrb] at hbr ⊢
  have HR : Unit → Blk W3 rb #[.bool d', .int .i64 s', .int .i64 k', .int .i64 l', .int .i64 n', .bool f'] 78 ∧ Keep nil w3 W3 ∧ rb = w3.heap.size := fun _ => ⟨hbr, hkr, hrb⟩
  clear hW3 hbr hkr hrb c11 hxl
  have HK : Unit → Keep nil w W3 := fun _ => ((((HX ()).2.trans (HK2 ())).trans (HQ ()).2.1).trans (HK3 ())).trans (HR ()).2.1
  have HKg : Unit → Keep nil w1 W3 := fun _ => (((HK12 ()).trans (HQ ()).2.1).trans (HK3 ())).trans (HR ()).2.1
  have HGW : Unit → w.heap.size ≤ g ∧ g < qb ∧ g < rb := fun _ => by
    have h1 := (HX ()).2.size; have h2 := (HG ()).1; have h3 := (HG ()).2.2.2.2; have h4 := (HK12 ()).size; have h5 := (HQ ()).2.2; have h6 := (HQ ()).2.1.size; have h7 := (HK3 ()).size; have h8 := (HR ()).2.2
    omega
  have HT : Unit → _ := fun _ => returned_rows yb g c ad cap ls a0 na ca VA p0 p1 (.slice b0 nb cb) (.slice none 0 0) (.slice none 0 0) (.slice none 0 0) (.slice none 0 0) W3 (((HB ()).same (HK ())).play) (by have := (HB ()).play.lt; have := (HGW ()).1; omega) (((HB ()).same (HK ())).rowA.out (fun x hx hx0 h e => by
      rcases e with e | e
      · have := ((HB ()).rowA.lt x hx0).1; have := (HGW ()).1; omega
      · exact h (Or.inl e))) ((HG ()).2.1.keep (HKg ()) (fun e => e)) (HG ()).2.2.1 ((HROW ()).1.keep (HK ())) (HROW ()).2.2 (HROW ()).2.1 (HN ())
  refine Calls.mono (HT ()) ?_
  rintro e w4 ⟨rfl, m, hpost⟩
  have kd : Keep nil W3 (W3.drewN m) := (Keep.refl nil W3).drewN m
  have HP : Unit → Book W0 w4 yb p0 p1 (na + 1) nb := fun _ => (HB ()).sheet ((HK ()).trans kd) (fun x e => by rw [e]; exact (HGW ()).1) hpost
  have hnq : ∀ x, w.heap.size ≤ x → g < x → ¬ (only g x ∨ x = yb ∨ a0 = some ⟨x, 0, none⟩) := fun x hx hgx e => by
    rcases e with e | e | e
    · simp only [only] at e; omega
    · have := (HB ()).play.lt; omega
    · have := ((HB ()).rowA.lt x e).1; omega
  have hq2 := HGW ()
  have BQ := ((((HQ ()).1.keep (HK3 ()) (fun e => e)).keep (HR ()).2.1 (fun e => e)).keep kd (fun e => e)).keep hpost.keep (hnq qb (by omega) hq2.2.1)
  have BR := ((HR ()).1.keep kd (fun e => e)).keep hpost.keep (hnq rb (by omega) hq2.2.2)
  clear hpost HT kd hnq hq2
  have a0' := BQ.cell 0
  have a1' := BQ.cell 1
  have a2' := BQ.cell 2
  have a3' := BQ.cell 3
  have a4' := BQ.cell 4
  have a5' := BQ.cell 5
  have e0' := BR.cell 0
  have e1' := BR.cell 1
  have e2' := BR.cell 2
  have e3' := BR.cell 3
  have e4' := BR.cell 4
  have e5' := BR.cell 5
  simp at a0' a1' a2' a3' a4' a5' e0' e1' e2' e3' e4' e5'
  clear BQ BR
  go_wp2
  go_ret
  exact ⟨rfl, HP ()⟩

end Go.Proofs.YtlfijfodklhplaaGreat
