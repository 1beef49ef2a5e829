import Derived.Test.YtlfijfodklhplaaGreatLk44
import Derived.Test.YtlfijfodklhplaaGreatLk29
import Derived.Test.YtlfijfodklhplaaGreatLk45
import Derived.Test.YtlfijfodklhplaaGreatLk24
/- Check, Encode and Decode over the book of all kinds (made by tools/plainx.py out of Plain and PlainC). -/
namespace Go.Proofs.YtlfijfodklhplaaGreat
open Go.RowKit
set_option linter.unusedVariables false
set_option linter.unusedSimpArgs false

set_option maxRecDepth 100000 in
set_option maxHeartbeats 2000000 in
theorem plain2_enc_err (W0 : Cx) (w : World) (yb : Nat) (p0 p1 : Value) (na nb : Nat) (hB : Book2 W0 w yb p0 p1 na nb) (oc oa ob : Int) (E : Value) (d : Bool) (s k l n : Int) (f : Bool) (D : Value)
    (he : E.oneCell' = true) (hd : D.oneCell' = true) (herr : encErr d s k l n f ≠ 0) (hna : (na : Int) < 1099511627776) :
    Calls Tryz.prog 40 #[.pointer (some ⟨yb, 0, none⟩), opv 2 oc oa ob E d s k l n f D] w fun e w' => e = .returned (.bool true) ∧ Book2 W0 w' yb p0 p1 (na + 1) nb := by
  obtain ⟨a0, ca, VA, b0, cb, VB, hb⟩ := hB
  have HB : Unit → Bk2 W0 w yb p0 p1 a0 na ca VA b0 nb cb VB := fun _ => hb
  have HN : Unit → (na : Int) < 1099511627776 := fun _ => hna
  have H1 : Unit → ∀ w, Calls Tryz.prog 76 #[.agg (fc d s k l n f)] w fun e w' => e = .returned (.tuple #[.slice none 0 0, .int .i64 (encErr d s k l n f)]) ∧ Keep nil w w' := fun _ => arborEncode_err d s k l n f herr
  have H2 : Unit → ∀ w, Calls Tryz.prog 77 #[.agg (fc d s k l n f)] w fun e w' => e = .returned (.tuple #[.slice none 0 0, .int .i64 (encErr d s k l n f)]) ∧ Keep nil w w' := fun _ => refenc_err d s k l n f herr
  clear hb hna herr
  generalize encErr d s k l n f = er at H1 H2
  go_enter Tryz.func40, Tryz.ntmps40
  go_wp2_with fail
  obtain ⟨W1, hW1⟩ : ∃ W1, W1 = w.alloc (.cells #[.int .i64 2, .int .i64 oc, .int .i64 oa, .int .i64 ob, E, .bool d, .int .i64 s, .int .i64 k, .int .i64 l, .int .i64 n, .bool f, D] 80) := ⟨_, rfl⟩
  have hbx : Blk W1 w.heap.size #[.int .i64 2, .int .i64 oc, .int .i64 oa, .int .i64 ob, E, .bool d, .int .i64 s, .int .i64 k, .int .i64 l, .int .i64 n, .bool f, D] 80 := by rw [hW1]; exact Blk.new _ _ _
  have hkw : Keep nil w W1 := by rw [hW1]; exact (Keep.refl nil w).alloc _
  rw [← hW1]
  obtain ⟨xb, hxb⟩ : ∃ xb, xb = w.heap.size := ⟨_, rfl⟩
  rw [← hxb] at hbx ⊢
  have HX : Unit → Blk W1 xb #[.int .i64 2, .int .i64 oc, .int .i64 oa, .int .i64 ob, E, .bool d, .int .i64 s, .int .i64 k, .int .i64 l, .int .i64 n, .bool f, D] 80 ∧ Keep nil w W1 := fun _ => ⟨hbx, hkw⟩
  clear hW1 hbx hkw hxb
  refine (H1 () _).mono ?_
  rintro e w2 ⟨rfl, hk2⟩
  have c5 := ((HX ()).1.keep hk2 (fun e => e)).cell 5
  have c6 := ((HX ()).1.keep hk2 (fun e => e)).cell 6
  have c7 := ((HX ()).1.keep hk2 (fun e => e)).cell 7
  have c8 := ((HX ()).1.keep hk2 (fun e => e)).cell 8
  have c9 := ((HX ()).1.keep hk2 (fun e => e)).cell 9
  have c10 := ((HX ()).1.keep hk2 (fun e => e)).cell 10
  simp at c5 c6 c7 c8 c9 c10
  go_wp2_with fail
  refine (H2 () _).mono ?_
  rintro e w3 ⟨rfl, hk3⟩
  have HK : Unit → Keep nil w w3 := fun _ => ((HX ()).2.trans hk2).trans hk3
  clear hk2 hk3 c5 c6 c7 c8 c9 c10
  have HT : Unit → _ := fun _ => told_nils yb a0 na ca VA p0 p1 (.slice b0 nb cb) W0.p4 W0.p5 W0.p6 W0.p7 w3 (((HB ()).same (HK ())).play) (((HB ()).same (HK ())).rowA.out (fun x _ _ h e => h (Or.inl e))) (HN ())
  go_wp2_with fail
  refine Calls.mono (HT ()) ?_
  rintro e w4 ⟨rfl, hpost⟩
  have HP : Unit → Book2 W0 w4 yb p0 p1 (na + 1) nb := fun _ => (HB ()).sheet (HK ()) (fun x e => e.elim) hpost
  clear hpost HT
  go_wp2
  go_ret
  exact ⟨rfl, HP ()⟩

set_option maxRecDepth 100000 in
set_option maxHeartbeats 2000000 in
theorem plain2_enc_ok (W0 : Cx) (w : World) (yb : Nat) (p0 p1 : Value) (na nb : Nat) (hB : Book2 W0 w yb p0 p1 na nb) (oc oa ob : Int) (E : Value) (d : Bool) (s k l n : Int) (f : Bool) (D : Value)
    (he : E.oneCell' = true) (hd : D.oneCell' = true) (herr : encErr d s k l n f = 0) (hna : (na : Int) < 1099511627776) :
    Calls Tryz.prog 40 #[.pointer (some ⟨yb, 0, none⟩), opv 2 oc oa ob E d s k l n f D] w fun e w' => e = .returned (.bool true) ∧ Book2 W0 w' yb p0 p1 (na + 1) nb := by
  obtain ⟨a0, ca, VA, b0, cb, VB, hb⟩ := hB
  have HB : Unit → Bk2 W0 w yb p0 p1 a0 na ca VA b0 nb cb VB := fun _ => hb
  have HN : Unit → (na : Int) < 1099511627776 := fun _ => hna
  obtain ⟨fr, hok, hfv⟩ := frame_of herr
  have H1 : Unit → ∀ w, Calls Tryz.prog 76 #[.agg (fc d s k l n f)] w fun e w' => ∃ g, e = .returned (.tuple #[.slice (some ⟨g, 0, none⟩) (flen fr) 10, .int .i64 0]) ∧ w.heap.size ≤ g ∧ Buf w' g (Fr.enc fr) 10 ∧ Keep nil w w' := fun _ w => by rw [← hfv]; exact arborEncode_any fr hok w
  have H2 : Unit → ∀ w, Calls Tryz.prog 77 #[.agg (fc d s k l n f)] w fun e w' => ∃ g c, e = .returned (.tuple #[.slice (some ⟨g, 0, none⟩) (flen fr) c, .int .i64 0]) ∧ w.heap.size ≤ g ∧ flen fr ≤ c ∧ BRow w' g (Fr.enc fr) c ∧ Keep nil w w' := fun _ w => by rw [← hfv]; exact refenc_any fr hok w
  clear hb hna herr hok hfv
  go_enter Tryz.func40, Tryz.ntmps40
  go_wp2_with fail
  obtain ⟨W1, hW1⟩ : ∃ W1, W1 = w.alloc (.cells #[.int .i64 2, .int .i64 oc, .int .i64 oa, .int .i64 ob, E, .bool d, .int .i64 s, .int .i64 k, .int .i64 l, .int .i64 n, .bool f, D] 80) := ⟨_, rfl⟩
  have hbx : Blk W1 w.heap.size #[.int .i64 2, .int .i64 oc, .int .i64 oa, .int .i64 ob, E, .bool d, .int .i64 s, .int .i64 k, .int .i64 l, .int .i64 n, .bool f, D] 80 := by rw [hW1]; exact Blk.new _ _ _
  have hkw : Keep nil w W1 := by rw [hW1]; exact (Keep.refl nil w).alloc _
  rw [← hW1]
  obtain ⟨xb, hxb⟩ : ∃ xb, xb = w.heap.size := ⟨_, rfl⟩
  rw [← hxb] at hbx ⊢
  have HX : Unit → Blk W1 xb #[.int .i64 2, .int .i64 oc, .int .i64 oa, .int .i64 ob, E, .bool d, .int .i64 s, .int .i64 k, .int .i64 l, .int .i64 n, .bool f, D] 80 ∧ Keep nil w W1 := fun _ => ⟨hbx, hkw⟩
  clear hW1 hbx hkw hxb
  refine (H1 () _).mono ?_
  rintro e w2 ⟨g, rfl, hg, hbg, hk2⟩
  have c5 := ((HX ()).1.keep hk2 (fun e => e)).cell 5
  have c6 := ((HX ()).1.keep hk2 (fun e => e)).cell 6
  have c7 := ((HX ()).1.keep hk2 (fun e => e)).cell 7
  have c8 := ((HX ()).1.keep hk2 (fun e => e)).cell 8
  have c9 := ((HX ()).1.keep hk2 (fun e => e)).cell 9
  have c10 := ((HX ()).1.keep hk2 (fun e => e)).cell 10
  simp at c5 c6 c7 c8 c9 c10
  have HG : Unit → w.heap.size ≤ g ∧ Buf w2 g (Fr.enc fr) 10 := fun _ => ⟨by have := (HX ()).2.size; omega, hbg⟩
  clear hg hbg
  go_wp2_with fail
  refine (H2 () _).mono ?_
  rintro e w3 ⟨g2, c2, rfl, hg2, hc2, hb2, hk3⟩
  have HK : Unit → Keep nil w w3 := fun _ => ((HX ()).2.trans hk2).trans hk3
  have HR : Unit → Buf w3 g (Fr.enc fr) 10 ∧ BRow w3 g2 (Fr.enc fr) c2 := fun _ => ⟨(HG ()).2.keep hk3 (fun e => e), hb2⟩
  clear hk2 hk3 c5 c6 c7 c8 c9 c10 hg2 hc2 hb2
  have HT : Unit → _ := fun _ => told_rows yb g 10 g2 0 c2 (Fr.enc fr) a0 na ca VA p0 p1 (.slice b0 nb cb) W0.p4 W0.p5 W0.p6 W0.p7 w3 (((HB ()).same (HK ())).play) (by have := (HB ()).play.lt; have := (HG ()).1; omega) (((HB ()).same (HK ())).rowA.out (fun x hx hx0 h e => by
      rcases e with e | e
      · have := ((HB ()).rowA.lt x hx0).1; have := (HG ()).1; omega
      · exact h (Or.inl e))) (buf_brow (HR ()).1) (enc_le fr) (brow_row (HR ()).2) (by have := enc_le fr; omega) (HN ())
  rw [← enc_len fr]
  go_wp2_with fail
  refine Calls.mono (HT ()) ?_
  rintro e w4 ⟨rfl, hpost⟩
  have HP : Unit → Book2 W0 w4 yb p0 p1 (na + 1) nb := fun _ => (HB ()).sheet (HK ()) (fun x e => by rw [e]; exact (HG ()).1) hpost
  clear hpost HT
  go_wp2
  go_ret
  exact ⟨rfl, HP ()⟩

set_option maxRecDepth 100000 in
set_option maxHeartbeats 2000000 in
theorem plain2_dec_nil (W0 : Cx) (w : World) (yb : Nat) (p0 p1 : Value) (na nb : Nat) (hB : Book2 W0 w yb p0 p1 na nb) (oc oa ob : Int) (E : Value) (d : Bool) (s k l n : Int) (f : Bool) (D : Value)
    (he : E.oneCell' = true) (hd : D.oneCell' = true) (hD : D = .slice none 0 0) (hna : (na : Int) < 1099511627776) :
    Calls Tryz.prog 40 #[.pointer (some ⟨yb, 0, none⟩), opv 3 oc oa ob E d s k l n f D] w fun e w' => e = .returned (.bool true) ∧ Book2 W0 w' yb p0 p1 na nb := by
  obtain ⟨a0, ca, VA, b0, cb, VB, hb⟩ := hB
  have HB : Unit → Bk2 W0 w yb p0 p1 a0 na ca VA b0 nb cb VB := fun _ => hb
  have HN : Unit → (na : Int) < 1099511627776 := fun _ => hna
  obtain ⟨d', s', k', l', n', f', er, H1', H2'⟩ : ∃ (d' : Bool) (s' k' l' n' : Int) (f' : Bool) (er : Int), (∀ w, Calls Tryz.prog 80 #[.slice none 0 0] w fun e w' => e = .returned (.tuple #[.agg #[.bool d', .int .i64 s', .int .i64 k', .int .i64 l', .int .i64 n', .bool f'], .int .i64 er]) ∧ Keep nil w w') ∧
      (∀ w, Calls Tryz.prog 81 #[.slice none 0 0] w fun e w' => e = .returned (.tuple #[.agg #[.bool d', .int .i64 s', .int .i64 k', .int .i64 l', .int .i64 n', .bool f'], .int .i64 er]) ∧ Keep nil w w') :=
    ⟨false, 0, 0, 0, 0, false, 9, arborDecode_nil, fun w => refdec_len none 0 0 w (by decide) (by decide)⟩
  have H1 : Unit → _ := fun _ => H1'
  have H2 : Unit → _ := fun _ => H2'
  subst hD
  clear hb hna hd H1' H2'
  go_enter Tryz.func40, Tryz.ntmps40
  go_wp2_with fail
  obtain ⟨W1, hW1⟩ : ∃ W1, W1 = w.alloc (.cells #[.int .i64 3, .int .i64 oc, .int .i64 oa, .int .i64 ob, E, .bool d, .int .i64 s, .int .i64 k, .int .i64 l, .int .i64 n, .bool f, .slice none 0 0] 80) := ⟨_, rfl⟩
  have hbx : Blk W1 w.heap.size #[.int .i64 3, .int .i64 oc, .int .i64 oa, .int .i64 ob, E, .bool d, .int .i64 s, .int .i64 k, .int .i64 l, .int .i64 n, .bool f, .slice none 0 0] 80 := by rw [hW1]; exact Blk.new _ _ _
  have hkw : Keep nil w W1 := by rw [hW1]; exact (Keep.refl nil w).alloc _
  rw [← hW1]
  obtain ⟨xb, hxb⟩ : ∃ xb, xb = w.heap.size := ⟨_, rfl⟩
  rw [← hxb] at hbx ⊢
  have HX : Unit → Blk W1 xb #[.int .i64 3, .int .i64 oc, .int .i64 oa, .int .i64 ob, E, .bool d, .int .i64 s, .int .i64 k, .int .i64 l, .int .i64 n, .bool f, .slice none 0 0] 80 ∧ Keep nil w W1 := fun _ => ⟨hbx, hkw⟩
  clear hW1 hbx hkw hxb
  refine (lent_nil _).mono ?_
  rintro e w1' ⟨rfl, rfl⟩
  go_wp2_with fail
  refine (H1 () _).mono ?_
  rintro e w2 ⟨rfl, hk2⟩
  have c11 := ((HX ()).1.keep hk2 (fun e => e)).cell 11
  simp at c11
  have hxl : xb < w2.heap.size := by have := (HX ()).1.lt; have := (hk2).size; omega
  have HK2 : Unit → Keep nil W1 w2 := fun _ => hk2
  clear hk2
  go_wp2_with fail
  obtain ⟨W2, hW2⟩ : ∃ W2, W2 = w2.alloc (.cells #[.bool d', .int .i64 s', .int .i64 k', .int .i64 l', .int .i64 n', .bool f'] 78) := ⟨_, rfl⟩
  have hbq : Blk W2 w2.heap.size #[.bool d', .int .i64 s', .int .i64 k', .int .i64 l', .int .i64 n', .bool f'] 78 := by rw [hW2]; exact Blk.new _ _ _
  have hkq : Keep nil w2 W2 := by rw [hW2]; exact (Keep.refl nil w2).alloc _
  rw [← hW2]
  obtain ⟨qb, hqb⟩ : ∃ qb, qb = w2.heap.size := ⟨_, rfl⟩
  rw [← hqb] at hbq ⊢
  have HQ : Unit → Blk W2 qb #[.bool d', .int .i64 s', .int .i64 k', .int .i64 l', .int .i64 n', .bool f'] 78 ∧ Keep nil w2 W2 ∧ qb = w2.heap.size := fun _ => ⟨hbq, hkq, hqb⟩
  clear hW2 hbq hkq hqb c11 hxl
  refine (H2 () _).mono ?_
  rintro e w3 ⟨rfl, hk3⟩
  have c11 := ((HX ()).1.keep (((HK2 ()).trans (HQ ()).2.1).trans hk3) (fun e => e)).cell 11
  simp at c11
  have hxl : xb < w3.heap.size := by have := (HX ()).1.lt; have := (HK2 ()).size; have := (HQ ()).2.1.size; have := hk3.size; omega
  have HK3 : Unit → Keep nil W2 w3 := fun _ => hk3
  clear hk3
  go_wp2_with fail
  obtain ⟨W3, hW3⟩ : ∃ W3, W3 = w3.alloc (.cells #[.bool d', .int .i64 s', .int .i64 k', .int .i64 l', .int .i64 n', .bool f'] 78) := ⟨_, rfl⟩
  have hbr : Blk W3 w3.heap.size #[.bool d', .int .i64 s', .int .i64 k', .int .i64 l', .int .i64 n', .bool f'] 78 := by rw [hW3]; exact Blk.new _ _ _
  have hkr : Keep nil w3 W3 := by rw [hW3]; exact (Keep.refl nil w3).alloc _
  rw [← hW3]
  obtain ⟨rb, hrb⟩ : ∃ rb, rb = w3.heap.size := ⟨_, rfl⟩
  rw [← hrb] at hbr ⊢
  have HR : Unit → Blk W3 rb #[.bool d', .int .i64 s', .int .i64 k', .int .i64 l', .int .i64 n', .bool f'] 78 ∧ Keep nil w3 W3 ∧ rb = w3.heap.size := fun _ => ⟨hbr, hkr, hrb⟩
  clear hW3 hbr hkr hrb c11 hxl
  refine (returned_nil yb (.slice none 0 0) _).mono ?_
  rintro e w4 ⟨rfl, rfl⟩
  have HP : Unit → Book2 W0 W3 yb p0 p1 na nb := fun _ => ⟨a0, ca, VA, b0, cb, VB, (HB ()).same (((((HX ()).2.trans (HK2 ())).trans (HQ ()).2.1).trans (HK3 ())).trans (HR ()).2.1)⟩
  have BQ := ((HQ ()).1.keep (HK3 ()) (fun e => e)).keep (HR ()).2.1 (fun e => e)
  have BR := (HR ()).1
  have a0' := BQ.cell 0
  have a1' := BQ.cell 1
  have a2' := BQ.cell 2
  have a3' := BQ.cell 3
  have a4' := BQ.cell 4
  have a5' := BQ.cell 5
  have e0' := BR.cell 0
  have e1' := BR.cell 1
  have e2' := BR.cell 2
  have e3' := BR.cell 3
  have e4' := BR.cell 4
  have e5' := BR.cell 5
  simp at a0' a1' a2' a3' a4' a5' e0' e1' e2' e3' e4' e5'
  clear BQ BR
  go_wp2
  go_ret
  exact ⟨rfl, HP ()⟩

set_option maxRecDepth 100000 in
set_option maxHeartbeats 2000000 in
theorem plain2_dec_row (W0 : Cx) (w : World) (yb : Nat) (p0 p1 : Value) (na nb : Nat) (hB : Book2 W0 w yb p0 p1 na nb) (oc oa ob : Int) (E : Value) (d : Bool) (s k l n : Int) (f : Bool) (D : Value)
    (he : E.oneCell' = true) (hd : D.oneCell' = true) (ad : Addr) (cap : Nat) (ls : List Nat) (hD : D = .slice (some ad) ls.length cap) (hrow : BSl w ad ls) (hcap : ls.length ≤ cap) (hlen : (ls.length : Int) ≤ 140737488351232) (hby : ∀ x ∈ ls, x < 256) (hna : (na : Int) < 1099511627776) :
    Calls Tryz.prog 40 #[.pointer (some ⟨yb, 0, none⟩), opv 3 oc oa ob E d s k l n f D] w fun e w' => e = .returned (.bool true) ∧ Book2 W0 w' yb p0 p1 (na + 1) nb := by
  obtain ⟨a0, ca, VA, b0, cb, VB, hb⟩ := hB
  have HB : Unit → Bk2 W0 w yb p0 p1 a0 na ca VA b0 nb cb VB := fun _ => hb
  have HN : Unit → (na : Int) < 1099511627776 := fun _ => hna
  obtain ⟨d', s', k', l', n', f', er, H1', H2'⟩ : ∃ (d' : Bool) (s' k' l' n' : Int) (f' : Bool) (er : Int), (∀ (w : World) (g c : Nat), Row w g 0 ls → g < w.heap.size → ls.length ≤ c → Calls Tryz.prog 80 #[.slice (some ⟨g, 0, none⟩) ls.length c] w fun e w' => e = .returned (.tuple #[.agg #[.bool d', .int .i64 s', .int .i64 k', .int .i64 l', .int .i64 n', .bool f'], .int .i64 er]) ∧ Keep nil w w') ∧
      (∀ w : World, BSl w ad ls → Calls Tryz.prog 81 #[.slice (some ad) ls.length cap] w fun e w' => e = .returned (.tuple #[.agg #[.bool d', .int .i64 s', .int .i64 k', .int .i64 l', .int .i64 n', .bool f'], .int .i64 er]) ∧ Keep nil w w') := by
    by_cases h0 : ls = []
    · subst h0
      have hno : ∀ x, ¬ ReadOk [] x := fun x ⟨k, c1, c2, _, h1, _⟩ => by simp at h1
      exact ⟨false, 0, 0, 0, 0, false, 9, fun w g c h1 h2 h3 => arborDecode_no g 0 c [] w h1 h2 h3 (by simp) hby hno, fun w _ => refdec_len (some ad) 0 cap w (by decide) (by decide)⟩
    have hbs : ∀ w : World, BSl w ad ls → ∃ bb bo, ad = ⟨bb, bo, none⟩ ∧ bb < w.heap.size ∧ Row w bb bo ls := fun w h => h.elim (fun h => (h0 h).elim) id
    by_cases hx : ∃ x, ReadOk ls x
    · obtain ⟨x, hx⟩ := hx
      exact ⟨x.d, x.s, x.k, x.l, x.n, x.f, 0, fun w g c h1 h2 h3 => arborDecode_yes g 0 c ls w h1 h2 h3 (by omega) hby x hx, fun w h => by
        obtain ⟨bb, bo, rfl, h2, h1⟩ := hbs w h
        exact refdec_yes bb bo cap ls w h1 h2 hcap hby x hx⟩
    · have hno : ∀ x, ¬ ReadOk ls x := fun x h => hx ⟨x, h⟩
      exact ⟨false, 0, 0, 0, 0, false, 9, fun w g c h1 h2 h3 => arborDecode_no g 0 c ls w h1 h2 h3 (by omega) hby hno, fun w h => by
        obtain ⟨bb, bo, rfl, h2, h1⟩ := hbs w h
        exact refdec_no bb bo cap ls w h1 h2 hcap hby hno⟩
  have H1 : Unit → _ := fun _ => H1'
  have H2 : Unit → _ := fun _ => H2'
  have HROW : Unit → BSl w ad ls ∧ (ls.length : Int) ≤ 140737488351232 ∧ (∀ x ∈ ls, x < 256) := fun _ => ⟨hrow, hlen, hby⟩
  have HL : Unit → ∀ w1, Keep nil w w1 → Calls Tryz.prog 79 #[.slice (some ad) ls.length cap] w1 fun e w' => ∃ g c, e = .returned (.slice (some ⟨g, 0, none⟩) ls.length c) ∧ w1.heap.size ≤ g ∧ BRow w' g (ls ++ marks 8) c ∧ ls.length + 8 ≤ c ∧ Keep nil w1 w' := fun _ w1 k => by
    by_cases h0 : 0 < ls.length
    · rcases hrow.keep k with e | ⟨bb, bo, rfl, e2, e3⟩
      · rw [e] at h0; simp at h0
      · exact lent_any bb bo cap ls w1 e3 e2 hlen h0
    · have : ls = [] := List.eq_nil_of_length_eq_zero (by omega)
      subst this
      have := lent_empty ad cap w1
      simpa using this
  subst hD
  clear hb hna hd H1' H2' hrow hlen hby hcap
  go_enter Tryz.func40, Tryz.ntmps40
  go_wp2_with fail
  obtain ⟨W1, hW1⟩ : ∃ W1, W1 = w.alloc (.cells #[.int .i64 3, .int .i64 oc, .int .i64 oa, .int .i64 ob, E, .bool d, .int .i64 s, .int .i64 k, .int .i64 l, .int .i64 n, .bool f, .slice (some ad) ls.length cap] 80) := ⟨_, rfl⟩
  have hbx : Blk W1 w.heap.size #[.int .i64 3, .int .i64 oc, .int .i64 oa, .int .i64 ob, E, .bool d, .int .i64 s, .int .i64 k, .int .i64 l, .int .i64 n, .bool f, .slice (some ad) ls.length cap] 80 := by rw [hW1]; exact Blk.new _ _ _
  have hkw : Keep nil w W1 := by rw [hW1]; exact (Keep.refl nil w).alloc _
  rw [← hW1]
  obtain ⟨xb, hxb⟩ : ∃ xb, xb = w.heap.size := ⟨_, rfl⟩
  rw [← hxb] at hbx ⊢
  have HX : Unit → Blk W1 xb #[.int .i64 3, .int .i64 oc, .int .i64 oa, .int .i64 ob, E, .bool d, .int .i64 s, .int .i64 k, .int .i64 l, .int .i64 n, .bool f, .slice (some ad) ls.length cap] 80 ∧ Keep nil w W1 := fun _ => ⟨hbx, hkw⟩
  clear hW1 hbx hkw hxb
  refine (HL () _ (HX ()).2).mono ?_
  rintro e w1 ⟨g, c, rfl, hg, hbg, hcg, hk1⟩
  have HG : Unit → W1.heap.size ≤ g ∧ BRow w1 g (ls ++ marks 8) c ∧ ls.length + 8 ≤ c ∧ Keep nil W1 w1 ∧ g < w1.heap.size := fun _ => ⟨hg, hbg, hcg, hk1, hbg.lt⟩
  clear hg hbg hcg hk1
  go_wp2_with fail
  refine (H1 () _ g c (by
    have := brow_row (HG ()).2.1
    intro j hj
    have h2 := this j (by rw [List.length_append]; omega)
    rw [List.getElem_append_left hj] at h2
    exact h2) (HG ()).2.2.2.2 (by have := (HG ()).2.2.1; omega)).mono ?_
  rintro e w2 ⟨rfl, hk2⟩
  have c11 := ((HX ()).1.keep ((HG ()).2.2.2.1.trans hk2) (fun e => e)).cell 11
  simp at c11
  have hxl : xb < w2.heap.size := by have := (HX ()).1.lt; have := (((HG ()).2.2.2.1.trans hk2)).size; omega
  have HK2 : Unit → Keep nil W1 w2 := fun _ => ((HG ()).2.2.2.1.trans hk2)
  have HK12 : Unit → Keep nil w1 w2 := fun _ => hk2
  clear hk2
  go_wp2_with fail
  obtain ⟨W2, hW2⟩ : ∃ W2, W2 = w2.alloc (.cells #[.bool d', .int .i64 s', .int .i64 k', .int .i64 l', .int .i64 n', .bool f'] 78) := ⟨_, rfl⟩
  have hbq : Blk W2 w2.heap.size #[.bool d', .int .i64 s', .int .i64 k', .int .i64 l', .int .i64 n', .bool f'] 78 := by rw [hW2]; exact Blk.new _ _ _
  have hkq : Keep nil w2 W2 := by rw [hW2]; exact (Keep.refl nil w2).alloc _
  rw [← hW2]
  obtain ⟨qb, hqb⟩ : ∃ qb, qb = w2.heap.size := ⟨_, rfl⟩
  rw [← hqb] at hbq ⊢
  have HQ : Unit → Blk W2 qb #[.bool d', .int .i64 s', .int .i64 k', .int .i64 l', .int .i64 n', .bool f'] 78 ∧ Keep nil w2 W2 ∧ qb = w2.heap.size := fun _ => ⟨hbq, hkq, hqb⟩
  clear hW2 hbq hkq hqb c11 hxl
  refine (H2 () _ ((HROW ()).1.keep ((HX ()).2.trans ((HK2 ()).trans (HQ ()).2.1)))).mono ?_
  rintro e w3 ⟨rfl, hk3⟩
  have c11 := ((HX ()).1.keep (((HK2 ()).trans (HQ ()).2.1).trans hk3) (fun e => e)).cell 11
  simp at c11
  have hxl : xb < w3.heap.size := by have := (HX ()).1.lt; have := (HK2 ()).size; have := (HQ ()).2.1.size; have := hk3.size; omega
  have HK3 : Unit → Keep nil W2 w3 := fun _ => hk3
  clear hk3
  go_wp2_with fail
  obtain ⟨W3, hW3⟩ : ∃ W3, W3 = w3.alloc (.cells #[.bool d', .int .i64 s', .int .i64 k', .int .i64 l', .int .i64 n', .bool f'] 78) := ⟨_, rfl⟩
  have hbr : Blk W3 w3.heap.size #[.bool d', .int .i64 s', .int .i64 k', .int .i64 l', .int .i64 n', .bool f'] 78 := by rw [hW3]; exact Blk.new _ _ _
  have hkr : Keep nil w3 W3 := by rw [hW3]; exact (Keep.refl nil w3).alloc _
  rw [← hW3]
  obtain ⟨rb, hrb⟩ : ∃ rb, rb = w3.heap.size := ⟨_, rfl⟩
  rw [← hrb] at hbr ⊢
  have HR : Unit → Blk W3 rb #[.bool d', .int .i64 s', .int .i64 k', .int .i64 l', .int .i64 n', .bool f'] 78 ∧ Keep nil w3 W3 ∧ rb = w3.heap.size := fun _ => ⟨hbr, hkr, hrb⟩
  clear hW3 hbr hkr hrb c11 hxl
  have HK : Unit → Keep nil w W3 := fun _ => ((((HX ()).2.trans (HK2 ())).trans (HQ ()).2.1).trans (HK3 ())).trans (HR ()).2.1
  have HKg : Unit → Keep nil w1 W3 := fun _ => (((HK12 ()).trans (HQ ()).2.1).trans (HK3 ())).trans (HR ()).2.1
  have HGW : Unit → w.heap.size ≤ g ∧ g < qb ∧ g < rb := fun _ => by
    have h1 := (HX ()).2.size; have h2 := (HG ()).1; have h3 := (HG ()).2.2.2.2; have h4 := (HK12 ()).size; have h5 := (HQ ()).2.2; have h6 := (HQ ()).2.1.size; have h7 := (HK3 ()).size; have h8 := (HR ()).2.2
    omega
  have HT : Unit → _ := fun _ => returned_rows yb g c ad cap ls a0 na ca VA p0 p1 (.slice b0 nb cb) W0.p4 W0.p5 W0.p6 W0.p7 W3 (((HB ()).same (HK ())).play) (by have := (HB ()).play.lt; have := (HGW ()).1; omega) (((HB ()).same (HK ())).rowA.out (fun x hx hx0 h e => by
      rcases e with e | e
      · have := ((HB ()).rowA.lt x hx0).1; have := (HGW ()).1; omega
      · exact h (Or.inl e))) ((HG ()).2.1.keep (HKg ()) (fun e => e)) (HG ()).2.2.1 ((HROW ()).1.keep (HK ())) (HROW ()).2.2 (HROW ()).2.1 (HN ())
  refine Calls.mono (HT ()) ?_
  rintro e w4 ⟨rfl, m, hpost⟩
  have kd : Keep nil W3 (W3.drewN m) := (Keep.refl nil W3).drewN m
  have HP : Unit → Book2 W0 w4 yb p0 p1 (na + 1) nb := fun _ => (HB ()).sheet ((HK ()).trans kd) (fun x e => by rw [e]; exact (HGW ()).1) hpost
  have hnq : ∀ x, w.heap.size ≤ x → g < x → ¬ (only g x ∨ x = yb ∨ a0 = some ⟨x, 0, none⟩) := fun x hx hgx e => by
    rcases e with e | e | e
    · simp only [only] at e; omega
    · have := (HB ()).play.lt; omega
    · have := ((HB ()).rowA.lt x e).1; omega
  have hq2 := HGW ()
  have BQ := ((((HQ ()).1.keep (HK3 ()) (fun e => e)).keep (HR ()).2.1 (fun e => e)).keep kd (fun e => e)).keep hpost.keep (hnq qb (by omega) hq2.2.1)
  have BR := ((HR ()).1.keep kd (fun e => e)).keep hpost.keep (hnq rb (by omega) hq2.2.2)
  clear hpost HT kd hnq hq2
  have a0' := BQ.cell 0
  have a1' := BQ.cell 1
  have a2' := BQ.cell 2
  have a3' := BQ.cell 3
  have a4' := BQ.cell 4
  have a5' := BQ.cell 5
  have e0' := BR.cell 0
  have e1' := BR.cell 1
  have e2' := BR.cell 2
  have e3' := BR.cell 3
  have e4' := BR.cell 4
  have e5' := BR.cell 5
  simp at a0' a1' a2' a3' a4' a5' e0' e1' e2' e3' e4' e5'
  clear BQ BR
  go_wp2
  go_ret
  exact ⟨rfl, HP ()⟩

set_option maxRecDepth 100000 in
set_option maxHeartbeats 2000000 in
theorem plain2_chk_nil (W0 : Cx) (w : World) (yb : Nat) (p0 p1 : Value) (na nb : Nat) (hB : Book2 W0 w yb p0 p1 na nb) (oc oa ob : Int) (E : Value) (d : Bool) (s k l n : Int) (f : Bool) (D : Value)
    (he : E.oneCell' = true) (hd : D.oneCell' = true) (hE : E = .slice none 0 0) :
    Calls Tryz.prog 40 #[.pointer (some ⟨yb, 0, none⟩), opv 1 oc oa ob E d s k l n f D] w fun e w' => e = .returned (.bool true) ∧ Book2 W0 w' yb p0 p1 na nb := by
  obtain ⟨a0, ca, VA, b0, cb, VB, hb⟩ := hB
  have HB : Unit → Bk2 W0 w yb p0 p1 a0 na ca VA b0 nb cb VB := fun _ => hb
  have hsl : ∀ w, ESl w none [] := fun w => Or.inl rfl
  have H1 : Unit → ∀ w, Calls Tryz.prog 13 #[.int .i64 oa, .slice none 0 0] w fun r w' => ∃ z : Int, r = .returned (.int .i64 z) ∧ Chk oa [] z ∧ Keep nil w w' := fun _ w => arborCheck_any oa none [] 0 w (hsl w) (by simp)
  have H2 : Unit → ∀ w, Calls Tryz.prog 74 #[.int .i64 oa, .slice none 0 0] w fun r w' => ∃ z : Int, r = .returned (.int .i64 z) ∧ Chk oa [] z ∧ Keep nil w w' := fun _ w => refCheck_all oa none [] 0 w (hsl w)
  subst hE
  clear hb he hsl
  go_enter Tryz.func40, Tryz.ntmps40
  go_wp2_with fail
  obtain ⟨W1, hW1⟩ : ∃ W1, W1 = w.alloc (.cells #[.int .i64 1, .int .i64 oc, .int .i64 oa, .int .i64 ob, .slice none 0 0, .bool d, .int .i64 s, .int .i64 k, .int .i64 l, .int .i64 n, .bool f, D] 80) := ⟨_, rfl⟩
  have hbx : Blk W1 w.heap.size #[.int .i64 1, .int .i64 oc, .int .i64 oa, .int .i64 ob, .slice none 0 0, .bool d, .int .i64 s, .int .i64 k, .int .i64 l, .int .i64 n, .bool f, D] 80 := by rw [hW1]; exact Blk.new _ _ _
  have hkw : Keep nil w W1 := by rw [hW1]; exact (Keep.refl nil w).alloc _
  rw [← hW1]
  obtain ⟨xb, hxb⟩ : ∃ xb, xb = w.heap.size := ⟨_, rfl⟩
  rw [← hxb] at hbx ⊢
  have HX : Unit → Blk W1 xb #[.int .i64 1, .int .i64 oc, .int .i64 oa, .int .i64 ob, .slice none 0 0, .bool d, .int .i64 s, .int .i64 k, .int .i64 l, .int .i64 n, .bool f, D] 80 ∧ Keep nil w W1 := fun _ => ⟨hbx, hkw⟩
  have c2 := hbx.cell 2
  have c4 := hbx.cell 4
  simp at c2 c4
  clear hW1 hbx hkw hxb
  refine (lentE_nil _).mono ?_
  rintro e w1' ⟨rfl, rfl⟩
  go_wp2_with fail
  refine (H1 () _).mono ?_
  rintro e w2 ⟨z, rfl, hz, hk2⟩
  have HZ : Unit → Chk oa [] z := fun _ => hz
  have HK2 : Unit → Keep nil W1 w2 := fun _ => hk2
  clear hz hk2 c2 c4
  have c2 := ((HX ()).1.keep (HK2 ()) (fun e => e)).cell 2
  have c4 := ((HX ()).1.keep (HK2 ()) (fun e => e)).cell 4
  simp at c2 c4
  have hxl : xb < w2.heap.size := by have := (HX ()).1.lt; have := (HK2 ()).size; omega
  go_wp2_with fail
  refine (H2 () _).mono ?_
  rintro e w3 ⟨z', rfl, hz, hk3⟩
  have hzz : z' = z := hz.uniq (HZ ())
  subst hzz
  have HK3 : Unit → Keep nil W1 w3 := fun _ => (HK2 ()).trans hk3
  clear hz hk3 c2 c4 hxl
  have c4 := ((HX ()).1.keep (HK3 ()) (fun e => e)).cell 4
  simp at c4
  have hxl : xb < w3.heap.size := by have := (HX ()).1.lt; have := (HK3 ()).size; omega
  go_wp2_with fail
  refine (returnedE_nil yb (.slice none 0 0) _).mono ?_
  rintro e w4 ⟨rfl, rfl⟩
  have HP : Unit → Book2 W0 w3 yb p0 p1 na nb := fun _ => ⟨a0, ca, VA, b0, cb, VB, (HB ()).same ((HX ()).2.trans (HK3 ()))⟩
  go_wp2
  go_ret
  exact ⟨by simp, HP ()⟩

set_option maxRecDepth 100000 in
set_option maxHeartbeats 2000000 in
theorem plain2_chk_row (W0 : Cx) (w : World) (yb : Nat) (p0 p1 : Value) (na nb : Nat) (hB : Book2 W0 w yb p0 p1 na nb) (oc oa ob : Int) (E : Value) (d : Bool) (s k l n : Int) (f : Bool) (D : Value)
    (he : E.oneCell' = true) (hd : D.oneCell' = true) (ad : Addr) (cap : Nat) (es : List Ed) (hE : E = .slice (some ad) es.length cap) (hrow : ESl w (some ad) es) (hlen : (es.length : Int) ≤ 5864062014700) (hnb : (nb : Int) < 1099511627776) :
    Calls Tryz.prog 40 #[.pointer (some ⟨yb, 0, none⟩), opv 1 oc oa ob E d s k l n f D] w fun e w' => e = .returned (.bool true) ∧ Book2 W0 w' yb p0 p1 na (nb + 1) := by
  obtain ⟨a0, ca, VA, b0, cb, VB, hb⟩ := hB
  have HB : Unit → Bk2 W0 w yb p0 p1 a0 na ca VA b0 nb cb VB := fun _ => hb
  have HN : Unit → (nb : Int) < 1099511627776 := fun _ => hnb
  have HROW : Unit → ESl w (some ad) es ∧ (es.length : Int) ≤ 5864062014700 := fun _ => ⟨hrow, hlen⟩
  have HL : Unit → ∀ w1, Keep nil w w1 → Calls Tryz.prog 73 #[.slice (some ad) es.length cap] w1 fun e w' => ∃ g c, e = .returned (.slice (some ⟨g, 0, none⟩) es.length c) ∧ w1.heap.size ≤ g ∧ EBuf w' g (es ++ emarks 8) c ∧ es.length + 8 ≤ c ∧ Keep nil w1 w' := fun _ w1 k => by
    by_cases h0 : 0 < es.length
    · obtain ⟨bb, bo, e1, e2, e3⟩ := (hrow.keep k).some h0
      cases e1
      exact lentE_any bb bo cap es w1 e3 e2 (by omega) h0
    · have : es = [] := List.eq_nil_of_length_eq_zero (by omega)
      subst this
      have := lentE_empty ad cap w1
      simpa using this
  have H1 : Unit → ∀ w g c, ERow w g 0 es → g < w.heap.size → es.length ≤ c → Calls Tryz.prog 13 #[.int .i64 oa, .slice (some ⟨g, 0, none⟩) es.length c] w fun r w' => ∃ z : Int, r = .returned (.int .i64 z) ∧ Chk oa es z ∧ Keep nil w w' := fun _ w g c h1 h2 h3 => arborCheck_any oa _ es c w (Or.inr ⟨g, 0, rfl, h2, h1⟩) h3
  have H2 : Unit → ∀ w, ESl w (some ad) es → Calls Tryz.prog 74 #[.int .i64 oa, .slice (some ad) es.length cap] w fun r w' => ∃ z : Int, r = .returned (.int .i64 z) ∧ Chk oa es z ∧ Keep nil w w' := fun _ w h1 => refCheck_all oa _ es cap w h1
  subst hE
  clear hb he hrow hlen hnb
  go_enter Tryz.func40, Tryz.ntmps40
  go_wp2_with fail
  obtain ⟨W1, hW1⟩ : ∃ W1, W1 = w.alloc (.cells #[.int .i64 1, .int .i64 oc, .int .i64 oa, .int .i64 ob, .slice (some ad) es.length cap, .bool d, .int .i64 s, .int .i64 k, .int .i64 l, .int .i64 n, .bool f, D] 80) := ⟨_, rfl⟩
  have hbx : Blk W1 w.heap.size #[.int .i64 1, .int .i64 oc, .int .i64 oa, .int .i64 ob, .slice (some ad) es.length cap, .bool d, .int .i64 s, .int .i64 k, .int .i64 l, .int .i64 n, .bool f, D] 80 := by rw [hW1]; exact Blk.new _ _ _
  have hkw : Keep nil w W1 := by rw [hW1]; exact (Keep.refl nil w).alloc _
  rw [← hW1]
  obtain ⟨xb, hxb⟩ : ∃ xb, xb = w.heap.size := ⟨_, rfl⟩
  rw [← hxb] at hbx ⊢
  have HX : Unit → Blk W1 xb #[.int .i64 1, .int .i64 oc, .int .i64 oa, .int .i64 ob, .slice (some ad) es.length cap, .bool d, .int .i64 s, .int .i64 k, .int .i64 l, .int .i64 n, .bool f, D] 80 ∧ Keep nil w W1 := fun _ => ⟨hbx, hkw⟩
  clear hW1 hbx hkw hxb
  refine (HL () _ (HX ()).2).mono ?_
  rintro e w1 ⟨g, c, rfl, hg, hbg, hcg, hk1⟩
  have HG : Unit → W1.heap.size ≤ g ∧ EBuf w1 g (es ++ emarks 8) c ∧ es.length + 8 ≤ c ∧ Keep nil W1 w1 ∧ g < w1.heap.size := fun _ => ⟨hg, hbg, hcg, hk1, hbg.lt⟩
  clear hg hbg hcg hk1
  have c2 := ((HX ()).1.keep (HG ()).2.2.2.1 (fun e => e)).cell 2
  simp at c2
  have hxl : xb < w1.heap.size := by have := (HX ()).1.lt; have := (HG ()).2.2.2.1.size; omega
  go_wp2_with fail
  refine (H1 () _ g c (by
    intro j u hu
    rw [Nat.zero_add]
    refine (HG ()).2.1.cell j u ?_
    rw [ecells_append, List.getElem?_append_left (List.getElem?_eq_some_iff.1 hu).1]
    exact hu) (HG ()).2.2.2.2 (by have := (HG ()).2.2.1; omega)).mono ?_
  rintro e w2 ⟨z, rfl, hz, hk2⟩
  have HZ : Unit → Chk oa es z := fun _ => hz
  have HK12 : Unit → Keep nil w1 w2 := fun _ => hk2
  have HK2 : Unit → Keep nil W1 w2 := fun _ => (HG ()).2.2.2.1.trans hk2
  clear hz hk2 c2 hxl
  have c2 := ((HX ()).1.keep (HK2 ()) (fun e => e)).cell 2
  have c4 := ((HX ()).1.keep (HK2 ()) (fun e => e)).cell 4
  simp at c2 c4
  have hxl : xb < w2.heap.size := by have := (HX ()).1.lt; have := (HK2 ()).size; omega
  go_wp2_with fail
  refine (H2 () _ ((HROW ()).1.keep ((HX ()).2.trans (HK2 ())))).mono ?_
  rintro e w3 ⟨z', rfl, hz, hk3⟩
  have hzz : z' = z := hz.uniq (HZ ())
  subst hzz
  have HK3 : Unit → Keep nil W1 w3 := fun _ => (HK2 ()).trans hk3
  have HK13 : Unit → Keep nil w1 w3 := fun _ => (HK12 ()).trans hk3
  clear hz hk3 c2 c4 hxl
  have c4 := ((HX ()).1.keep (HK3 ()) (fun e => e)).cell 4
  simp at c4
  have hxl : xb < w3.heap.size := by have := (HX ()).1.lt; have := (HK3 ()).size; omega
  have HK : Unit → Keep nil w w3 := fun _ => (HX ()).2.trans (HK3 ())
  have HGW : Unit → w.heap.size ≤ g := fun _ => by have h1 := (HX ()).2.size; have h2 := (HG ()).1; omega
  have HT : Unit → _ := fun _ => returnedE_rows yb g c ad cap es b0 nb cb VB p0 p1 (.slice a0 na ca) W0.p4 W0.p5 W0.p6 W0.p7 w3 (((HB ()).same (HK ())).play) (by have := (HB ()).play.lt; have := HGW (); omega) (((HB ()).same (HK ())).rowB.out (fun x hx hx0 h e => by
      rcases e with e | e
      · have := ((HB ()).rowB.lt x hx0).1; have := HGW (); omega
      · exact h (Or.inl e))) ((HG ()).2.1.keep (HK13 ()) (fun e => e)) (HG ()).2.2.1 ((HROW ()).1.keep (HK ())) (HROW ()).2 (HN ())
  go_wp2_with fail
  refine Calls.mono (HT ()) ?_
  rintro e w4 ⟨rfl, m, hpost⟩
  have kd : Keep nil w3 (w3.drewN m) := (Keep.refl nil w3).drewN m
  have HP : Unit → Book2 W0 w4 yb p0 p1 na (nb + 1) := fun _ => (HB ()).roll ((HK ()).trans kd) (fun x e => by rw [e]; exact HGW ()) hpost
  clear hpost HT kd c4 hxl
  go_wp2
  go_ret
  exact ⟨by simp, HP ()⟩

theorem plain2_any (W0 : Cx) (w : World) (yb : Nat) (p0 p1 : Value) (na nb : Nat) (hB : Book2 W0 w yb p0 p1 na nb) (o : OpD) (hok : o.ok w) (h1 : 1 ≤ o.kd) (h3 : o.kd ≤ 3) (hna : (na : Int) < 1099511627776) (hnb : (nb : Int) < 1099511627776) :
    Calls Tryz.prog 40 #[.pointer (some ⟨yb, 0, none⟩), o.v] w fun e w' => e = .returned (.bool true) ∧ ∃ na' nb', na' ≤ na + 1 ∧ nb' ≤ nb + 1 ∧ Book2 W0 w' yb p0 p1 na' nb' := by
  obtain ⟨kd, oc, oa, ob, ea, es, ec, d, s, k, l, n, f, da, ds, dc⟩ := o
  simp only at h1 h3
  obtain rfl | rfl | rfl : kd = 1 ∨ kd = 2 ∨ kd = 3 := by omega
  · rcases hok.e with ⟨e1, e2, e3⟩ | ⟨ad, e1, e2, e4⟩
    · simp only at e1 e2 e3
      subst e1 e2 e3
      refine (plain2_chk_nil W0 w yb p0 p1 na nb hB oc oa ob (.slice none 0 0) d s k l n f _ rfl rfl rfl).mono ?_
      rintro e w' ⟨h, hb⟩
      exact ⟨h, na, nb, by omega, by omega, hb⟩
    · simp only at e1 e2 e4
      subst e1
      refine (plain2_chk_row W0 w yb p0 p1 na nb hB oc oa ob _ d s k l n f _ rfl rfl ad ec es rfl e2 e4 hnb).mono ?_
      rintro e w' ⟨h, hb⟩
      exact ⟨h, na, nb + 1, by omega, by omega, hb⟩
  · by_cases he : encErr d s k l n f = 0
    · refine (plain2_enc_ok W0 w yb p0 p1 na nb hB oc oa ob _ d s k l n f _ rfl rfl he hna).mono ?_
      rintro e w' ⟨h, hb⟩
      exact ⟨h, na + 1, nb, by omega, by omega, hb⟩
    · refine (plain2_enc_err W0 w yb p0 p1 na nb hB oc oa ob _ d s k l n f _ rfl rfl he hna).mono ?_
      rintro e w' ⟨h, hb⟩
      exact ⟨h, na + 1, nb, by omega, by omega, hb⟩
  · rcases hok.dd with ⟨e1, e2, e3⟩ | ⟨ad, e1, e2, e4, e5, e6⟩
    · simp only at e1 e2 e3
      subst e1 e2 e3
      refine (plain2_dec_nil W0 w yb p0 p1 na nb hB oc oa ob _ d s k l n f (.slice none 0 0) rfl rfl rfl hna).mono ?_
      rintro e w' ⟨h, hb⟩
      exact ⟨h, na, nb, by omega, by omega, hb⟩
    · simp only at e1 e2 e4 e5 e6
      subst e1
      refine (plain2_dec_row W0 w yb p0 p1 na nb hB oc oa ob _ d s k l n f _ rfl rfl ad dc ds rfl e2 e6 e4 e5 hna).mono ?_
      rintro e w' ⟨h, hb⟩
      exact ⟨h, na + 1, nb, by omega, by omega, hb⟩
end Go.Proofs.YtlfijfodklhplaaGreat
/- Walk of comes: In of bytes that are lent. -/
namespace Go.Proofs.YtlfijfodklhplaaGreat
open Go.RowKit
set_option linter.unusedVariables false
set_option linter.unusedSimpArgs false

theorem refIn_all (b : Nat) (e : En) (r : Rf) (p : Rp) (q : Option Fr.Frm) (v : Value) (w : World) (h : RRep w b r p) (hlk : Lk e r) (hd : DecAns v q w) (hq : ∀ f, q = some f → FrOk f)
    (hkn : ∀ (i : Nat) (x : Fr.Msg), e.kept[i]? = some (some x) → e.await + i < 65536) (haw : e.await ≤ 65536) (ho : (r.out.length : Int) < 5864061014000) :
    Calls Tryz.prog 132 #[.pointer (some ⟨b, 0, none⟩), v] w fun x w' => ∃ ta tc r' p', x = .returned (.slice ta (e.tld q).length tc) ∧ RV w' 76 4 ta (e.tld q).length tc (mcells (e.tld q)) ∧ (∀ g, inB ta g → w.heap.size ≤ g ∧ ¬ RMine b p' g) ∧ RRep w' b r' p' ∧ Lk (e.inn q) r' ∧ RStep w w' b p p' := by
  cases q with
  | none =>
    refine (refIn_no b v w hd).mono ?_
    rintro x w' ⟨rfl, k⟩
    exact ⟨none, 0, r, p, rfl, RV.nil _ _ _, fun g hg => (inB_none g hg).elim, h.keep k (fun _ _ e => e), hlk, RStep.of_keep b p k⟩
  | some f =>
    have hf := hq f rfl
    obtain ⟨d, s, m⟩ := f
    cases d with
    | false =>
      have hm : m = Fr.none0 := by
        rcases hf.2 with ⟨h, _⟩ | ⟨_, h⟩
        · cases h
        · exact h
      subst hm
      refine (refIn_ack b r p s v w h hd ho).mono ?_
      rintro x w' ⟨rfl, p', h1, h2⟩
      exact ⟨none, 0, _, p', rfl, RV.nil _ _ _, fun g hg => (inB_none g hg).elim, h1, hlk.ack s, h2⟩
    | true => exact refIn_msg b e r p s m v w h hlk hd hf.1 hkn haw ho

theorem BIn.keep {ex : Nat → Prop} {w w' : World} {a : Option Addr} {ls : List Nat} {cap : Nat} (h : BIn w a ls cap) (k : Keep ex w w') (hn : ∀ bb bo, a = some ⟨bb, bo, none⟩ → bb < w.heap.size → ls ≠ [] → ¬ ex bb) : BIn w' a ls cap := by
  rcases h with h | ⟨ad, rfl, h2, h3⟩
  · exact Or.inl h
  · refine Or.inr ⟨ad, rfl, ?_, h3⟩
    by_cases h0 : ls = []
    · exact Or.inl h0
    · exact h2.keepX k (fun bb bo hb e => hn bb bo (by rw [e]) hb h0)
section
variable {W0 w w' : World} {tag : Nat → Nat} {yb : Nat} {ea : Option Addr} {ec : Nat} {l : List Lp} {p1 : Value} {R : Nat → Rw} {Y Z : World → (Nat → Nat) → Prop}
/-- A row of the book lies apart from free blocks and the Play. -/
theorem LS.rowOut (h : LS W0 w tag yb ea ec l p1 R Y Z) {κ : Nat} (hκ : κ < 6) {G : Nat → Prop} (hG : ∀ b, b < w.heap.size → G b → tag b = 0) : RowIs w (R κ).a (R κ).n (R κ).c (rty κ) (R κ).V (fun b => G b ∨ b = yb) := by
  refine RowIs.out (h.b.row κ hκ) (fun x hx _ hn e => ?_)
  have h1 : tag x = 11 + κ := Classical.not_not.1 hn
  rcases e with e | e
  · have := hG x hx e; omega
  · rw [e, h.b.ty] at h1; omega
theorem LS.ylt (h : LS W0 w tag yb ea ec l p1 R Y Z) : yb < w.heap.size ∧ tag yb = 10 := ⟨h.b.play.lt, h.b.ty⟩
end
/-- Bytes that are lent, as the calls see them. -/
def Lent (w1 w' : World) (a : Option Addr) (ls : List Nat) (gv : Value) (G : Nat → Prop) : Prop :=
  (a = none ∧ ls = [] ∧ gv = .slice none 0 0 ∧ ∀ k, ¬ G k) ∨ ∃ g c ad, a = some ad ∧ gv = .slice (some ⟨g, 0, none⟩) ls.length c ∧ w1.heap.size ≤ g ∧ BRow w' g (ls ++ marks 8) c ∧ ls.length + 8 ≤ c ∧ g < w'.heap.size ∧ ∀ k, G k ↔ k = g
theorem lent_both (a : Option Addr) (ls : List Nat) (cap : Nat) (w : World) (h : BIn w a ls cap) :
    Calls Tryz.prog 79 #[.slice a ls.length cap] w fun e w' => ∃ gv G, e = .returned gv ∧ Lent w w' a ls gv G ∧ Keep nil w w' := by
  rcases h with ⟨rfl, rfl, rfl⟩ | ⟨ad, rfl, hs, hl, hb, hc⟩
  · refine (lent_nil w).mono ?_
    rintro e w' ⟨rfl, rfl⟩
    exact ⟨_, fun _ => False, rfl, Or.inl ⟨rfl, rfl, rfl, fun _ e => e⟩, Keep.refl _ _⟩
  · have key : Calls Tryz.prog 79 #[.slice (some ad) ls.length cap] w fun e w' => ∃ g c, e = .returned (.slice (some ⟨g, 0, none⟩) ls.length c) ∧ w.heap.size ≤ g ∧ BRow w' g (ls ++ marks 8) c ∧ ls.length + 8 ≤ c ∧ Keep nil w w' := by
      by_cases h0 : 0 < ls.length
      · rcases hs with e | ⟨bb, bo, rfl, e2, e3⟩
        · rw [e] at h0; simp at h0
        · exact lent_any bb bo cap ls w e3 e2 hl h0
      · have : ls = [] := List.eq_nil_of_length_eq_zero (by omega)
        subst this
        have := lent_empty ad cap w
        simpa using this
    refine key.mono ?_
    rintro e w' ⟨g, c, rfl, h1, h2, h3, h4⟩
    exact ⟨_, fun k => k = g, rfl, Or.inr ⟨g, c, ad, rfl, rfl, h1, h2, h3, h2.lt, fun _ => Iff.rfl⟩, h4⟩
theorem Lent.keep {ex : Nat → Prop} {w1 w w' : World} {a : Option Addr} {ls : List Nat} {gv : Value} {G : Nat → Prop} (h : Lent w1 w a ls gv G) (k : Keep ex w w') (hn : ∀ x, x < w.heap.size → G x → ¬ ex x) : Lent w1 w' a ls gv G := by
  rcases h with h | ⟨g, c, ad, h1, h2, h3, h4, h5, h6, h7⟩
  · exact Or.inl h
  · exact Or.inr ⟨g, c, ad, h1, h2, h3, h4.keep k (hn g h6 ((h7 g).2 rfl)), h5, Nat.lt_of_lt_of_le h6 k.size, h7⟩
/-- What was lent, for the program's In. -/
theorem Lent.lies {w1 w : World} {a : Option Addr} {ls : List Nat} {gv : Value} {G : Nat → Prop} (h : Lent w1 w a ls gv G) (hl : (ls.length : Int) ≤ 140737488351232) (hb : ∀ x ∈ ls, x < 256) : (gv = .slice none 0 0 ∧ ls = []) ∨ ∃ bb bo cap, gv = .slice (some ⟨bb, bo, none⟩) ls.length cap ∧ Lies w bb bo cap ls := by
  rcases h with ⟨_, h1, h2, _⟩ | ⟨g, c, ad, h1, h2, h3, h4, h5, h6, h7⟩
  · exact Or.inl ⟨h2, h1⟩
  · refine Or.inr ⟨g, 0, c, h2, ?_, h6, by omega, by omega, hb⟩
    have := brow_row h4
    intro j hj
    have h2 := this j (by rw [List.length_append]; omega)
    rw [List.getElem_append_left hj] at h2
    exact h2
theorem BIn.len {w : World} {a : Option Addr} {ls : List Nat} {cap : Nat} (h : BIn w a ls cap) : (ls.length : Int) ≤ 140737488351232 := by
  rcases h with ⟨_, rfl, _⟩ | ⟨_, _, _, h, _⟩
  · simp
  · exact h
section
variable {W0 : World} {tag : Nat → Nat} {yb : Nat} {ea : Option Addr} {ec : Nat} {l : List Lp} {p1 : Value} {R : Nat → Rw} {Y Z : World → (Nat → Nat) → Prop}
/-- What was lent is returned. -/
theorem returned_both (W0 w : World) (h : LS W0 w tag yb ea ec l p1 R Y Z) (a : Option Addr) (ls : List Nat) (cap : Nat) (gv : Value) (G : Nat → Prop) (w1 : World) (hg : Lent w1 w a ls gv G) (hb : BIn w a ls cap) (hG : ∀ x, x < w.heap.size → G x → tag x = 0) (hn : ((R 0).n : Int) < 1099511627776) :
    Calls Tryz.prog 82 #[.pointer (some ⟨yb, 0, none⟩), gv, .slice a ls.length cap] w fun e w' => e = .returned (.bool true) ∧ ∃ tag' R', LS W0 w' tag' yb ea ec l p1 R' Y Z ∧ (R' 0).n ≤ (R 0).n + 1 ∧ (∀ j, j ≠ 0 → R' j = R j) ∧ (∀ k, k < w.heap.size → ¬ G k → tag' k = tag k) ∧ (∀ k, k < w.heap.size → tag k ≠ 0 → tag' k = tag k) ∧ Keep (fun k => G k ∨ (10 ≤ tag k ∧ tag k ≤ 16)) w w' := by
  rcases hg with ⟨rfl, rfl, rfl, hgf⟩ | ⟨g, c, ad, rfl, rfl, h3, h4, h5, h6, h7⟩
  · have hc : cap = 0 := by
      rcases hb with ⟨_, _, h⟩ | ⟨_, h, _⟩
      · exact h
      · cases h
    subst hc
    refine (returned_nil yb (.slice none 0 0) w).mono ?_
    rintro e w' ⟨rfl, rfl⟩
    exact ⟨rfl, tag, R, h, by omega, fun _ _ => rfl, fun _ _ _ => rfl, fun _ _ _ => rfl, Keep.refl _ _⟩
  · obtain ⟨hs, hl, hby, hc⟩ : BSl w ad ls ∧ (ls.length : Int) ≤ 140737488351232 ∧ (∀ x ∈ ls, x < 256) ∧ ls.length ≤ cap := by
      rcases hb with ⟨h, _⟩ | ⟨ad', h, h2⟩
      · cases h
      · cases h; exact h2
    have hG' : ∀ x, x < w.heap.size → only g x → tag x = 0 := fun x hx e => hG x hx ((h7 x).2 e)
    have hyg : yb ≠ g := fun e => by have h1 := h.ylt; have h2 := hG g h6 ((h7 g).2 rfl); rw [← e] at h2; omega
    refine (returned_rows yb g c ad cap ls (R 0).a (R 0).n (R 0).c (R 0).V (.slice ea l.length ec) p1 (R 1).val (R 2).val (R 3).val (R 4).val (R 5).val w h.b.play hyg (h.rowOut (by omega) (G := only g) hG') h4 h5 hs hby hl hn).mono ?_
    rintro e w' ⟨rfl, m, hpost⟩
    have kd : Keep nil w (w.drewN m) := (Keep.refl nil w).drewN m
    obtain ⟨ab, c', v, ha⟩ := addedB (R := R) hpost
    have hk := ha.keep
    obtain ⟨tag', R', hS, r1, r2, t1, t2⟩ := (h.same kd).add (by omega) (G := only g) (fun x hx e => hG' x (by rw [show (w.drewN m).heap = w.heap from heap_drewN w m] at hx; exact hx) e) ha
    rw [show (w.drewN m).heap = w.heap from heap_drewN w m] at t1 t2
    refine ⟨rfl, tag', R', hS, by omega, r2, fun k hk hn => t1 k hk (fun e => hn ((h7 k).2 e)), t2, ?_⟩
    refine (kd.mono (fun _ _ e => e.elim)).trans' hk (fun i hi e => ?_)
    rcases e with e | e | e
    · exact Or.inl ((h7 i).2 e)
    · rw [e]; right; have := h.ylt; omega
    · right; have := (h.b.rlt (show 0 < 6 by omega) e).2; omega
end
end Go.Proofs.YtlfijfodklhplaaGreat
/- Walk of comes. -/
namespace Go.Proofs.YtlfijfodklhplaaGreat
open Go.RowKit
set_option linter.unusedVariables false
set_option linter.unusedSimpArgs false

/-- An end, as a value. -/
abbrev Lp.v (x : Lp) : Value := .agg #[.pointer (some ⟨x.xb, 0, none⟩), .pointer (some ⟨x.cb, 0, none⟩)]
theorem rv_msg {w : World} {ta : Option Addr} {tc : Nat} {T : List Fr.Msg} (h : RV w 76 4 ta T.length tc (mcells T)) (i : Nat) (m : Fr.Msg) (hm : T[i]? = some m) : ∃ g o, ta = some ⟨g, o, none⟩ ∧ w.cell? ⟨g, o + i * 4, none⟩ = some (.int .i64 (m.kind : Int)) ∧ w.cell? ⟨g, o + i * 4 + 1, none⟩ = some (.int .i64 (m.level : Int)) ∧ w.cell? ⟨g, o + i * 4 + 2, none⟩ = some (.int .i64 (m.name : Int)) ∧ w.cell? ⟨g, o + i * 4 + 3, none⟩ = some (.bool m.finding) := by
  obtain ⟨h1, h2, h3⟩ := h
  have hi := (List.getElem?_eq_some_iff.1 hm).1
  rcases h3 with ⟨_, h3, _⟩ | ⟨g, o, h3, hv⟩
  · omega
  · have key : ∀ j u, (mcell m)[j]? = some u → w.cell? ⟨g, o + i * 4 + j, none⟩ = some u := fun j u hu => by
      have hj : j < 4 := (List.getElem?_eq_some_iff.1 hu).1
      rw [Nat.add_assoc]
      exact hv.cell _ _ ((mcells_get T i m hm j hj).trans hu)
    exact ⟨g, o, h3, key 0 _ rfl, key 1 _ rfl, key 2 _ rfl, key 3 _ rfl⟩

set_option maxRecDepth 100000 in
set_option maxHeartbeats 4000000 in
theorem comes_any (W0 w00 : World) (tag : Nat → Nat) (yb : Nat) (ea : Option Addr) (ec : Nat) (l : List Lp) (p1 : Value) (R : Nat → Rw) (Y Z : World → (Nat → Nat) → Prop) (hS : LS W0 w00 tag yb ea ec l p1 R Y Z) (i : Nat) (x : Lp) (hx : l[i]? = some x) (hlk : Lk x.e x.r)
    (a : Option Addr) (ls : List Nat) (cap : Nat) (hb : BIn w00 a ls cap) (htg : ∀ bb bo, a = some ⟨bb, bo, none⟩ → bb < w00.heap.size → ls ≠ [] → tag bb = 9 ∨ (2 ≤ tag bb ∧ tag bb ≤ 8)) (q : Option Fr.Frm) (hq : Is ls q)
    (hn0 : ((R 0).n : Int) < 1099511627776) (hn2 : ((R 2).n : Int) < 1099511627776) (hout : (x.e.out.length : Int) < 1099511627000) :
    Calls Tryz.prog 86 #[.pointer (some ⟨yb, 0, none⟩), x.v, .slice a ls.length cap] w00 fun e w' => e = .returned (.bool true) ∧
      ∃ tag' R' x', LS W0 w' tag' yb ea ec (l.set i x') p1 R' Y Z ∧ x'.xb = x.xb ∧ x'.cb = x.cb ∧ x'.e = x.e.inn q ∧ Lk x'.e x'.r ∧ (R' 0).n ≤ (R 0).n + 1 ∧ (R' 2).n = (R 2).n + 1 ∧ (∀ j, j ≠ 0 → j ≠ 2 → R' j = R j) ∧ (∀ k, k < w00.heap.size → tag k ≠ 0 → tag' k = tag k) ∧ w00.heap.size ≤ w'.heap.size := by
  have H0 : Unit → LS W0 w00 tag yb ea ec l p1 R Y Z ∧ l[i]? = some x ∧ Lk x.e x.r ∧ BIn w00 a ls cap ∧ (∀ bb bo, a = some ⟨bb, bo, none⟩ → bb < w00.heap.size → ls ≠ [] → tag bb = 9 ∨ (2 ≤ tag bb ∧ tag bb ≤ 8)) ∧ Is ls q := fun _ => ⟨hS, hx, hlk, hb, htg, hq⟩
  have HN : Unit → ((R 0).n : Int) < 1099511627776 ∧ ((R 2).n : Int) < 1099511627776 ∧ (x.e.out.length : Int) < 1099511627000 := fun _ => ⟨hn0, hn2, hout⟩
  obtain ⟨xb, hxb⟩ : ∃ xb, xb = x.xb := ⟨_, rfl⟩
  obtain ⟨cb, hcb⟩ : ∃ cb, cb = x.cb := ⟨_, rfl⟩
  have HX : Unit → xb = x.xb ∧ cb = x.cb := fun _ => ⟨hxb, hcb⟩
  obtain ⟨n, hnl⟩ : ∃ n, n = ls.length := ⟨_, rfl⟩
  have HNL : Unit → n = ls.length := fun _ => hnl
  simp only [Lp.v]
  rw [← hxb, ← hcb, ← hnl]
  clear hS hx hlk hb htg hq hn0 hn2 hout hxb hcb hnl
  go_enter Tryz.func86, Tryz.ntmps86
  go_wp2_with fail
  obtain ⟨w, hW1⟩ : ∃ w, w = w00.alloc (.cells #[.pointer (some ⟨xb, 0, none⟩), .pointer (some ⟨cb, 0, none⟩)] 98) := ⟨_, rfl⟩
  have hbw : Blk w w00.heap.size #[.pointer (some ⟨xb, 0, none⟩), .pointer (some ⟨cb, 0, none⟩)] 98 := by rw [hW1]; exact Blk.new _ _ _
  have hkw : Keep nil w00 w := by rw [hW1]; exact (Keep.refl nil w00).alloc _
  rw [← hW1]
  obtain ⟨bw, hbwe⟩ : ∃ bw, bw = w00.heap.size := ⟨_, rfl⟩
  rw [← hbwe] at hbw ⊢
  have HBW : Unit → Blk w bw #[.pointer (some ⟨xb, 0, none⟩), .pointer (some ⟨cb, 0, none⟩)] 98 ∧ tag bw = 0 := fun _ => ⟨hbw, (H0 ()).1.nz bw (by omega)⟩
  have HW : Unit → w00.heap.size ≤ w.heap.size := fun _ => hkw.size
  have H0' : Unit → LS W0 w tag yb ea ec l p1 R Y Z ∧ l[i]? = some x ∧ Lk x.e x.r ∧ BIn w a ls cap ∧ (∀ bb bo, a = some ⟨bb, bo, none⟩ → bb < w.heap.size → ls ≠ [] → tag bb = 9 ∨ (2 ≤ tag bb ∧ tag bb ≤ 8)) ∧ Is ls q := fun _ => by
    obtain ⟨hS, hx, hlk, hb, htg, hq⟩ := H0 ()
    refine ⟨hS.same hkw, hx, hlk, hb.keep hkw (fun _ _ _ _ _ e => e), fun bb bo ha hl hne => htg bb bo ha ?_ hne, hq⟩
    rcases hb with ⟨h, _⟩ | ⟨ad, h, hs, _⟩
    · rw [h] at ha; cases ha
    · rw [h] at ha; cases ha
      rcases hs with hs | ⟨b1, o1, hs, hl, _⟩
      · exact (hne hs).elim
      · cases hs; exact hl
  have HL : Unit → _ := fun _ => lent_both a ls cap w (H0' ()).2.2.2.1
  clear hW1 hbw hkw hbwe H0
  have H0 := H0'
  clear H0'
  rw [HNL ()]
  refine Calls.mono (HL ()) ?_
  rintro e w1 ⟨gv, G, rfl, hlent, k1⟩
  have H1 : Unit → Lent w w1 a ls gv G ∧ Keep nil w w1 := fun _ => ⟨hlent, k1⟩
  have HIN : Unit → Calls Tryz.prog 131 #[.pointer (some ⟨xb, 0, none⟩), gv] w1 fun r w' => ∃ v p', r = .returned v ∧ Told w1 w' xb p' v (x.e.tld q) ∧ Rep w' zero24 147 xb 0 (x.e.inn q) p' ∧ Step w1 w' xb x.p p' := fun _ => by
    obtain ⟨hS, hx, hlk, hb, htg, hq⟩ := H0 ()
    rw [(HX ()).1]
    exact in_all zero24 147 x.xb 0 x.e x.p gv ls q w1 ((hS.same k1).at hx).rep (hlent.lies hb.len hb.byte) hq (HN ()).2.2
  have c0 := ((HBW ()).1.keep k1 (fun e => e)).cell 0
  simp at c0
  clear hlent k1 HL
  go_wp2_with fail
  refine Calls.mono (HIN ()) ?_
  rintro e w2 ⟨v, p', rfl, ⟨ta, tc, rfl, hrv, hta⟩, hrep, hstep⟩
  have HC1 : Unit → w2.cell? ⟨bw, 1, none⟩ = some (.pointer (some ⟨cb, 0, none⟩)) := fun _ => by
    have hb1 := (HBW ()).1.keep (H1 ()).2 (fun e => e)
    have hA := (((H0 ()).1.same (H1 ()).2).at (H0 ()).2.1)
    have hb2 := hb1.keep hstep.keep (fun e => by rw [(HX ()).1] at e; have := hA.tp bw e.mine; have := (HBW ()).2; omega)
    have := hb2.cell 1
    simpa using this
  have H2 : Unit → ∃ tag2, LS W0 w2 tag2 yb ea ec (l.set i { x with e := x.e.inn q, p := p' }) p1 R Y Z ∧ (∀ k, k < w1.heap.size → tag2 k = tag k) ∧ RV w2 76 4 ta (x.e.tld q).length tc (mcells (x.e.tld q)) ∧ (∀ g, inB ta g → w1.heap.size ≤ g ∧ tag2 g = 0) ∧ Lent w w2 a ls gv G ∧ BIn w2 a ls cap ∧ w1.heap.size ≤ w2.heap.size := fun _ => by
    obtain ⟨hS, hx, hlk, hb, htg, hq⟩ := H0 ()
    obtain ⟨hlent, k1⟩ := H1 ()
    obtain ⟨e1, e2⟩ := HX ()
    rw [e1] at hrep hstep hta
    have hS1 := hS.same k1
    obtain ⟨tag2, hS2, t1, t2⟩ := hS1.stepP hx hrep hstep
    have hw : ∀ k, Wri x.xb x.p k → tag k = 20 + 4 * i := fun k hk => (hS1.at hx).tp k hk.mine
    have hk := hstep.keep
    refine ⟨tag2, hS2, t1, hrv, fun g hg => ⟨(hta g hg).1, t2 g (hta g hg).1 (hta g hg).2⟩, hlent.keep hk (fun y hy hg e => ?_), (hb.keep k1 (fun _ _ _ _ _ e => e)).keep hk (fun bb bo ha hbl hne e => ?_), hk.size⟩
    · have h1 := hw y e
      rcases hlent with ⟨_, _, _, h⟩ | ⟨g, c, ad, _, _, h3, _, _, _, h7⟩
      · exact h y hg
      · have := (h7 y).1 hg
        have := hS.nz y (by omega)
        omega
    · have h1 := hw bb e
      have hbw : bb < w.heap.size := by
        rcases Nat.lt_or_ge bb w.heap.size with h | h
        · exact h
        · have := hS.nz bb h; omega
      have := htg bb bo ha hbw hne
      omega
  clear hrv hta hrep hstep HIN
  obtain ⟨tag2, H2a⟩ := H2 ()
  have H2 : Unit → LS W0 w2 tag2 yb ea ec (l.set i { x with e := x.e.inn q, p := p' }) p1 R Y Z ∧ (∀ k, k < w1.heap.size → tag2 k = tag k) ∧ RV w2 76 4 ta (x.e.tld q).length tc (mcells (x.e.tld q)) ∧ (∀ g, inB ta g → w1.heap.size ≤ g ∧ tag2 g = 0) ∧ Lent w w2 a ls gv G ∧ BIn w2 a ls cap ∧ w1.heap.size ≤ w2.heap.size := fun _ => H2a
  clear H2a
  have HLX : Unit → (l.set i { x with e := x.e.inn q, p := p' })[i]? = some { x with e := x.e.inn q, p := p' } := fun _ => List.getElem?_set_self (List.getElem?_eq_some_iff.1 (H0 ()).2.1).1
  have HIN : Unit → Calls Tryz.prog 132 #[.pointer (some ⟨cb, 0, none⟩), .slice a ls.length cap] w2 fun y w' => ∃ ta tc r' p', y = .returned (.slice ta (x.e.tld q).length tc) ∧ RV w' 76 4 ta (x.e.tld q).length tc (mcells (x.e.tld q)) ∧ (∀ g, inB ta g → w2.heap.size ≤ g ∧ ¬ RMine cb p' g) ∧ RRep w' cb r' p' ∧ Lk (x.e.inn q) r' ∧ RStep w2 w' cb x.q p' := fun _ => by
    obtain ⟨hS, hx, hlk, hb, htg, hq⟩ := H0 ()
    obtain ⟨hS2, t1, hrv, hta, hlent, hb2, hsz⟩ := H2 ()
    rw [(HX ()).2]
    have hA := (hS2.at (HLX ())).ref
    have hA0 := (hS.at hx).rep
    exact refIn_all x.cb x.e x.r x.q q _ w2 hA hlk (hb2.ans hq) (fun f hf => by subst hf; exact hq.1) hA0.kn hA0.awt (by have := (HN ()).2.2; rw [← hlk.ou]; omega)
  clear c0
  have c1 := HC1 ()
  clear HC1
  go_wp2_with fail
  refine Calls.mono (HIN ()) ?_
  rintro e w3 ⟨tb, td, r', q', rfl, hrv, hta, hrep, hlk', hstep⟩
  have H3 : Unit → ∃ tag3, LS W0 w3 tag3 yb ea ec ((l.set i { x with e := x.e.inn q, p := p' }).set i { x with e := x.e.inn q, p := p', r := r', q := q' }) p1 R Y Z ∧ (∀ k, k < w2.heap.size → tag3 k = tag2 k) ∧ RV w3 76 4 ta (x.e.tld q).length tc (mcells (x.e.tld q)) ∧ RV w3 76 4 tb (x.e.tld q).length td (mcells (x.e.tld q)) ∧ (∀ g, inB ta g → w1.heap.size ≤ g ∧ g < w3.heap.size ∧ tag3 g = 0) ∧ (∀ g, inB tb g → w1.heap.size ≤ g ∧ g < w3.heap.size ∧ tag3 g = 0) ∧ Lent w w3 a ls gv G ∧ BIn w3 a ls cap ∧ w2.heap.size ≤ w3.heap.size ∧ Lk (x.e.inn q) r' := fun _ => by
    obtain ⟨hS, hx, hlk, hb, htg, hq⟩ := H0 ()
    obtain ⟨hlent0, k1⟩ := H1 ()
    obtain ⟨hS2, t1, hrv2, hta2, hlent, hb2, hsz⟩ := H2 ()
    obtain ⟨e1, e2⟩ := HX ()
    rw [e2] at hrep hstep hta
    have hA := hS2.at (HLX ())
    obtain ⟨tag3, hS3, t2, t3⟩ := hS2.stepR (HLX ()) hrep hstep
    have hw : ∀ k, RWri x.cb x.q k → tag2 k = 21 + 4 * i := fun k hk => hA.tr k (Or.inl hk)
    have hk := hstep.keep
    have hs1 := k1.size
    have hgt : ∀ y, y < w2.heap.size → G y → tag2 y = 0 := fun y hy hg => by
      rcases hlent0 with ⟨_, _, _, h⟩ | ⟨g, c, ad, _, _, h3, _, _, h6, h7⟩
      · exact (h y hg).elim
      · have e := (h7 y).1 hg
        rw [t1 y (by omega)]
        exact hS.nz y (by omega)
    refine ⟨tag3, hS3, t2, hrv2.keep hk (fun g hg e => by have := hw g e; have := (hta2 g hg).2; omega), hrv, fun g hg => ?_, fun g hg => ⟨by have := (hta g hg).1; omega, hrv.lt g hg, t3 g (hta g hg).1 (hta g hg).2⟩, hlent.keep hk (fun y hy hg e => by have := hw y e; have := hgt y hy hg; omega), hb2.keep hk (fun bb bo ha hbl hne e => ?_), hk.size, hlk'⟩
    · have hl := hrv2.lt g hg
      exact ⟨(hta2 g hg).1, by have := hk.size; omega, by rw [t2 g hl]; exact (hta2 g hg).2⟩
    · have h1 := hw bb e
      have hbw : bb < w.heap.size := by
        rcases Nat.lt_or_ge bb w.heap.size with h | h
        · exact h
        · rcases Nat.lt_or_ge bb w1.heap.size with h' | h'
          · have := hS.nz bb h; have := t1 bb h'; omega
          · rcases hb with ⟨h, _⟩ | ⟨ad, h, hs, _⟩
            · rw [h] at ha; cases ha
            · rw [h] at ha; cases ha
              rcases hs with hs | ⟨b1, o1, hs, hl, _⟩
              · exact (hne hs).elim
              · cases hs; omega
      have := htg bb bo ha hbw hne
      have := t1 bb (by omega)
      omega
  clear hrv hta hrep hstep hlk' HIN c1
  obtain ⟨tag3, H3a⟩ := H3 ()
  have H3 : Unit → LS W0 w3 tag3 yb ea ec (l.set i { x with e := x.e.inn q, p := p', r := r', q := q' }) p1 R Y Z ∧ (∀ k, k < w2.heap.size → tag3 k = tag2 k) ∧ RV w3 76 4 ta (x.e.tld q).length tc (mcells (x.e.tld q)) ∧ RV w3 76 4 tb (x.e.tld q).length td (mcells (x.e.tld q)) ∧ (∀ g, inB ta g → w1.heap.size ≤ g ∧ g < w3.heap.size ∧ tag3 g = 0) ∧ (∀ g, inB tb g → w1.heap.size ≤ g ∧ g < w3.heap.size ∧ tag3 g = 0) ∧ Lent w w3 a ls gv G ∧ BIn w3 a ls cap ∧ w2.heap.size ≤ w3.heap.size ∧ Lk (x.e.inn q) r' := fun _ => by
    rw [List.set_set] at H3a; exact H3a
  clear H3a
  have HGT : Unit → (∀ y, y < w3.heap.size → G y → tag3 y = 0) ∧ (∀ y, G y → y < w1.heap.size) := fun _ => by
    obtain ⟨hS, hx, hlk, hb, htg, hq⟩ := H0 ()
    obtain ⟨hlent0, k1⟩ := H1 ()
    obtain ⟨hS2, t1, hrv2, hta2, hlent, hb2, hsz⟩ := H2 ()
    obtain ⟨hS3, t2, _⟩ := H3 ()
    refine ⟨fun y hy hg => ?_, fun y hg => ?_⟩
    · rcases hlent0 with ⟨_, _, _, h⟩ | ⟨g, c, ad, _, _, h3, _, _, h6, h7⟩
      · exact (h y hg).elim
      · have e := (h7 y).1 hg
        rw [t2 y (by omega), t1 y (by omega)]
        exact hS.nz y (by omega)
    · rcases hlent0 with ⟨_, _, _, h⟩ | ⟨g, c, ad, _, _, h3, _, _, h6, h7⟩
      · exact (h y hg).elim
      · rw [(h7 y).1 hg]; exact h6
  have HRT : Unit → _ := fun _ => returned_both W0 w3 (H3 ()).1 a ls cap gv G w (H3 ()).2.2.2.2.2.2.1 (H3 ()).2.2.2.2.2.2.2.1 (HGT ()).1 (HN ()).1
  go_wp2_with fail
  refine Calls.mono (HRT ()) ?_
  rintro e w4 ⟨rfl, tag4, R4, hS4, r0, rj, t4, t5, k4⟩
  have H4 : Unit → LS W0 w4 tag4 yb ea ec (l.set i { x with e := x.e.inn q, p := p', r := r', q := q' }) p1 R4 Y Z ∧ (R4 0).n ≤ (R 0).n + 1 ∧ (∀ j, j ≠ 0 → R4 j = R j) ∧ RV w4 76 4 ta (x.e.tld q).length tc (mcells (x.e.tld q)) ∧ RV w4 76 4 tb (x.e.tld q).length td (mcells (x.e.tld q)) ∧ (∀ g, inB ta g → g < w4.heap.size → tag4 g = 0) ∧ (∀ k, k < w.heap.size → tag k ≠ 0 → tag4 k = tag k) ∧ w.heap.size ≤ w4.heap.size := fun _ => by
    obtain ⟨hlent0, k1⟩ := H1 ()
    obtain ⟨hS2, t1, hrv2, hta2, hlent, hb2, hsz⟩ := H2 ()
    obtain ⟨hS3, t2, hra, hrb, hta, htb, _, _, hs3, _⟩ := H3 ()
    have hne : ∀ g, w1.heap.size ≤ g → ¬ G g := fun g hg e => by have := (HGT ()).2 g e; omega
    have hs1 := k1.size
    refine ⟨hS4, r0, rj, hra.keep k4 (fun g hg e => ?_), hrb.keep k4 (fun g hg e => ?_), fun g hg hl => ?_, fun k hk h0 => ?_, by have := k4.size; omega⟩
    · have h1 := hta g hg
      rcases e with e | e
      · exact hne g h1.1 e
      · omega
    · have h1 := htb g hg
      rcases e with e | e
      · exact hne g h1.1 e
      · omega
    · have h1 := hta g hg
      rw [t4 g h1.2.1 (hne g h1.1)]; exact h1.2.2
    · have e1 := t1 k (by omega)
      have e2 := t2 k (by omega)
      rw [t5 k (by omega) (by omega)]; omega
  have HLK : Unit → Lk (x.e.inn q) r' := fun _ => (H3 ()).2.2.2.2.2.2.2.2.2
  clear hS4 r0 rj t4 t5 k4 HRT HGT H3 H2 H1 HLX
  obtain ⟨T, hT⟩ : ∃ T, T = x.e.tld q := ⟨_, rfl⟩
  have HT4 : Unit → T.length ≤ 4 := fun _ => by rw [hT]; exact tld_len x.e q ((H0 ()).1.at (H0 ()).2.1).rep.four
  rw [← hT] at H4 ⊢
  clear hT
  have HMSG : Unit → ∀ w5, Keep nil w4 w5 → Calls Tryz.prog 133 #[.pointer (some ⟨yb, 2, none⟩), .slice ta T.length tc] w5 fun e w' => e = .returned (.tuple #[]) ∧ ∃ tag' R' x', LS W0 w' tag' yb ea ec (l.set i x') p1 R' Y Z ∧ x'.xb = x.xb ∧ x'.cb = x.cb ∧ x'.e = x.e.inn q ∧ Lk x'.e x'.r ∧ (R' 0).n ≤ (R 0).n + 1 ∧ (R' 2).n = (R 2).n + 1 ∧ (∀ j, j ≠ 0 → j ≠ 2 → R' j = R j) ∧ (∀ k, k < w.heap.size → tag k ≠ 0 → tag' k = tag k) ∧ w.heap.size ≤ w'.heap.size := fun _ w5 k5 => by
    obtain ⟨hS4, r0, rj, hra, hrb, hta, htt, hsz⟩ := H4 ()
    have hS5 := hS4.same k5
    have hG : ∀ b, b < w5.heap.size → inB ta b → tag4 b = 0 := fun b _ hb => hta b hb (hra.lt b hb)
    have hyl := hS5.ylt
    have e2 : R4 2 = R 2 := rj 2 (by omega)
    refine (messages_any yb ta T.length tc (mcells T) (R4 2).a (R4 2).n (R4 2).c (R4 2).V (.slice ea (l.set i { x with e := x.e.inn q, p := p', r := r', q := q' }).length ec) p1 (R4 0).val (R4 1).val (R4 3).val (R4 4).val (R4 5).val w5 hS5.b.play (fun e => by have := hG yb hyl.1 e; omega) (hS5.rowOut (by omega) hG) (hra.keep k5 (fun _ _ e => e)) (by have := HT4 (); omega) (by rw [e2]; exact (HN ()).2.1)).mono ?_
    rintro e w6 ⟨rfl, hpost⟩
    obtain ⟨ab, c', v, ha⟩ := addedR (R := R4) hpost
    obtain ⟨tag', R', hS6, q1, q2, t1, t2⟩ := hS5.add (by omega) hG ha
    have hs6 := ha.keep.size
    have hs5 := k5.size
    refine ⟨rfl, tag', R', _, hS6, rfl, rfl, rfl, HLK (), ?_, by rw [q1, e2], fun j h0 h2 => (q2 j h2).trans (rj j h0), fun k hk h0 => ?_, by omega⟩
    · rw [q2 0 (by omega)]; exact r0
    · have := htt k hk h0
      rw [t2 k (by omega) (by omega)]; exact this
  go_wp2_with fail
  go_loopw [11, 12] (fun same v wr => ∃ j m : Nat, j ≤ T.length ∧ v = .int .i64 (j : Int) ∧ same = .bool true ∧ wr = w4.drewN m) (fun _ v _ => T.length - (intOf v).toNat)
  case atStart => exact ⟨0, 0, by omega, rfl, by simp, rfl⟩
  case round =>
    obtain ⟨j, m, hj, rfl, rfl, rfl⟩ := hrel
    by_cases hjt : j < T.length
    · obtain ⟨mm, hmm⟩ : ∃ mm, T[j]? = some mm := ⟨_, List.getElem?_eq_getElem hjt⟩
      obtain ⟨g, o, rfl, a0, a1, a2, a3⟩ := rv_msg (H4 ()).2.2.2.1 j mm hmm
      obtain ⟨g', o', rfl, b0, b1, b2, b3⟩ := rv_msg (H4 ()).2.2.2.2.1 j mm hmm
      have hjI : (j : Int) < (T.length : Int) := by omega
      have hj4 : (j : Int) < 4 := by have := HT4 (); omega
      clear hmm HMSG
      go_wp2_with fail
      go_quiet (fail)
      go_wp2
      exact ⟨⟨j + 1, m + nq, by omega, by go_num, by simp, rfl⟩, by simp [intOf]; omega⟩
    · have ej : j = T.length := by omega
      subst ej
      go_wp2_with fail
      refine Calls.mono (HMSG () _ ((Keep.refl nil w4).drewN m)) ?_
      rintro e w6 ⟨rfl, hpost⟩
      have HP : Unit → _ := fun _ => hpost
      clear hpost HMSG
      go_wp2
      go_ret
      obtain ⟨tag', R', x', f1, f2, f3, f4, f5, f6, f7, f8, f9, f10⟩ := HP ()
      have hww := HW ()
      exact ⟨rfl, tag', R', x', f1, f2.trans (HX ()).1.symm, f3.trans (HX ()).2.symm, f4, f5, f6, f7, f8, fun k hk h0 => f9 k (by omega) h0, by omega⟩
end Go.Proofs.YtlfijfodklhplaaGreat
