import Derived.Test.YtlfijfodklhplaaGreatPlain
import Derived.Test.YtlfijfodklhplaaGreatAllChk
import Derived.Test.YtlfijfodklhplaaGreatRows
import Derived.ProofKit
import Derived.ChangeSlices
import Derived.SizedLaws
import Derived.Deep.Slices
/- Walks of plain: Check. -/
namespace Go.Proofs.YtlfijfodklhplaaGreat
open Go.RowKit
set_option linter.unusedVariables false
set_option linter.unusedSimpArgs false

theorem refCheck_all (n : Int) (sa : Option Addr) (es : List Ed) (cp : Nat) (w : World) (hsl : ESl w sa es) :
    Calls Tryz.prog 74 #[.int .i64 n, .slice sa es.length cp] w fun r w' => ∃ z : Int, r = .returned (.int .i64 z) ∧ Chk n es z ∧ Keep nil w w' := by
  by_cases hb : BadSize n es
  · refine (refCheck_size n sa es cp w hb).mono ?_
    rintro r w' ⟨h1, h2⟩
    exact ⟨1, h1, Chk.mk1 hb, h2⟩
  · exact refCheck_any n sa es cp w hsl hb

set_option maxRecDepth 100000 in
set_option maxHeartbeats 2000000 in
theorem plain_chk_nil (W0 w : World) (yb : Nat) (p0 p1 : Value) (na nb : Nat) (hB : Book W0 w yb p0 p1 na nb) (oc oa ob : Int) (E : Value) (d : Bool) (s k l n : Int) (f : Bool) (D : Value)
    (he : E.oneCell' = true) (hd : D.oneCell' = true) (hE : E = .slice none 0 0) :
    Calls Tryz.prog 40 #[.pointer (some ⟨yb, 0, none⟩), opv 1 oc oa ob E d s k l n f D] w fun e w' => e = .returned (.bool true) ∧ Book W0 w' yb p0 p1 na nb := by
  obtain ⟨a0, ca, VA, b0, cb, VB, hb⟩ := hB
  have HB : Unit → Bk W0 w yb p0 p1 a0 na ca VA b0 nb cb VB := fun _ => hb
  have hsl : ∀ w, ESl w none [] := fun w => Or.inl rfl
  have H1 : Unit → ∀ w, Calls Tryz.prog 13 #[.int .i64 oa, .slice none 0 0] w fun r w' => ∃ z : Int, r = .returned (.int .i64 z) ∧ Chk oa [] z ∧ Keep nil w w' := fun _ w => arborCheck_any oa none [] 0 w (hsl w) (by simp)
  have H2 : Unit → ∀ w, Calls Tryz.prog 74 #[.int .i64 oa, .slice none 0 0] w fun r w' => ∃ z : Int, r = .returned (.int .i64 z) ∧ Chk oa [] z ∧ Keep nil w w' := fun _ w => refCheck_all oa none [] 0 w (hsl w)
  subst hE
  clear hb he hsl
  go_enter Tryz.func40, Tryz.ntmps40
  go_wp2_with fail
  obtain ⟨W1, hW1⟩ : ∃ W1, W1 = w.alloc (.cells #[.int .i64 1, .int .i64 oc, .int .i64 oa, .int .i64 ob, .slice none 0 0, .bool d, .int .i64 s, .int .i64 k, .int .i64 l, .int .i64 n, .bool f, D] 80) := ⟨_, rfl⟩
  have hbx : Blk W1 w.heap.size #[.int .i64 1, .int .i64 oc, .int .i64 oa, .int .i64 ob, .slice none 0 0, .bool d, .int .i64 s, .int .i64 k, .int .i64 l, .int .i64 n, .bool f, D] 80 := by rw [hW1]; exact Blk.new _ _ _
  have hkw : Keep nil w W1 := by rw [hW1]; exact (Keep.refl nil w).alloc _
  rw [← hW1]
  obtain ⟨xb, hxb⟩ : ∃ xb, xb = w.heap.size := ⟨_, rfl⟩
  rw [← hxb] at hbx ⊢
  have HX : Unit → Blk W1 xb #[.int .i64 1, .int .i64 oc, .int .i64 oa, .int .i64 ob, .slice none 0 0, .bool d, .int .i64 s, .int .i64 k, .int .i64 l, .int .i64 n, .bool f, D] 80 ∧ Keep nil w W1 := fun _ => ⟨hbx, hkw⟩
  have c2 := hbx.cell 2
  have c4 := hbx.cell 4
  simp at c2 c4
  clear hW1 hbx hkw hxb
  refine (lentE_nil _).mono ?_
  rintro e w1' ⟨rfl, rfl⟩
  go_wp2_with fail
  refine (H1 () _).mono ?_
  rintro e w2 ⟨z, rfl, hz, hk2⟩
  have HZ : Unit → Chk oa [] z := fun _ => hz
  have HK2 : Unit → Keep nil W1 w2 := fun _ => hk2
  clear hz hk2 c2 c4
  have c2 := ((HX ()).1.keep (HK2 ()) (fun e => e)).cell 2
  have c4 := ((HX ()).1.keep (HK2 ()) (fun e => e)).cell 4
  simp at c2 c4
  have hxl : xb < w2.heap.size := by have := (HX ()).1.lt; have := (HK2 ()).size; omega
  go_wp2_with fail
  refine (H2 () _).mono ?_
  rintro e w3 ⟨z', rfl, hz, hk3⟩
  have hzz : z' = z := hz.uniq (HZ ())
  subst hzz
  have HK3 : Unit → Keep nil W1 w3 := fun _ => (HK2 ()).trans hk3
  clear hz hk3 c2 c4 hxl
  have c4 := ((HX ()).1.keep (HK3 ()) (fun e => e)).cell 4
  simp at c4
  have hxl : xb < w3.heap.size := by have := (HX ()).1.lt; have := (HK3 ()).size; omega
  go_wp2_with fail
  refine (returnedE_nil yb (.slice none 0 0) _).mono ?_
  rintro e w4 ⟨rfl, rfl⟩
  have HP : Unit → Book W0 w3 yb p0 p1 na nb := fun _ => ⟨a0, ca, VA, b0, cb, VB, (HB ()).same ((HX ()).2.trans (HK3 ()))⟩
  go_wp2
  go_ret
  exact ⟨by simp, HP ()⟩

set_option maxRecDepth 100000 in
set_option maxHeartbeats 2000000 in
theorem plain_chk_row (W0 w : World) (yb : Nat) (p0 p1 : Value) (na nb : Nat) (hB : Book W0 w yb p0 p1 na nb) (oc oa ob : Int) (E : Value) (d : Bool) (s k l n : Int) (f : Bool) (D : Value)
    (he : E.oneCell' = true) (hd : D.oneCell' = true) (ad : Addr) (cap : Nat) (es : List Ed) (hE : E = .slice (some ad) es.length cap) (hrow : ESl w (some ad) es) (hlen : (es.length : Int) ≤ 5864062014700) (hnb : (nb : Int) < 1099511627776) :
    Calls Tryz.prog 40 #[.pointer (some ⟨yb, 0, none⟩), opv 1 oc oa ob E d s k l n f D] w fun e w' => e = .returned (.bool true) ∧ Book W0 w' yb p0 p1 na (nb + 1) := by
  obtain ⟨a0, ca, VA, b0, cb, VB, hb⟩ := hB
  have HB : Unit → Bk W0 w yb p0 p1 a0 na ca VA b0 nb cb VB := fun _ => hb
  have HN : Unit → (nb : Int) < 1099511627776 := fun _ => hnb
  have HROW : Unit → ESl w (some ad) es ∧ (es.length : Int) ≤ 5864062014700 := fun _ => ⟨hrow, hlen⟩
  have HL : Unit → ∀ w1, Keep nil w w1 → Calls Tryz.prog 73 #[.slice (some ad) es.length cap] w1 fun e w' => ∃ g c, e = .returned (.slice (some ⟨g, 0, none⟩) es.length c) ∧ w1.heap.size ≤ g ∧ EBuf w' g (es ++ emarks 8) c ∧ es.length + 8 ≤ c ∧ Keep nil w1 w' := fun _ w1 k => by
    by_cases h0 : 0 < es.length
    · obtain ⟨bb, bo, e1, e2, e3⟩ := (hrow.keep k).some h0
      cases e1
      exact lentE_any bb bo cap es w1 e3 e2 (by omega) h0
    · have : es = [] := List.eq_nil_of_length_eq_zero (by omega)
      subst this
      have := lentE_empty ad cap w1
      simpa using this
  have H1 : Unit → ∀ w g c, ERow w g 0 es → g < w.heap.size → es.length ≤ c → Calls Tryz.prog 13 #[.int .i64 oa, .slice (some ⟨g, 0, none⟩) es.length c] w fun r w' => ∃ z : Int, r = .returned (.int .i64 z) ∧ Chk oa es z ∧ Keep nil w w' := fun _ w g c h1 h2 h3 => arborCheck_any oa _ es c w (Or.inr ⟨g, 0, rfl, h2, h1⟩) h3
  have H2 : Unit → ∀ w, ESl w (some ad) es → Calls Tryz.prog 74 #[.int .i64 oa, .slice (some ad) es.length cap] w fun r w' => ∃ z : Int, r = .returned (.int .i64 z) ∧ Chk oa es z ∧ Keep nil w w' := fun _ w h1 => refCheck_all oa _ es cap w h1
  subst hE
  clear hb he hrow hlen hnb
  go_enter Tryz.func40, Tryz.ntmps40
  go_wp2_with fail
  obtain ⟨W1, hW1⟩ : ∃ W1, W1 = w.alloc (.cells #[.int .i64 1, .int .i64 oc, .int .i64 oa, .int .i64 ob, .slice (some ad) es.length cap, .bool d, .int .i64 s, .int .i64 k, .int .i64 l, .int .i64 n, .bool f, D] 80) := ⟨_, rfl⟩
  have hbx : Blk W1 w.heap.size #[.int .i64 1, .int .i64 oc, .int .i64 oa, .int .i64 ob, .slice (some ad) es.length cap, .bool d, .int .i64 s, .int .i64 k, .int .i64 l, .int .i64 n, .bool f, D] 80 := by rw [hW1]; exact Blk.new _ _ _
  have hkw : Keep nil w W1 := by rw [hW1]; exact (Keep.refl nil w).alloc _
  rw [← hW1]
  obtain ⟨xb, hxb⟩ : ∃ xb, xb = w.heap.size := ⟨_, rfl⟩
  rw [← hxb] at hbx ⊢
  have HX : Unit → Blk W1 xb #[.int .i64 1, .int .i64 oc, .int .i64 oa, .int .i64 ob, .slice (some ad) es.length cap, .bool d, .int .i64 s, .int .i64 k, .int .i64 l, .int .i64 n, .bool f, D] 80 ∧ Keep nil w W1 := fun _ => ⟨hbx, hkw⟩
  clear hW1 hbx hkw hxb
  refine (HL () _ (HX ()).2).mono ?_
  rintro e w1 ⟨g, c, rfl, hg, hbg, hcg, hk1⟩
  have HG : Unit → W1.heap.size ≤ g ∧ EBuf w1 g (es ++ emarks 8) c ∧ es.length + 8 ≤ c ∧ Keep nil W1 w1 ∧ g < w1.heap.size := fun _ => ⟨hg, hbg, hcg, hk1, hbg.lt⟩
  clear hg hbg hcg hk1
  have c2 := ((HX ()).1.keep (HG ()).2.2.2.1 (fun e => e)).cell 2
  simp at c2
  have hxl : xb < w1.heap.size := by have := (HX ()).1.lt; have := (HG ()).2.2.2.1.size; omega
  go_wp2_with fail
  refine (H1 () _ g c (by
    intro j u hu
    rw [Nat.zero_add]
    refine (HG ()).2.1.cell j u ?_
    rw [ecells_append, List.getElem?_append_left (List.getElem?_eq_some_iff.1 hu).1]
    exact hu) (HG ()).2.2.2.2 (by have := (HG ()).2.2.1; omega)).mono ?_
  rintro e w2 ⟨z, rfl, hz, hk2⟩
  have HZ : Unit → Chk oa es z := fun _ => hz
  have HK12 : Unit → Keep nil w1 w2 := fun _ => hk2
  have HK2 : Unit → Keep nil W1 w2 := fun _ => (HG ()).2.2.2.1.trans hk2
  clear hz hk2 c2 hxl
  have c2 := ((HX ()).1.keep (HK2 ()) (fun e => e)).cell 2
  have c4 := ((HX ()).1.keep (HK2 ()) (fun e => e)).cell 4
  simp at c2 c4
  have hxl : xb < w2.heap.size := by have := (HX ()).1.lt; have := (HK2 ()).size; omega
  go_wp2_with fail
  refine (H2 () _ ((HROW ()).1.keep ((HX ()).2.trans (HK2 ())))).mono ?_
  rintro e w3 ⟨z', rfl, hz, hk3⟩
  have hzz : z' = z := hz.uniq (HZ ())
  subst hzz
  have HK3 : Unit → Keep nil W1 w3 := fun _ => (HK2 ()).trans hk3
  have HK13 : Unit → Keep nil w1 w3 := fun _ => (HK12 ()).trans hk3
  clear hz hk3 c2 c4 hxl
  have c4 := ((HX ()).1.keep (HK3 ()) (fun e => e)).cell 4
  simp at c4
  have hxl : xb < w3.heap.size := by have := (HX ()).1.lt; have := (HK3 ()).size; omega
  have HK : Unit → Keep nil w w3 := fun _ => (HX ()).2.trans (HK3 ())
  have HGW : Unit → w.heap.size ≤ g := fun _ => by have h1 := (HX ()).2.size; have h2 := (HG ()).1; omega
  have HT : Unit → _ := fun _ => returnedE_rows yb g c ad cap es b0 nb cb VB p0 p1 (.slice a0 na ca) (.slice none 0 0) (.slice none 0 0) (.slice none 0 0) (.slice none 0 0) w3 (((HB ()).same (HK ())).play) (by have := (HB ()).play.lt; have := HGW (); omega) (((HB ()).same (HK ())).rowB.out (fun x hx hx0 h e => by
      rcases e with e | e
      · have := ((HB ()).rowB.lt x hx0).1; have := HGW (); omega
      · exact h (Or.inl e))) ((HG ()).2.1.keep (HK13 ()) (fun e => e)) (HG ()).2.2.1 ((HROW ()).1.keep (HK ())) (HROW ()).2 (HN ())
  go_wp2_with fail
  refine Calls.mono (HT ()) ?_
  rintro e w4 ⟨rfl, m, hpost⟩
  have kd : Keep nil w3 (w3.drewN m) := (Keep.refl nil w3).drewN m
  have HP : Unit → Book W0 w4 yb p0 p1 na (nb + 1) := fun _ => (HB ()).roll ((HK ()).trans kd) (fun x e => by rw [e]; exact HGW ()) hpost
  clear hpost HT kd c4 hxl
  go_wp2
  go_ret
  exact ⟨by simp, HP ()⟩
end Go.Proofs.YtlfijfodklhplaaGreat
/- One step of a script, up to Decode. -/
namespace Go.Proofs.YtlfijfodklhplaaGreat
open Go.RowKit
set_option linter.unusedVariables false
set_option linter.unusedSimpArgs false

/-- A step, as data and where its lists lie. -/
structure OpD where
  kd : Int
  oc : Int
  oa : Int
  ob : Int
  ea : Option Addr
  es : List Ed
  ec : Nat
  d : Bool
  s : Int
  k : Int
  l : Int
  n : Int
  f : Bool
  da : Option Addr
  ds : List Nat
  dc : Nat
/-- Its lists lie in the world. -/
structure OpD.ok (w : World) (o : OpD) : Prop where
  e : (o.ea = none ∧ o.es = [] ∧ o.ec = 0) ∨ ∃ ad, o.ea = some ad ∧ ESl w (some ad) o.es ∧ (o.es.length : Int) ≤ 5864062014700
  dd : (o.da = none ∧ o.ds = [] ∧ o.dc = 0) ∨ ∃ ad, o.da = some ad ∧ BSl w ad o.ds ∧ (o.ds.length : Int) ≤ 140737488351232 ∧ (∀ x ∈ o.ds, x < 256) ∧ o.ds.length ≤ o.dc
theorem ESl.keepX {ex : Nat → Prop} {w w' : World} {sa : Option Addr} {es : List Ed} (h : ESl w sa es) (k : Keep ex w w') (hn : ∀ bb bo, bb < w.heap.size → sa = Option.some ⟨bb, bo, none⟩ → ¬ ex bb) : ESl w' sa es :=
  h.imp id (fun ⟨bb, bo, h1, h2, h3⟩ => ⟨bb, bo, h1, Nat.lt_of_lt_of_le h2 k.size, h3.keep k h2 (hn bb bo h2 h1)⟩)
theorem BSl.keepX {ex : Nat → Prop} {w w' : World} {ad : Addr} {l : List Nat} (h : BSl w ad l) (k : Keep ex w w') (hn : ∀ bb bo, bb < w.heap.size → ad = ⟨bb, bo, none⟩ → ¬ ex bb) : BSl w' ad l :=
  h.imp id (fun ⟨bb, bo, h1, h2, h3⟩ => ⟨bb, bo, h1, Nat.lt_of_lt_of_le h2 k.size, h3.keep k h2 (hn bb bo h2 h1)⟩)
theorem OpD.ok.keep {ex : Nat → Prop} {w w' : World} {o : OpD} (h : o.ok w) (k : Keep ex w w') (hn : (∀ bb bo, bb < w.heap.size → o.ea = some ⟨bb, bo, none⟩ → ¬ ex bb) ∧ (∀ bb bo, bb < w.heap.size → o.da = some ⟨bb, bo, none⟩ → ¬ ex bb)) : o.ok w' :=
  ⟨h.e.imp id (fun ⟨ad, h1, h2, h3⟩ => ⟨ad, h1, h2.keepX k (fun bb bo hb e => hn.1 bb bo hb (h1.trans e)), h3⟩),
   h.dd.imp id (fun ⟨ad, h1, h2, h3⟩ => ⟨ad, h1, h2.keepX k (fun bb bo hb e => hn.2 bb bo hb (by rw [h1, e])), h3⟩)⟩
abbrev OpD.v (o : OpD) : Value := opv o.kd o.oc o.oa o.ob (.slice o.ea o.es.length o.ec) o.d o.s o.k o.l o.n o.f (.slice o.da o.ds.length o.dc)

theorem plain_any (W0 w : World) (yb : Nat) (p0 p1 : Value) (na nb : Nat) (hB : Book W0 w yb p0 p1 na nb) (o : OpD) (hok : o.ok w) (h1 : 1 ≤ o.kd) (h3 : o.kd ≤ 3) (hna : (na : Int) < 1099511627776) (hnb : (nb : Int) < 1099511627776) :
    Calls Tryz.prog 40 #[.pointer (some ⟨yb, 0, none⟩), o.v] w fun e w' => e = .returned (.bool true) ∧ ∃ na' nb', na' ≤ na + 1 ∧ nb' ≤ nb + 1 ∧ Book W0 w' yb p0 p1 na' nb' := by
  obtain ⟨kd, oc, oa, ob, ea, es, ec, d, s, k, l, n, f, da, ds, dc⟩ := o
  simp only at h1 h3
  obtain rfl | rfl | rfl : kd = 1 ∨ kd = 2 ∨ kd = 3 := by omega
  · rcases hok.e with ⟨e1, e2, e3⟩ | ⟨ad, e1, e2, e4⟩
    · simp only at e1 e2 e3
      subst e1 e2 e3
      refine (plain_chk_nil W0 w yb p0 p1 na nb hB oc oa ob (.slice none 0 0) d s k l n f _ rfl rfl rfl).mono ?_
      rintro e w' ⟨h, hb⟩
      exact ⟨h, na, nb, by omega, by omega, hb⟩
    · simp only at e1 e2 e4
      subst e1
      refine (plain_chk_row W0 w yb p0 p1 na nb hB oc oa ob _ d s k l n f _ rfl rfl ad ec es rfl e2 e4 hnb).mono ?_
      rintro e w' ⟨h, hb⟩
      exact ⟨h, na, nb + 1, by omega, by omega, hb⟩
  · by_cases he : encErr d s k l n f = 0
    · refine (plain_enc_ok W0 w yb p0 p1 na nb hB oc oa ob _ d s k l n f _ rfl rfl he hna).mono ?_
      rintro e w' ⟨h, hb⟩
      exact ⟨h, na + 1, nb, by omega, by omega, hb⟩
    · refine (plain_enc_err W0 w yb p0 p1 na nb hB oc oa ob _ d s k l n f _ rfl rfl he hna).mono ?_
      rintro e w' ⟨h, hb⟩
      exact ⟨h, na + 1, nb, by omega, by omega, hb⟩
  · rcases hok.dd with ⟨e1, e2, e3⟩ | ⟨ad, e1, e2, e4, e5, e6⟩
    · simp only at e1 e2 e3
      subst e1 e2 e3
      refine (plain_dec_nil W0 w yb p0 p1 na nb hB oc oa ob _ d s k l n f (.slice none 0 0) rfl rfl rfl hna).mono ?_
      rintro e w' ⟨h, hb⟩
      exact ⟨h, na, nb, by omega, by omega, hb⟩
    · simp only at e1 e2 e4 e5 e6
      subst e1
      refine (plain_dec_row W0 w yb p0 p1 na nb hB oc oa ob _ d s k l n f _ rfl rfl ad dc ds rfl e2 e6 e4 e5 hna).mono ?_
      rintro e w' ⟨h, hb⟩
      exact ⟨h, na + 1, nb, by omega, by omega, hb⟩

set_option maxRecDepth 100000 in
set_option maxHeartbeats 2000000 in
theorem step_any (W0 w : World) (yb : Nat) (p0 p1 : Value) (na nb : Nat) (hB : Book W0 w yb p0 p1 na nb) (o : OpD) (hok : o.ok w) (h3 : o.kd ≤ 3) (hna : (na : Int) < 1099511627776) (hnb : (nb : Int) < 1099511627776) :
    Calls Tryz.prog 27 #[.pointer (some ⟨yb, 0, none⟩), o.v] w fun e w' => e = .returned (.bool true) ∧ ∃ na' nb', na' ≤ na + 1 ∧ nb' ≤ nb + 1 ∧ Book W0 w' yb p0 p1 na' nb' := by
  have HB : Unit → Book W0 w yb p0 p1 na nb := fun _ => hB
  by_cases h1 : o.kd < 1
  · obtain ⟨kd, oc, oa, ob, ea, es, ec, d, s, k, l, n, f, da, ds, dc⟩ := o
    clear hok hB hna hnb
    simp only at h1 h3
    go_enter Tryz.func27, Tryz.ntmps27
    go_wp2
    go_ret
    exact ⟨rfl, na, nb, by omega, by omega, (HB ()).same ((Keep.refl nil w).alloc _)⟩
  · have HP : Unit → ∀ w1, Keep nil w w1 → Calls Tryz.prog 40 #[.pointer (some ⟨yb, 0, none⟩), o.v] w1 fun e w' => e = .returned (.bool true) ∧ ∃ na' nb', na' ≤ na + 1 ∧ nb' ≤ nb + 1 ∧ Book W0 w' yb p0 p1 na' nb' := fun _ w1 k1 =>
      plain_any W0 w1 yb p0 p1 na nb (hB.same k1) o (hok.keep k1 ⟨fun _ _ _ _ e => e, fun _ _ _ _ e => e⟩) (by omega) h3 hna hnb
    obtain ⟨kd, oc, oa, ob, ea, es, ec, d, s, k, l, n, f, da, ds, dc⟩ := o
    clear hok hB hna hnb
    simp only at h1 h3
    have h1' : 1 ≤ kd := by omega
    clear h1
    simp only [OpD.v] at HP
    go_enter Tryz.func27, Tryz.ntmps27
    go_wp2_with fail
    refine Calls.mono (HP () _ ((Keep.refl nil w).alloc _)) ?_
    rintro e w2 ⟨rfl, na', nb', ha, hb, hbk⟩
    have HK : Unit → na' ≤ na + 1 ∧ nb' ≤ nb + 1 ∧ Book W0 w2 yb p0 p1 na' nb' := fun _ => ⟨ha, hb, hbk⟩
    clear ha hb hbk HP
    go_wp2
    go_ret
    exact ⟨rfl, na', nb', (HK ()).1, (HK ()).2.1, (HK ()).2.2⟩
end Go.Proofs.YtlfijfodklhplaaGreat
/- Scripts as they lie in memory; the head. -/
namespace Go.Proofs.YtlfijfodklhplaaGreat
open Go.RowKit
set_option linter.unusedVariables false
set_option linter.unusedSimpArgs false

def OpD.cells (o : OpD) : List Value := [.int .i64 o.kd, .int .i64 o.oc, .int .i64 o.oa, .int .i64 o.ob, .slice o.ea o.es.length o.ec, .bool o.d, .int .i64 o.s, .int .i64 o.k, .int .i64 o.l, .int .i64 o.n, .bool o.f, .slice o.da o.ds.length o.dc]
def ocells (l : List OpD) : List Value := l.flatMap OpD.cells
def ORow (w : World) (b o : Nat) (l : List OpD) : Prop := ∀ j u, (ocells l)[j]? = some u → w.cell? ⟨b, o + j, none⟩ = some u
theorem ORow.keep {ex : Nat → Prop} {w w' : World} {b o : Nat} {l : List OpD} (h : ORow w b o l) (k : Keep ex w w') (hb : b < w.heap.size) (hn : ¬ ex b) : ORow w' b o l := fun j u hu => (k.cell b (o + j) hb hn).trans (h j u hu)
theorem ocells_get (l : List OpD) : ∀ (k : Nat) (o : OpD), l[k]? = some o → ∀ j u, o.cells[j]? = some u → (ocells l)[k * 12 + j]? = some u := by
  induction l with
  | nil => intro k o h; simp at h
  | cons x t ih =>
    intro k o h j u hu
    have hc : ocells (x :: t) = x.cells ++ ocells t := by simp [ocells]
    have hl : x.cells.length = 12 := rfl
    have hj : j < 12 := (List.getElem?_eq_some_iff.1 hu).1
    rw [hc]
    cases k with
    | zero =>
      simp at h
      subst h
      rw [Nat.zero_mul, Nat.zero_add, List.getElem?_append_left (by omega)]
      exact hu
    | succ k =>
      rw [List.getElem?_cons_succ] at h
      rw [List.getElem?_append_right (by omega), hl, show (k + 1) * 12 + j - 12 = k * 12 + j by omega]
      exact ih k o h j u hu
theorem orow_get {w : World} {b o : Nat} {l : List OpD} (h : ORow w b o l) (k : Nat) (x : OpD) (hk : l[k]? = some x) (j : Nat) (u : Value) (hu : x.cells[j]? = some u) : w.cell? ⟨b, o + k * 12 + j, none⟩ = some u := by
  rw [Nat.add_assoc]
  exact h _ _ (ocells_get l k x hk j u hu)

def e3 : List Ed := [⟨0, 1, 5⟩, ⟨2, 1, 3⟩, ⟨0, 2, 9⟩]
/-- A step without lists. -/
def op0 (kd oc oa ob : Int) : OpD := ⟨kd, oc, oa, ob, none, [], 0, false, 0, 0, 0, 0, false, none, [], 0⟩
def hdl (eb : Nat) : List OpD :=
  [⟨1, 0, 3, 0, some ⟨eb, 0, none⟩, e3, 3, false, 0, 0, 0, 0, false, none, [], 0⟩, ⟨2, 0, 0, 0, none, [], 0, true, 7, 3, 2, 300, false, none, [], 0⟩, op0 4 0 0 0, op0 4 0 0 0, ⟨5, 0, 0, 0, none, [], 0, true, 7, 3, 2, 300, false, none, [], 0⟩,
   op0 10 0 0 1, op0 10 1 0 0, ⟨11, 0, 3, 0, some ⟨eb, 0, none⟩, e3, 3, false, 0, 0, 0, 0, false, none, [], 0⟩, op0 12 0 1 0, op0 21 0 0 3, op0 19 0 2 0, op0 13 0 0 0]
theorem hdl_ok {w : World} {eb : Nat} (h1 : eb < w.heap.size) (h2 : ERow w eb 0 e3) : ∀ o ∈ hdl eb, o.ok w := by
  intro o ho
  have hd : o.da = none ∧ o.ds = [] ∧ o.dc = 0 := by
    simp only [hdl, List.mem_cons, List.not_mem_nil, or_false] at ho
    rcases ho with rfl | rfl | rfl | rfl | rfl | rfl | rfl | rfl | rfl | rfl | rfl | rfl <;> exact ⟨rfl, rfl, rfl⟩
  have he : (o.ea = none ∧ o.es = [] ∧ o.ec = 0) ∨ (o.ea = some ⟨eb, 0, none⟩ ∧ o.es = e3) := by
    simp only [hdl, List.mem_cons, List.not_mem_nil, or_false] at ho
    rcases ho with rfl | rfl | rfl | rfl | rfl | rfl | rfl | rfl | rfl | rfl | rfl | rfl <;> first | exact Or.inl ⟨rfl, rfl, rfl⟩ | exact Or.inr ⟨rfl, rfl⟩
  refine ⟨he.imp id (fun ⟨a, b⟩ => ⟨⟨eb, 0, none⟩, a, Or.inr ⟨eb, 0, rfl, h1, by rw [b]; exact h2⟩, by rw [b]; decide⟩), Or.inl hd⟩

theorem hdl_blk {eb : Nat} : ∀ o ∈ hdl eb, (∀ bb bo, o.ea = some ⟨bb, bo, none⟩ → bb = eb) ∧ (∀ bb bo, o.da = some ⟨bb, bo, none⟩ → False) := by
  intro o ho
  simp only [hdl, List.mem_cons, List.not_mem_nil, or_false] at ho
  rcases ho with rfl | rfl | rfl | rfl | rfl | rfl | rfl | rfl | rfl | rfl | rfl | rfl <;> refine ⟨fun bb bo e => ?_, fun bb bo e => ?_⟩ <;> simp [op0] at e <;> first | omega | exact e.1.symm
theorem orow_new (W : World) (cs : Array Value) (ty : TypeId) (l : List OpD) (hb : Nat) (hs : hb = W.heap.size) (h : cs = (ocells l).toArray) : ORow (W.alloc (.cells cs ty)) hb 0 l := by
  intro j u hu
  subst hs h
  have := (Blk.new W (ocells l).toArray ty).cell j
  rw [Nat.zero_add, this]
  simpa using hu
theorem erow_new (W : World) (cs : Array Value) (ty : TypeId) (l : List Ed) (hb : Nat) (hs : hb = W.heap.size) (h : cs = (ecells l).toArray) : ERow (W.alloc (.cells cs ty)) hb 0 l := by
  intro j u hu
  subst hs h
  have := (Blk.new W (ecells l).toArray ty).cell j
  rw [Nat.zero_add, this]
  simpa using hu
theorem alloc_size (W : World) (o : Obj) : (W.alloc o).heap.size = W.heap.size + 1 := by simp

set_option maxRecDepth 100000 in
set_option maxHeartbeats 2000000 in
theorem head_any (w : World) : Calls Tryz.prog 26 #[] w fun r w' => ∃ hb eb, r = .returned (.slice (some ⟨hb, 0, none⟩) 12 12) ∧ w.heap.size ≤ hb ∧ hb < w'.heap.size ∧ w.heap.size ≤ eb ∧ eb < w'.heap.size ∧ ORow w' hb 0 (hdl eb) ∧ ERow w' eb 0 e3 ∧ Keep nil w w' := by
  go_enter Tryz.func26, Tryz.ntmps26
  go_wp2
  go_ret
  refine ⟨w.heap.size + 1 + 1, w.heap.size + 1, rfl, by omega, ?_, by omega, ?_, ?_, ?_, ?_⟩
  · simp only [alloc_size]; omega
  · simp only [alloc_size]; omega
  · exact orow_new _ _ _ _ _ (by simp only [alloc_size]) rfl
  · exact (erow_new _ _ _ _ _ (by simp only [alloc_size]) rfl).keep ((Keep.refl nil _).alloc _) (by simp only [alloc_size]; omega) (fun e => e)
  · exact (((Keep.refl nil w).alloc _).alloc _).alloc _
end Go.Proofs.YtlfijfodklhplaaGreat
/- Walk of plays, up to Decode. -/
namespace Go.Proofs.YtlfijfodklhplaaGreat
open Go.RowKit
set_option linter.unusedVariables false
set_option linter.unusedSimpArgs false

/-- A script in memory, nil or a row. -/
structure OpsAt (w : World) (sa : Option Addr) (l : List OpD) : Prop where
  at_ : l = [] ∨ ∃ bb bo, sa = some ⟨bb, bo, none⟩ ∧ bb < w.heap.size ∧ ORow w bb bo l
  ok : ∀ o ∈ l, o.ok w
theorem OpsAt.row {w : World} {sa : Option Addr} {l : List OpD} (h : OpsAt w sa l) {i : Nat} (hi : i < l.length) : ∃ bb bo, sa = some ⟨bb, bo, none⟩ ∧ bb < w.heap.size ∧ ORow w bb bo l := by
  rcases h.at_ with h | h
  · rw [h] at hi; simp at hi
  · exact h
theorem OpD.ok.old {w : World} {o : OpD} (h : o.ok w) {yb : Nat} (hy : w.heap.size ≤ yb) : (∀ bb bo, bb < w.heap.size → o.ea = some ⟨bb, bo, none⟩ → ¬ only yb bb) ∧ (∀ bb bo, bb < w.heap.size → o.da = some ⟨bb, bo, none⟩ → ¬ only yb bb) :=
  ⟨fun bb bo h _ e => by simp only [only] at e; omega, fun bb bo h _ e => by simp only [only] at e; omega⟩

set_option maxRecDepth 100000 in
set_option maxHeartbeats 4000000 in
theorem plays_any (sa : Option Addr) (l : List OpD) (cp : Nat) (w : World) (hops : OpsAt w sa l) (hlen : (l.length : Int) < 1099511627750) :
    Calls Tryz.prog 10 #[.slice sa l.length cp, .int .i64 3] w fun r w' => r = .returned (.bool true) ∧ Keep nil w w' := by
  have HO : Unit → OpsAt w sa l ∧ (l.length : Int) < 1099511627750 := fun _ => ⟨hops, hlen⟩
  clear hops hlen
  go_enter Tryz.func10, Tryz.ntmps10
  go_wp2_with fail
  obtain ⟨W1, hW1⟩ : ∃ W1, W1 = w.alloc (.cells #[.slice none 0 0, .slice none 0 0, .slice none 0 0, .slice none 0 0, .slice none 0 0, .slice none 0 0, .slice none 0 0, .slice none 0 0] 73) := ⟨_, rfl⟩
  have hbx : Blk W1 w.heap.size #[.slice none 0 0, .slice none 0 0, .slice none 0 0, .slice none 0 0, .slice none 0 0, .slice none 0 0, .slice none 0 0, .slice none 0 0] 73 := by rw [hW1]; exact Blk.new _ _ _
  have hk1 : Keep nil w W1 := by rw [hW1]; exact (Keep.refl nil w).alloc _
  rw [← hW1]
  obtain ⟨yb, hyb⟩ : ∃ yb, yb = w.heap.size := ⟨_, rfl⟩
  rw [← hyb] at hbx ⊢
  refine (head_any W1).mono ?_
  rintro r w2 ⟨hb, eb, rfl, hh1, hh2, he1, he2, hrow, hedge, hk2⟩
  have hy1 := hbx.lt
  have HH : Unit → ORow w2 hb 0 (hdl eb) ∧ hb < w2.heap.size ∧ hb ≠ yb ∧ (∀ o ∈ hdl eb, o.ok w2) ∧ eb ≠ yb ∧ Keep nil w w2 ∧ w.heap.size ≤ yb := fun _ => ⟨hrow, hh2, by omega, hdl_ok he2 hedge, by omega, hk1.trans hk2, by omega⟩
  have HB0 : Unit → Book w2 w2 yb (.slice none 0 0) (.slice none 0 0) 0 0 := fun _ => ⟨none, 0, [], none, 0, [], ⟨Keep.refl _ _, hbx.keep hk2 (fun e => e), Or.inl ⟨rfl, rfl, rfl, rfl⟩, Or.inl ⟨rfl, rfl, rfl, rfl⟩, fun x e => (by cases e), fun i v h => (by simp at h), fun i v h => (by simp at h)⟩⟩
  clear hW1 hbx hk1 hyb hh1 hh2 he1 he2 hrow hedge hk2 hy1
  go_wp2_with fail
  go_loopw [7, 8] (fun ok v wr => ∃ i na nb : Nat, i ≤ 12 ∧ v = .int .i64 (i : Int) ∧ ok = .bool true ∧ na ≤ i ∧ nb ≤ i ∧ Book w2 wr yb (.slice none 0 0) (.slice none 0 0) na nb) (fun _ v _ => 12 - (intOf v).toNat)
  case atStart => exact ⟨0, 0, 0, by omega, rfl, rfl, by omega, by omega, HB0 ()⟩
  case round =>
    obtain ⟨i, na, nb, hi, rfl, rfl, hna, hnb, hbk⟩ := hrel
    have HR : Unit → Book w2 wr yb (.slice none 0 0) (.slice none 0 0) na nb ∧ na ≤ i ∧ nb ≤ i := fun _ => ⟨hbk, hna, hnb⟩
    have HK : Unit → Keep (only yb) w2 wr := fun _ => let ⟨_, _, _, _, _, _, h⟩ := hbk; h.keep
    clear HB0 hna hnb hbk
    by_cases hil : i < 12
    · as_aux_lemma =>
      obtain ⟨o, ho⟩ : ∃ o, (hdl eb)[i]? = some o := ⟨_, List.getElem?_eq_getElem (show i < (hdl eb).length from hil)⟩
      have hrow := (HH ()).1.keep (HK ()) (HH ()).2.1 (fun e => (HH ()).2.2.1 e)
      have hok := ((HH ()).2.2.2.1 o (List.mem_of_getElem? ho))
      have hiI : (i : Int) < 12 := by omega
      have hhw : hb < wr.heap.size := Nat.lt_of_lt_of_le (HH ()).2.1 (HK ()).size
      have HS : Unit → o.kd ≤ 3 → Calls Tryz.prog 27 #[.pointer (some ⟨yb, 0, none⟩), o.v] wr fun e w' => e = .returned (.bool true) ∧ ∃ na' nb', na' ≤ na + 1 ∧ nb' ≤ nb + 1 ∧ Book w2 w' yb (.slice none 0 0) (.slice none 0 0) na' nb' := fun _ h3 =>
        step_any w2 wr yb _ _ na nb (HR ()).1 o (hok.keep (HK ()) ⟨fun bb bo _ e h => (HH ()).2.2.2.2.1 (((hdl_blk o (List.mem_of_getElem? ho)).1 bb bo e).symm.trans h), fun bb bo _ e h => (hdl_blk o (List.mem_of_getElem? ho)).2 bb bo e⟩) h3 (by have := HR (); omega) (by have := HR (); omega)
      have z0 := orow_get hrow i o ho 0 _ rfl
      have z1 := orow_get hrow i o ho 1 _ rfl
      have z2 := orow_get hrow i o ho 2 _ rfl
      have z3 := orow_get hrow i o ho 3 _ rfl
      have z4 := orow_get hrow i o ho 4 _ rfl
      have z5 := orow_get hrow i o ho 5 _ rfl
      have z6 := orow_get hrow i o ho 6 _ rfl
      have z7 := orow_get hrow i o ho 7 _ rfl
      have z8 := orow_get hrow i o ho 8 _ rfl
      have z9 := orow_get hrow i o ho 9 _ rfl
      have z10 := orow_get hrow i o ho 10 _ rfl
      have z11 := orow_get hrow i o ho 11 _ rfl
      simp only [Nat.zero_add, Nat.add_zero] at z0 z1 z2 z3 z4 z5 z6 z7 z8 z9 z10 z11
      clear hrow hok ho
      obtain ⟨kd, oc, oa, ob, ea, es, ec, d, s, k, l2, n, f, da, ds, dc⟩ := o
      simp only [OpD.v] at HS
      simp only at z0 z1 z2 z3 z4 z5 z6 z7 z8 z9 z10 z11
      by_cases h3 : kd ≤ 3
      · go_wp2_with fail
        refine Calls.mono (HS () h3) ?_
        rintro r w4 ⟨rfl, na', nb', ha, hb', hbk⟩
        have HQ : Unit → na' ≤ na + 1 ∧ nb' ≤ nb + 1 ∧ Book w2 w4 yb (.slice none 0 0) (.slice none 0 0) na' nb' := fun _ => ⟨ha, hb', hbk⟩
        clear ha hb' hbk HS z0 z1 z2 z3 z4 z5 z6 z7 z8 z9 z10 z11 h3
        go_wp2
        go_roundw
        case rel => exact ⟨i + 1, na', nb', by omega, by go_num, rfl, by have := HQ (); have := HR (); omega, by have := HQ (); have := HR (); omega, (HQ ()).2.2⟩
        case measure => simp [intOf]; omega
      · clear HS z1 z2 z3 z4 z5 z6 z7 z8 z9 z10 z11
        have h3' : 3 < kd := by omega
        clear h3
        go_wp2
        clear h3'
        go_roundw
        case rel => exact ⟨i + 1, na, nb, by omega, by go_num, rfl, by have := HR (); omega, by have := HR (); omega, (HR ()).1⟩
        case measure => simp [intOf]; omega
    · have ei : i = 12 := by omega
      subst ei
      clear hi hil HK
      go_wp2_with fail
      have e12 : ((12 : Nat) : Int) = 12 := rfl
      rw [e12]
      clear e12
      go_loopw [7, 9] (fun ok v wx => ∃ i na nb : Nat, i ≤ l.length ∧ v = .int .i64 (i : Int) ∧ ok = .bool true ∧ na ≤ i + 12 ∧ nb ≤ i + 12 ∧ Book w2 wx yb (.slice none 0 0) (.slice none 0 0) na nb) (fun _ v _ => l.length - (intOf v).toNat)
      case atStart => exact ⟨0, na, nb, by omega, rfl, rfl, by have := HR (); omega, by have := HR (); omega, (HR ()).1⟩
      case round =>
        obtain ⟨i, na, nb, hi, rfl, rfl, hna, hnb, hbk⟩ := hrel
        have HR2 : Unit → Book w2 wr yb (.slice none 0 0) (.slice none 0 0) na nb ∧ na ≤ i + 12 ∧ nb ≤ i + 12 := fun _ => ⟨hbk, hna, hnb⟩
        have HK : Unit → Keep (only yb) w wr := fun _ => let ⟨_, _, _, _, _, _, h⟩ := hbk; (((HH ()).2.2.2.2.2.1.mono (fun _ _ e => e.elim)).trans h.keep)
        clear HR hna hnb hbk
        by_cases hil : i < l.length
        · as_aux_lemma =>
          obtain ⟨o, ho⟩ : ∃ o, l[i]? = some o := ⟨_, List.getElem?_eq_getElem hil⟩
          obtain ⟨bb, bo, rfl, hbb, hrow0⟩ := (HO ()).1.row hil
          have hrow := hrow0.keep (HK ()) hbb (fun e => by simp only [only] at e; have := (HH ()).2.2.2.2.2.2; omega)
          have hok := ((HO ()).1.ok o (List.mem_of_getElem? ho))
          have hiI : (i : Int) < (l.length : Int) := by omega
          have HI2 : Unit → (i : Int) < 1099511627750 ∧ i < l.length ∧ i ≤ l.length := fun _ => ⟨by have := (HO ()).2; omega, hil, hi⟩
          have hhw : bb < wr.heap.size := Nat.lt_of_lt_of_le hbb (HK ()).size
          have HS : Unit → o.kd ≤ 3 → Calls Tryz.prog 27 #[.pointer (some ⟨yb, 0, none⟩), o.v] wr fun e w' => e = .returned (.bool true) ∧ ∃ na' nb', na' ≤ na + 1 ∧ nb' ≤ nb + 1 ∧ Book w2 w' yb (.slice none 0 0) (.slice none 0 0) na' nb' := fun _ h3 =>
            step_any w2 wr yb _ _ na nb (HR2 ()).1 o (hok.keep (HK ()) (hok.old (HH ()).2.2.2.2.2.2)) h3 (by have := HR2 (); have := HI2 (); omega) (by have := HR2 (); have := HI2 (); omega)
          have z0 := orow_get hrow i o ho 0 _ rfl
          have z1 := orow_get hrow i o ho 1 _ rfl
          have z2 := orow_get hrow i o ho 2 _ rfl
          have z3 := orow_get hrow i o ho 3 _ rfl
          have z4 := orow_get hrow i o ho 4 _ rfl
          have z5 := orow_get hrow i o ho 5 _ rfl
          have z6 := orow_get hrow i o ho 6 _ rfl
          have z7 := orow_get hrow i o ho 7 _ rfl
          have z8 := orow_get hrow i o ho 8 _ rfl
          have z9 := orow_get hrow i o ho 9 _ rfl
          have z10 := orow_get hrow i o ho 10 _ rfl
          have z11 := orow_get hrow i o ho 11 _ rfl
          simp only [Nat.add_zero] at z0 z1 z2 z3 z4 z5 z6 z7 z8 z9 z10 z11
          clear hrow hok ho hrow0 hbb hil hi
          obtain ⟨kd, oc, oa, ob, ea, es, ec, d, s, k, l2, n, f, da, ds, dc⟩ := o
          simp only [OpD.v] at HS
          simp only at z0 z1 z2 z3 z4 z5 z6 z7 z8 z9 z10 z11
          by_cases h3 : kd ≤ 3
          · go_wp2_with fail
            refine Calls.mono (HS () h3) ?_
            rintro r w4 ⟨rfl, na', nb', ha, hb', hbk⟩
            have HQ : Unit → na' ≤ na + 1 ∧ nb' ≤ nb + 1 ∧ Book w2 w4 yb (.slice none 0 0) (.slice none 0 0) na' nb' := fun _ => ⟨ha, hb', hbk⟩
            clear ha hb' hbk HS z0 z1 z2 z3 z4 z5 z6 z7 z8 z9 z10 z11 h3
            have HW : Unit → _ := fun _ => (HQ ()).2.2.whole (by have := HQ (); have := HR2 (); have := HI2 (); omega) (by have := HQ (); have := HR2 (); have := HI2 (); omega)
            go_wp2_with fail
            refine Calls.mono (HW ()) ?_
            rintro r w5 ⟨rfl, m, rfl⟩
            have hi2 := (HI2 ()).1
            clear HW hiI
            go_wp2
            go_roundw
            case rel => exact ⟨i + 1, na', nb', by have := HI2 (); omega, by go_num, rfl, by have := HQ (); have := HR2 (); omega, by have := HQ (); have := HR2 (); omega, (HQ ()).2.2.same ((Keep.refl nil w4).drewN m)⟩
            case measure => have := HI2 (); simp [intOf]; omega
          · clear HS z1 z2 z3 z4 z5 z6 z7 z8 z9 z10 z11
            have h3' : 3 < kd := by omega
            clear h3
            go_upto_region 11 with fail
            clear h3' hiI z0
            have hi2 := (HI2 ()).1
            go_wp2
            go_roundw
            case rel => exact ⟨i + 1, na, nb, by have := HI2 (); omega, by go_num, rfl, by have := HR2 (); omega, by have := HR2 (); omega, (HR2 ()).1⟩
            case measure => have := HI2 (); simp [intOf]; omega
        · have ei : i = l.length := by omega
          subst ei
          go_wp2
          go_ret
          exact ⟨rfl, (Keep.refl nil w).trans' (HK ()) (fun i hi e => by simp only [only] at e; have := (HH ()).2.2.2.2.2.2; omega)⟩

theorem framed_any (sa : Option Addr) (l : List OpD) (cp : Nat) (w : World) (hops : OpsAt w sa l) (hlen : (l.length : Int) < 1099511627750) :
    Calls Tryz.prog 3 #[.slice sa l.length cp] w fun r w' => r = .returned (.bool true) ∧ Keep nil w w' := by
  have HC : Unit → _ := fun _ => plays_any sa l cp w hops hlen
  clear hops hlen
  go_enter Tryz.func3, Tryz.ntmps3
  go_wp2_with fail
  refine Calls.mono (HC ()) ?_
  rintro r w2 ⟨rfl, hk⟩
  have HK : Unit → Keep nil w w2 := fun _ => hk
  clear hk HC
  go_wp2
  go_ret
  exact ⟨rfl, HK ()⟩
end Go.Proofs.YtlfijfodklhplaaGreat
/- Framed: the row. -/
namespace Go.Proofs.YtlfijfodklhplaaGreat
open Go.ChangeShapes Go.WideShapes Go.ChangeAt Go.RowKit Go.Deep
set_option linter.unusedVariables false
set_option linter.unusedSimpArgs false
theorem framed_own : ownKnob Tryz.prog.godebug = none := by kernel_rfl
theorem framed_laid : laidOutB Tryz.prog = true := by kernel_rfl
theorem op_cells : Tryz.prog.cellsOf 80 = 12 := by kernel_rfl
theorem op_bytes : Tryz.prog.bytesOf 80 = 128 := by kernel_rfl
theorem edge_cells : Tryz.prog.cellsOf 30 = 3 := by kernel_rfl
theorem edge_bytes : Tryz.prog.bytesOf 30 = 24 := by kernel_rfl
theorem u8_cells : Tryz.prog.cellsOf 5 = 1 := by kernel_rfl
theorem u8_bytes : Tryz.prog.bytesOf 5 = 1 := by kernel_rfl
theorem int_cells : Tryz.prog.cellsOf 3 = 1 := by kernel_rfl
theorem bool_cells : Tryz.prog.cellsOf 4 = 1 := by kernel_rfl
theorem edges_cells : Tryz.prog.cellsOf 26 = 1 := by kernel_rfl
theorem bytes_cells : Tryz.prog.cellsOf 56 = 1 := by kernel_rfl
theorem frame_cells : Tryz.prog.cellsOf 78 = 6 := by kernel_rfl
theorem msg_cells : Tryz.prog.cellsOf 76 = 4 := by kernel_rfl

theorem erow_mk {w : World} {b o : Nat} {l : List Ed} (h : ∀ k e, l[k]? = some e → w.cell? ⟨b, o + k * 3, none⟩ = some (.int .i64 e.a) ∧ w.cell? ⟨b, o + k * 3 + 1, none⟩ = some (.int .i64 e.b) ∧ w.cell? ⟨b, o + k * 3 + 2, none⟩ = some (.int .i64 e.wt)) : ERow w b o l := by
  intro j u hu
  have hj := (List.getElem?_eq_some_iff.1 hu).1
  rw [ecells_len] at hj
  have hk : j / 3 < l.length := by omega
  have he : l[j / 3]? = some l[j / 3] := List.getElem?_eq_getElem hk
  obtain ⟨c0, c1, c2⟩ := h _ _ he
  obtain ⟨g0, g1, g2⟩ := ecells_get l _ _ he
  rcases (show j = j / 3 * 3 ∨ j = j / 3 * 3 + 1 ∨ j = j / 3 * 3 + 2 by omega) with e | e | e
  · rw [← e, hu] at g0
    rw [← e] at c0
    rw [c0, g0]
  · rw [← e, hu] at g1
    rw [Nat.add_assoc, ← e] at c1
    rw [c1, g1]
  · rw [← e, hu] at g2
    rw [Nat.add_assoc, ← e] at c2
    rw [c2, g2]

theorem mem_weightsAll {H : Type} {P : Program} {e : TypeId} {d : DataW H} : ∀ {l : List (DataW H)}, d ∈ l → ∀ x ∈ d.weights P e, x ∈ DataW.weightsAll P e l
  | [], h, _, _ => by cases h
  | y :: r, h, x, hx => by
    simp only [DataW.weightsAll, List.mem_append]
    rcases List.mem_cons.1 h with rfl | h
    · exact Or.inl hx
    · exact Or.inr (mem_weightsAll h x hx)

set_option maxRecDepth 100000 in
/-- The edges that a slice of them reads. -/
theorem edges_of {H : Type} {enc : TypeId × Value → H} {W : World} {fuel : Nat} {cs : List Value} {d : DataW H} {pl : List MemPlace}
    (h : DataW.trod enc Tryz.prog W 0 (fun _ => true) true fuel 26 cs = some (d, pl)) (hw : ∀ x ∈ d.weights Tryz.prog 26, x ≤ reachBytes) :
    ∃ (sa : Option Addr) (es : List Ed) (cp : Nat), cs = [.slice sa es.length cp] ∧ ((sa = none ∧ es = [] ∧ cp = 0) ∨ ∃ ad, sa = some ad ∧ ESl W (some ad) es ∧ (es.length : Int) ≤ 5864062014700) := by
  rcases open_slice Tryz.underlying26 h with ⟨hc, _⟩ | ⟨a, len, cap, m, k, D, Pl, hc, _, hl, hm, hmm, hx, hall⟩
  · exact ⟨none, [], 0, hc, Or.inl ⟨rfl, rfl, rfl⟩⟩
  · simp only [if_true] at hmm
    subst hmm
    have hd := congrArg Prod.fst hx
    simp only at hd
    have hb : (len + (m - len)) * 24 ≤ reachBytes := by
      refine hw _ ?_
      rw [hd]
      unfold DataW.weights
      rw [Tryz.underlying26]
      simp [edge_bytes]
    have hel : ∀ i, i < len → ∃ e : Ed, W.cell? ((a.add (i * 3)).add 0) = some (.int .i64 e.a) ∧ W.cell? ((a.add (i * 3)).add 1) = some (.int .i64 e.b) ∧ W.cell? ((a.add (i * 3)).add 2) = some (.int .i64 e.wt) := by
      intro i hi
      obtain ⟨cs', h1, h2⟩ := hall i (by omega)
      rw [edge_cells] at h1
      obtain ⟨_, hlen, hcell⟩ := World.cells?_some h1
      obtain ⟨xs, k', hk, hxy, _, hxl, hf⟩ := DataW.trod_struct Tryz.underlying30 h2
      match xs, hxl, cs', hlen with
      | [y0, y1, y2], _, [v0, v1, v2], _ =>
        have g0 := hf 0 _ rfl
        have g1 := hf 1 _ rfl
        have g2 := hf 2 _ rfl
        simp [int_cells] at g0 g1 g2
        obtain ⟨z0, e0, _, b0⟩ := DataW.trod_int Tryz.underlying3 g0
        obtain ⟨z1, e1, _, b1⟩ := DataW.trod_int Tryz.underlying3 g1
        obtain ⟨z2, e2, _, b2⟩ := DataW.trod_int Tryz.underlying3 g2
        simp at e0 e1 e2
        subst e0 e1 e2
        have c0 := hcell 0 (by omega)
        have c1 := hcell 1 (by omega)
        have c2 := hcell 2 (by omega)
        simp only [List.getElem?_cons_zero, List.getElem?_cons_succ] at c0 c1 c2
        exact ⟨⟨z0, z1, z2⟩, c0, c1, c2⟩
    have : Inhabited Ed := ⟨⟨0, 0, 0⟩⟩
    obtain ⟨V, hV⟩ := choose_lt hel
    refine ⟨some a, (List.range len).map V, m, by rw [hc]; simp, Or.inr ⟨a, rfl, ?_, ?_⟩⟩
    · by_cases h0 : len = 0
      · subst h0; exact Or.inl rfl
      · obtain ⟨ab, ao, spot⟩ := a
        have hspot : spot = none := by
          have := World.cell?_spot (hV 0 (by omega)).1
          simpa [Addr.add] using this
        subst hspot
        simp only [Addr.add_lit] at hV
        refine Or.inr ⟨ab, ao, rfl, World.block_lt_of_cell? W _ (hV 0 (by omega)).1, erow_mk (fun k e hk => ?_)⟩
        have hkl := (List.getElem?_eq_some_iff.1 hk).1
        simp at hkl
        rw [List.getElem?_map, List.getElem?_range hkl] at hk
        simp at hk
        subst hk
        exact hV k hkl
    · have : reachBytes = 140737488351232 := rfl
      simp
      omega
/-- The bytes that a slice of them reads. -/
theorem bytes_of {H : Type} {enc : TypeId × Value → H} {W : World} {fuel : Nat} {cs : List Value} {d : DataW H} {pl : List MemPlace}
    (h : DataW.trod enc Tryz.prog W 0 (fun _ => true) true fuel 56 cs = some (d, pl)) (hw : ∀ x ∈ d.weights Tryz.prog 56, x ≤ reachBytes) :
    ∃ (sa : Option Addr) (ds : List Nat) (cp : Nat), cs = [.slice sa ds.length cp] ∧ ((sa = none ∧ ds = [] ∧ cp = 0) ∨ ∃ ad, sa = some ad ∧ BSl W ad ds ∧ (ds.length : Int) ≤ 140737488351232 ∧ (∀ x ∈ ds, x < 256) ∧ ds.length ≤ cp) := by
  rcases open_slice1 Tryz.underlying56 u8_cells h with ⟨hc, _⟩ | ⟨a, len, cap, m, k, V0, D, Pl, hc, _, hl, hm, hmm, hx, hall⟩
  · exact ⟨none, [], 0, hc, Or.inl ⟨rfl, rfl, rfl⟩⟩
  · simp only [if_true] at hmm
    subst hmm
    have hd := congrArg Prod.fst hx
    simp only at hd
    have hb : (len + (m - len)) * 1 ≤ reachBytes := by
      refine hw _ ?_
      rw [hd]
      unfold DataW.weights
      rw [Tryz.underlying56]
      simp [u8_bytes]
    have hel : ∀ i, i < len → ∃ x : Nat, W.cell? (a.add i) = some (.int .u8 (x : Int)) ∧ x < 256 := by
      intro i hi
      obtain ⟨h1, h2⟩ := hall i (by omega)
      obtain ⟨z, e, _, b⟩ := DataW.trod_int Tryz.underlying5 h2
      simp at e
      rw [e] at h1
      simp [Lit.wf, IntKind.min, IntKind.max, IntKind.bits, IntKind.signed] at b
      refine ⟨z.toNat, ?_, by omega⟩
      rw [show ((z.toNat : Nat) : Int) = z by omega]
      exact h1
    obtain ⟨V, hV⟩ := choose_lt hel
    have hr : reachBytes = 140737488351232 := rfl
    refine ⟨some a, (List.range len).map V, m, by rw [hc]; simp, Or.inr ⟨a, rfl, ?_, by simp; omega, ?_, by simp; omega⟩⟩
    · by_cases h0 : len = 0
      · subst h0; exact Or.inl rfl
      · obtain ⟨ab, ao, spot⟩ := a
        have hspot : spot = none := by
          have := World.cell?_spot (hV 0 (by omega)).1
          simpa [Addr.add] using this
        subst hspot
        simp only [Addr.add_lit] at hV
        refine Or.inr ⟨ab, ao, rfl, World.block_lt_of_cell? W _ (hV 0 (by omega)).1, fun i hi => ?_⟩
        simp at hi
        simp only [List.getElem_map, List.getElem_range]
        exact (hV i hi).1
    · intro x hx
      simp at hx
      obtain ⟨i, hi, rfl⟩ := hx
      exact (hV i hi).2
set_option maxRecDepth 100000 in
theorem op_of {H : Type} {enc : TypeId × Value → H} {W : World} {fuel : Nat} {cs : List Value} {d : DataW H} {pl : List MemPlace}
    (h : DataW.trod enc Tryz.prog W 0 (fun _ => true) true fuel 80 cs = some (d, pl)) (hl : cs.length = 12) (hw : ∀ x ∈ d.weights Tryz.prog 80, x ≤ reachBytes) :
    ∃ o : OpD, cs = o.cells ∧ o.ok W := by
  obtain ⟨xs, k', hk, hxy, _, hxl, hf⟩ := DataW.trod_struct Tryz.underlying80 h
  simp only [Prod.mk.injEq] at hxy
  match xs, hxl, cs, hl with
  | [y0, y1, y2, y3, y4, y5, y6], _, [v0, v1, v2, v3, v4, v5, v6, v7, v8, v9, v10, v11], _ =>
    have g0 := hf 0 _ rfl
    have g1 := hf 1 _ rfl
    have g2 := hf 2 _ rfl
    have g3 := hf 3 _ rfl
    have g4 := hf 4 _ rfl
    have g5 := hf 5 _ rfl
    have g6 := hf 6 _ rfl
    simp [int_cells, edges_cells, frame_cells, bytes_cells] at g0 g1 g2 g3 g4 g5 g6
    obtain ⟨z0, e0, _, _⟩ := DataW.trod_int Tryz.underlying3 g0
    obtain ⟨z1, e1, _, _⟩ := DataW.trod_int Tryz.underlying3 g1
    obtain ⟨z2, e2, _, _⟩ := DataW.trod_int Tryz.underlying3 g2
    obtain ⟨z3, e3, _, _⟩ := DataW.trod_int Tryz.underlying3 g3
    simp at e0 e1 e2 e3
    subst e0 e1 e2 e3
    have hd : d = .agg [y0.1, y1.1, y2.1, y3.1, y4.1, y5.1, y6.1] := hxy.1
    have hwE : ∀ x ∈ y4.1.weights Tryz.prog 26, x ≤ reachBytes := fun x hx => hw x (by
      rw [hd]
      unfold DataW.weights
      rw [Tryz.underlying80]
      exact DataW.weights_mem_each (j := 4) rfl rfl x hx)
    have hwD : ∀ x ∈ y6.1.weights Tryz.prog 56, x ≤ reachBytes := fun x hx => hw x (by
      rw [hd]
      unfold DataW.weights
      rw [Tryz.underlying80]
      exact DataW.weights_mem_each (j := 6) rfl rfl x hx)
    obtain ⟨ea, es, ec, hce, hE⟩ := edges_of g4 hwE
    obtain ⟨da, ds, dc, hcd, hD⟩ := bytes_of g6 hwD
    simp at hce hcd
    subst hce hcd
    obtain ⟨xs2, k2, _, _, _, hxl2, hf2⟩ := DataW.trod_struct Tryz.underlying78 g5
    match xs2, hxl2 with
    | [a0, a1, a2], _ =>
      have m0 := hf2 0 _ rfl
      have m1 := hf2 1 _ rfl
      have m2 := hf2 2 _ rfl
      simp [int_cells, bool_cells, msg_cells] at m0 m1 m2
      obtain ⟨b0, q0, _⟩ := DataW.trod_bool Tryz.underlying4 m0
      obtain ⟨b1, q1, _, _⟩ := DataW.trod_int Tryz.underlying3 m1
      simp at q0 q1
      subst q0 q1
      obtain ⟨xs3, k3, _, _, _, hxl3, hf3⟩ := DataW.trod_struct Tryz.underlying76 m2
      match xs3, hxl3 with
      | [c0, c1, c2, c3], _ =>
        have n0 := hf3 0 _ rfl
        have n1 := hf3 1 _ rfl
        have n2 := hf3 2 _ rfl
        have n3 := hf3 3 _ rfl
        simp [int_cells, bool_cells] at n0 n1 n2 n3
        obtain ⟨w0, r0, _, _⟩ := DataW.trod_int Tryz.underlying3 n0
        obtain ⟨w1, r1, _, _⟩ := DataW.trod_int Tryz.underlying3 n1
        obtain ⟨w2, r2, _, _⟩ := DataW.trod_int Tryz.underlying3 n2
        obtain ⟨w3, r3, _⟩ := DataW.trod_bool Tryz.underlying4 n3
        simp at r0 r1 r2 r3
        subst r0 r1 r2 r3
        exact ⟨⟨z0, z1, z2, z3, ea, es, ec, b0, b1, w0, w1, w2, w3, da, ds, dc⟩, rfl, ⟨hE, hD⟩⟩

theorem orow_mk {w : World} {b o : Nat} {l : List OpD} (h : ∀ k x, l[k]? = some x → ∀ j, j < 12 → w.cell? ⟨b, o + k * 12 + j, none⟩ = x.cells[j]?) : ORow w b o l := by
  intro j u hu
  have hol : ∀ l : List OpD, (ocells l).length = l.length * 12 := fun l => by
    induction l with
    | nil => rfl
    | cons e t ih =>
      have hc : ocells (e :: t) = e.cells ++ ocells t := by simp [ocells]
      rw [hc, List.length_append, ih, List.length_cons]
      have : e.cells.length = 12 := rfl
      omega
  have hj := (List.getElem?_eq_some_iff.1 hu).1
  rw [hol] at hj
  have hk : j / 12 < l.length := by omega
  have he : l[j / 12]? = some l[j / 12] := List.getElem?_eq_getElem hk
  have hm : j % 12 < 12 := by omega
  have hl12 : (l[j / 12]).cells.length = 12 := rfl
  have hx : (l[j / 12]).cells[j % 12]? = some ((l[j / 12]).cells[j % 12]'(by omega)) := List.getElem?_eq_getElem _
  have g := ocells_get l _ _ he _ _ hx
  have c := h _ _ he _ hm
  rw [show j / 12 * 12 + j % 12 = j by omega, hu] at g
  rw [Nat.add_assoc, show j / 12 * 12 + j % 12 = j by omega] at c
  rw [c, hx, g]

/-- The script that a slice of steps reads. -/
theorem ops_of {H : Type} {enc : TypeId × Value → H} {W : World} {fuel : Nat} {sa : Option Addr} {n cp : Nat} {d : DataW H} {pl : List MemPlace}
    (h : DataW.trod enc Tryz.prog W 0 (fun _ => true) true fuel 22 [.slice sa n cp] = some (d, pl)) (hw : ∀ x ∈ d.weights Tryz.prog 22, x ≤ reachBytes) :
    ∃ l : List OpD, l.length = n ∧ OpsAt W sa l ∧ (l.length : Int) < 1099511627750 := by
  rcases open_slice Tryz.underlying22 h with ⟨hc, _⟩ | ⟨a, len, cap, m, k, D, Pl, hc, _, hl, hm, hmm, hx, hall⟩
  · simp at hc
    obtain ⟨rfl, rfl, rfl⟩ := hc
    exact ⟨[], rfl, ⟨Or.inl rfl, fun o ho => by cases ho⟩, by decide⟩
  · simp at hc
    obtain ⟨rfl, rfl, rfl⟩ := hc
    simp only [if_true] at hmm
    subst hmm
    have hd := congrArg Prod.fst hx
    simp only at hd
    have hwd : ∀ x, x ∈ ((n + (m - n)) * 128 :: (DataW.weightsAll Tryz.prog 80 ((List.range n).map D) ++ DataW.weightsAll Tryz.prog 80 ((List.range (m - n)).map fun j => D (n + j)))) → x ≤ reachBytes := by
      intro x hx'
      refine hw x ?_
      rw [hd]
      unfold DataW.weights
      rw [Tryz.underlying22]
      simpa [op_bytes] using hx'
    have hb : (n + (m - n)) * 128 ≤ reachBytes := hwd _ (by simp)
    have hr : reachBytes = 140737488351232 := rfl
    have hel : ∀ i, i < n → ∃ o : OpD, o.ok W ∧ ∀ j, j < 12 → W.cell? ((a.add (i * 12)).add j) = o.cells[j]? := by
      intro i hi
      obtain ⟨cs', h1, h2⟩ := hall i (by omega)
      rw [op_cells] at h1
      obtain ⟨_, hlen, hcell⟩ := World.cells?_some h1
      obtain ⟨o, ho, hok⟩ := op_of h2 hlen (fun x hx' => hwd x (by
        refine List.mem_cons_of_mem _ (List.mem_append_left _ (mem_weightsAll (List.mem_map.2 ⟨i, by simpa using hi, rfl⟩) x hx')))
      )
      exact ⟨o, hok, fun j hj => by rw [← ho]; exact hcell j hj⟩
    have : Inhabited OpD := ⟨op0 0 0 0 0⟩
    obtain ⟨V, hV⟩ := choose_lt hel
    refine ⟨(List.range n).map V, by simp, ⟨?_, fun o ho => ?_⟩, by simp; omega⟩
    · by_cases h0 : n = 0
      · subst h0; exact Or.inl rfl
      · obtain ⟨ab, ao, spot⟩ := a
        have h00 := (hV 0 (by omega)).2 0 (by omega)
        have hx0 : (V 0).cells[0]? = some (.int .i64 (V 0).kd) := rfl
        rw [hx0] at h00
        have hspot : spot = none := by
          have := World.cell?_spot h00
          simpa [Addr.add] using this
        subst hspot
        simp only [Addr.add_lit] at hV h00
        refine Or.inr ⟨ab, ao, rfl, World.block_lt_of_cell? W _ h00, orow_mk (fun k e hk j hj => ?_)⟩
        have hkl := (List.getElem?_eq_some_iff.1 hk).1
        simp at hkl
        rw [List.getElem?_map, List.getElem?_range hkl] at hk
        simp at hk
        subst hk
        exact (hV k hkl).2 j hj
    · simp at ho
      obtain ⟨i, hi, rfl⟩ := ho
      exact (hV i hi).1

set_option maxRecDepth 100000 in
theorem framed_lifted (os : Os) (started : os.Started) (H : Type) (enc : TypeId × Value → H) :
    ReturnsInHanded {} Tryz.checked os 3 .any (Rows.framedSpec.pre6 enc Tryz.prog Tryz.f3 Rows.framedRow.domain false) (Rows.framedSpec.post enc Tryz.prog Tryz.f3 false true false false) := by
  refine returnsInHanded_of_change_sized (C := Tryz.checked) framed_own started (by kernel_rfl) Tryz.func3
    (ChangeSpec.witness6 (enc := enc) (C := Tryz.checked) false ⟨#[], #[.slice none 0 0], []⟩ 8 (by kernel_rfl) (by kernel_rfl) (by kernel_rfl) (by kernel_rfl)) ?_
  intro W base args ds gs before hval0 hW hcnd0 hsz _
  have hval : ∀ (j : Nat) t v, Tryz.f3.params[j]? = some t → args[j]? = some v → Value.okWide Tryz.prog W .any base t v := hval0
  have hW' := hW
  obtain ⟨p, q, hA0, hV, rfl, _, _⟩ := hW
  have hA : DataW.TrodAll enc Tryz.prog W 0 (fun _ => true) true Tryz.f3.params.toList args.toList ds p := hA0
  rw [Tryz.params3] at hA hval
  obtain ⟨v0, d0, rfl, rfl, h0⟩ := trodAll_one hA
  obtain ⟨rfl, rfl⟩ := trodVars_none hV
  have h0k := h0
  obtain ⟨fuel, hf⟩ := h0
  have hwt : ∀ x ∈ d0.weights Tryz.prog 22, x ≤ reachBytes := fun x hx => by
    have h1 : (DataW.weightsEach Tryz.prog (Tryz.f3.params.toList ++ Rows.framedSpec.plain.varTypes Tryz.prog) ([d0] ++ [])).all (· ≤ reachBytes) = true := hsz
    rw [Tryz.params3] at h1
    have h2 := List.all_eq_true.1 h1 x (DataW.weights_mem_each (j := 0) rfl rfl x hx)
    simpa using h2
  clear hA0 hval0
  simp only [List.append_nil] at hW'
  have hlt : ∀ x ∈ p, x.block < W.heap.size := fun x hx => by simpa using hW'.lt x hx
  obtain ⟨sa, n, cp, rfl⟩ := okWide_slice Tryz.underlying22 (hval 0 22 v0 rfl rfl)
  obtain ⟨l, rfl, hops, hlen⟩ := ops_of hf hwt
  refine (framed_any sa l cp W hops hlen).mono fun e W' ⟨he, hk⟩ => ?_
  subst he
  exact ⟨_, rfl, ⟨_, _, _, [], _, [], hW', trodAll_mk1 (shut_bool Tryz.underlying4 true), trodAll_mk1 (Below.trod framed_laid (by kernel_rfl) (of_decide_eq_true (by kernel_rfl)) h0k hk.below hlt), rfl, hk.below.frame _, fun h => by cases h⟩⟩

theorem framed_over : Rows.framedRow.holds Tryz.pinned (OpenSpec.ofChange Rows.framedSpec) :=
  OpenClaim.holds_of_wide 3 Tryz.f3 rfl rfl rfl rfl rfl rfl rfl ⟨rfl, rfl, rfl, rfl, rfl⟩ rfl rfl rfl rfl rfl (by kernel_rfl) Tryz.func3 (by kernel_rfl)
    (of_decide_eq_true (by kernel_rfl)) (by unfold Func.isWrapper; first | (rw [if_pos (by decide +kernel)]; kernel_rfl) | (rw [if_neg (by decide +kernel)]; exact ⟨rfl, rfl⟩))
    (fun os started H enc _ => framed_lifted os started H enc)

/-- The statement. -/
theorem framed_holds : Rows.FramedSaid :=
  framed_over
#print axioms framed_holds
end Go.Proofs.YtlfijfodklhplaaGreat
