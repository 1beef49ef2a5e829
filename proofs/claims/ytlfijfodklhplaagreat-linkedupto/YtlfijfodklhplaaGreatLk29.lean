import Derived.Test.YtlfijfodklhplaaGreatLk24
import Derived.Test.YtlfijfodklhplaaGreatLk27
import Derived.Test.YtlfijfodklhplaaGreatLk28
/- Walks of plain: Check. -/
namespace Go.Proofs.YtlfijfodklhplaaGreat
open Go.RowKit
set_option linter.unusedVariables false
set_option linter.unusedSimpArgs false

theorem refCheck_all (n : Int) (sa : Option Addr) (es : List Ed) (cp : Nat) (w : World) (hsl : ESl w sa es) :
    Calls Tryz.prog 74 #[.int .i64 n, .slice sa es.length cp] w fun r w' => ∃ z : Int, r = .returned (.int .i64 z) ∧ Chk n es z ∧ Keep nil w w' := by
  by_cases hb : BadSize n es
  · refine (refCheck_size n sa es cp w hb).mono ?_
    rintro r w' ⟨h1, h2⟩
    exact ⟨1, h1, Chk.mk1 hb, h2⟩
  · exact refCheck_any n sa es cp w hsl hb

set_option maxRecDepth 100000 in
set_option maxHeartbeats 2000000 in
theorem plain_chk_nil (W0 w : World) (yb : Nat) (p0 p1 : Value) (na nb : Nat) (hB : Book W0 w yb p0 p1 na nb) (oc oa ob : Int) (E : Value) (d : Bool) (s k l n : Int) (f : Bool) (D : Value)
    (he : E.oneCell' = true) (hd : D.oneCell' = true) (hE : E = .slice none 0 0) :
    Calls Tryz.prog 40 #[.pointer (some ⟨yb, 0, none⟩), opv 1 oc oa ob E d s k l n f D] w fun e w' => e = .returned (.bool true) ∧ Book W0 w' yb p0 p1 na nb := by
  obtain ⟨a0, ca, VA, b0, cb, VB, hb⟩ := hB
  have HB : Unit → Bk W0 w yb p0 p1 a0 na ca VA b0 nb cb VB := fun _ => hb
  have hsl : ∀ w, ESl w none [] := fun w => Or.inl rfl
  have H1 : Unit → ∀ w, Calls Tryz.prog 13 #[.int .i64 oa, .slice none 0 0] w fun r w' => ∃ z : Int, r = .returned (.int .i64 z) ∧ Chk oa [] z ∧ Keep nil w w' := fun _ w => arborCheck_any oa none [] 0 w (hsl w) (by simp)
  have H2 : Unit → ∀ w, Calls Tryz.prog 74 #[.int .i64 oa, .slice none 0 0] w fun r w' => ∃ z : Int, r = .returned (.int .i64 z) ∧ Chk oa [] z ∧ Keep nil w w' := fun _ w => refCheck_all oa none [] 0 w (hsl w)
  subst hE
  clear hb he hsl
  go_enter Tryz.func40, Tryz.ntmps40
  go_wp2_with fail
  obtain ⟨W1, hW1⟩ : ∃ W1, W1 = w.alloc (.cells #[.int .i64 1, .int .i64 oc, .int .i64 oa, .int .i64 ob, .slice none 0 0, .bool d, .int .i64 s, .int .i64 k, .int .i64 l, .int .i64 n, .bool f, D] 80) := ⟨_, rfl⟩
  have hbx : Blk W1 w.heap.size #[.int .i64 1, .int .i64 oc, .int .i64 oa, .int .i64 ob, .slice none 0 0, .bool d, .int .i64 s, .int .i64 k, .int .i64 l, .int .i64 n, .bool f, D] 80 := by rw [hW1]; exact Blk.new _ _ _
  have hkw : Keep nil w W1 := by rw [hW1]; exact (Keep.refl nil w).alloc _
  rw [← hW1]
  obtain ⟨xb, hxb⟩ : ∃ xb, xb = w.heap.size := ⟨_, rfl⟩
  rw [← hxb] at hbx ⊢
  have HX : Unit → Blk W1 xb #[.int .i64 1, .int .i64 oc, .int .i64 oa, .int .i64 ob, .slice none 0 0, .bool d, .int .i64 s, .int .i64 k, .int .i64 l, .int .i64 n, .bool f, D] 80 ∧ Keep nil w W1 := fun _ => ⟨hbx, hkw⟩
  have c2 := hbx.cell 2
  have c4 := hbx.cell 4
  simp at c2 c4
  clear hW1 hbx hkw hxb
  refine (lentE_nil _).mono ?_
  rintro e w1' ⟨rfl, rfl⟩
  go_wp2_with fail
  refine (H1 () _).mono ?_
  rintro e w2 ⟨z, rfl, hz, hk2⟩
  have HZ : Unit → Chk oa [] z := fun _ => hz
  have HK2 : Unit → Keep nil W1 w2 := fun _ => hk2
  clear hz hk2 c2 c4
  have c2 := ((HX ()).1.keep (HK2 ()) (fun e => e)).cell 2
  have c4 := ((HX ()).1.keep (HK2 ()) (fun e => e)).cell 4
  simp at c2 c4
  have hxl : xb < w2.heap.size := by have := (HX ()).1.lt; have := (HK2 ()).size; omega
  go_wp2_with fail
  refine (H2 () _).mono ?_
  rintro e w3 ⟨z', rfl, hz, hk3⟩
  have hzz : z' = z := hz.uniq (HZ ())
  subst hzz
  have HK3 : Unit → Keep nil W1 w3 := fun _ => (HK2 ()).trans hk3
  clear hz hk3 c2 c4 hxl
  have c4 := ((HX ()).1.keep (HK3 ()) (fun e => e)).cell 4
  simp at c4
  have hxl : xb < w3.heap.size := by have := (HX ()).1.lt; have := (HK3 ()).size; omega
  go_wp2_with fail
  refine (returnedE_nil yb (.slice none 0 0) _).mono ?_
  rintro e w4 ⟨rfl, rfl⟩
  have HP : Unit → Book W0 w3 yb p0 p1 na nb := fun _ => ⟨a0, ca, VA, b0, cb, VB, (HB ()).same ((HX ()).2.trans (HK3 ()))⟩
  go_wp2
  go_ret
  exact ⟨by simp, HP ()⟩

set_option maxRecDepth 100000 in
set_option maxHeartbeats 2000000 in
theorem plain_chk_row (W0 w : World) (yb : Nat) (p0 p1 : Value) (na nb : Nat) (hB : Book W0 w yb p0 p1 na nb) (oc oa ob : Int) (E : Value) (d : Bool) (s k l n : Int) (f : Bool) (D : Value)
    (he : E.oneCell' = true) (hd : D.oneCell' = true) (ad : Addr) (cap : Nat) (es : List Ed) (hE : E = .slice (some ad) es.length cap) (hrow : ESl w (some ad) es) (hlen : (es.length : Int) ≤ 5864062014700) (hnb : (nb : Int) < 1099511627776) :
    Calls Tryz.prog 40 #[.pointer (some ⟨yb, 0, none⟩), opv 1 oc oa ob E d s k l n f D] w fun e w' => e = .returned (.bool true) ∧ Book W0 w' yb p0 p1 na (nb + 1) := by
  obtain ⟨a0, ca, VA, b0, cb, VB, hb⟩ := hB
  have HB : Unit → Bk W0 w yb p0 p1 a0 na ca VA b0 nb cb VB := fun _ => hb
  have HN : Unit → (nb : Int) < 1099511627776 := fun _ => hnb
  have HROW : Unit → ESl w (some ad) es ∧ (es.length : Int) ≤ 5864062014700 := fun _ => ⟨hrow, hlen⟩
  have HL : Unit → ∀ w1, Keep nil w w1 → Calls Tryz.prog 73 #[.slice (some ad) es.length cap] w1 fun e w' => ∃ g c, e = .returned (.slice (some ⟨g, 0, none⟩) es.length c) ∧ w1.heap.size ≤ g ∧ EBuf w' g (es ++ emarks 8) c ∧ es.length + 8 ≤ c ∧ Keep nil w1 w' := fun _ w1 k => by
    by_cases h0 : 0 < es.length
    · obtain ⟨bb, bo, e1, e2, e3⟩ := (hrow.keep k).some h0
      cases e1
      exact lentE_any bb bo cap es w1 e3 e2 (by omega) h0
    · have : es = [] := List.eq_nil_of_length_eq_zero (by omega)
      subst this
      have := lentE_empty ad cap w1
      simpa using this
  have H1 : Unit → ∀ w g c, ERow w g 0 es → g < w.heap.size → es.length ≤ c → Calls Tryz.prog 13 #[.int .i64 oa, .slice (some ⟨g, 0, none⟩) es.length c] w fun r w' => ∃ z : Int, r = .returned (.int .i64 z) ∧ Chk oa es z ∧ Keep nil w w' := fun _ w g c h1 h2 h3 => arborCheck_any oa _ es c w (Or.inr ⟨g, 0, rfl, h2, h1⟩) h3
  have H2 : Unit → ∀ w, ESl w (some ad) es → Calls Tryz.prog 74 #[.int .i64 oa, .slice (some ad) es.length cap] w fun r w' => ∃ z : Int, r = .returned (.int .i64 z) ∧ Chk oa es z ∧ Keep nil w w' := fun _ w h1 => refCheck_all oa _ es cap w h1
  subst hE
  clear hb he hrow hlen hnb
  go_enter Tryz.func40, Tryz.ntmps40
  go_wp2_with fail
  obtain ⟨W1, hW1⟩ : ∃ W1, W1 = w.alloc (.cells #[.int .i64 1, .int .i64 oc, .int .i64 oa, .int .i64 ob, .slice (some ad) es.length cap, .bool d, .int .i64 s, .int .i64 k, .int .i64 l, .int .i64 n, .bool f, D] 80) := ⟨_, rfl⟩
  have hbx : Blk W1 w.heap.size #[.int .i64 1, .int .i64 oc, .int .i64 oa, .int .i64 ob, .slice (some ad) es.length cap, .bool d, .int .i64 s, .int .i64 k, .int .i64 l, .int .i64 n, .bool f, D] 80 := by rw [hW1]; exact Blk.new _ _ _
  have hkw : Keep nil w W1 := by rw [hW1]; exact (Keep.refl nil w).alloc _
  rw [← hW1]
  obtain ⟨xb, hxb⟩ : ∃ xb, xb = w.heap.size := ⟨_, rfl⟩
  rw [← hxb] at hbx ⊢
  have HX : Unit → Blk W1 xb #[.int .i64 1, .int .i64 oc, .int .i64 oa, .int .i64 ob, .slice (some ad) es.length cap, .bool d, .int .i64 s, .int .i64 k, .int .i64 l, .int .i64 n, .bool f, D] 80 ∧ Keep nil w W1 := fun _ => ⟨hbx, hkw⟩
  clear hW1 hbx hkw hxb
  refine (HL () _ (HX ()).2).mono ?_
  rintro e w1 ⟨g, c, rfl, hg, hbg, hcg, hk1⟩
  have HG : Unit → W1.heap.size ≤ g ∧ EBuf w1 g (es ++ emarks 8) c ∧ es.length + 8 ≤ c ∧ Keep nil W1 w1 ∧ g < w1.heap.size := fun _ => ⟨hg, hbg, hcg, hk1, hbg.lt⟩
  clear hg hbg hcg hk1
  have c2 := ((HX ()).1.keep (HG ()).2.2.2.1 (fun e => e)).cell 2
  simp at c2
  have hxl : xb < w1.heap.size := by have := (HX ()).1.lt; have := (HG ()).2.2.2.1.size; omega
  go_wp2_with fail
  refine (H1 () _ g c (by
    intro j u hu
    rw [Nat.zero_add]
    refine (HG ()).2.1.cell j u ?_
    rw [ecells_append, List.getElem?_append_left (List.getElem?_eq_some_iff.1 hu).1]
    exact hu) (HG ()).2.2.2.2 (by have := (HG ()).2.2.1; omega)).mono ?_
  rintro e w2 ⟨z, rfl, hz, hk2⟩
  have HZ : Unit → Chk oa es z := fun _ => hz
  have HK12 : Unit → Keep nil w1 w2 := fun _ => hk2
  have HK2 : Unit → Keep nil W1 w2 := fun _ => (HG ()).2.2.2.1.trans hk2
  clear hz hk2 c2 hxl
  have c2 := ((HX ()).1.keep (HK2 ()) (fun e => e)).cell 2
  have c4 := ((HX ()).1.keep (HK2 ()) (fun e => e)).cell 4
  simp at c2 c4
  have hxl : xb < w2.heap.size := by have := (HX ()).1.lt; have := (HK2 ()).size; omega
  go_wp2_with fail
  refine (H2 () _ ((HROW ()).1.keep ((HX ()).2.trans (HK2 ())))).mono ?_
  rintro e w3 ⟨z', rfl, hz, hk3⟩
  have hzz : z' = z := hz.uniq (HZ ())
  subst hzz
  have HK3 : Unit → Keep nil W1 w3 := fun _ => (HK2 ()).trans hk3
  have HK13 : Unit → Keep nil w1 w3 := fun _ => (HK12 ()).trans hk3
  clear hz hk3 c2 c4 hxl
  have c4 := ((HX ()).1.keep (HK3 ()) (fun e => e)).cell 4
  simp at c4
  have hxl : xb < w3.heap.size := by have := (HX ()).1.lt; have := (HK3 ()).size; omega
  have HK : Unit → Keep nil w w3 := fun _ => (HX ()).2.trans (HK3 ())
  have HGW : Unit → w.heap.size ≤ g := fun _ => by have h1 := (HX ()).2.size; have h2 := (HG ()).1; omega
  have HT : Unit → _ := fun _ => returnedE_rows yb g c ad cap es b0 nb cb VB p0 p1 (.slice a0 na ca) (.slice none 0 0) (.slice none 0 0) (.slice none 0 0) (.slice none 0 0) w3 (((HB ()).same (HK ())).play) (by have := (HB ()).play.lt; have := HGW (); omega) (((HB ()).same (HK ())).rowB.out (fun x hx hx0 h e => by
      rcases e with e | e
      · have := ((HB ()).rowB.lt x hx0).1; have := HGW (); omega
      · exact h (Or.inl e))) ((HG ()).2.1.keep (HK13 ()) (fun e => e)) (HG ()).2.2.1 ((HROW ()).1.keep (HK ())) (HROW ()).2 (HN ())
  go_wp2_with fail
  refine Calls.mono (HT ()) ?_
  rintro e w4 ⟨rfl, m, hpost⟩
  have kd : Keep nil w3 (w3.drewN m) := (Keep.refl nil w3).drewN m
  have HP : Unit → Book W0 w4 yb p0 p1 na (nb + 1) := fun _ => (HB ()).roll ((HK ()).trans kd) (fun x e => by rw [e]; exact HGW ()) hpost
  clear hpost HT kd c4 hxl
  go_wp2
  go_ret
  exact ⟨by simp, HP ()⟩
end Go.Proofs.YtlfijfodklhplaaGreat
/- One step of a script, up to Decode. -/
namespace Go.Proofs.YtlfijfodklhplaaGreat
open Go.RowKit
set_option linter.unusedVariables false
set_option linter.unusedSimpArgs false

/-- A step, as data and where its lists lie. -/
structure OpD where
  kd : Int
  oc : Int
  oa : Int
  ob : Int
  ea : Option Addr
  es : List Ed
  ec : Nat
  d : Bool
  s : Int
  k : Int
  l : Int
  n : Int
  f : Bool
  da : Option Addr
  ds : List Nat
  dc : Nat
/-- Its lists lie in the world. -/
structure OpD.ok (w : World) (o : OpD) : Prop where
  e : (o.ea = none ∧ o.es = [] ∧ o.ec = 0) ∨ ∃ ad, o.ea = some ad ∧ ESl w (some ad) o.es ∧ (o.es.length : Int) ≤ 5864062014700
  dd : (o.da = none ∧ o.ds = [] ∧ o.dc = 0) ∨ ∃ ad, o.da = some ad ∧ BSl w ad o.ds ∧ (o.ds.length : Int) ≤ 140737488351232 ∧ (∀ x ∈ o.ds, x < 256) ∧ o.ds.length ≤ o.dc
theorem ESl.keepX {ex : Nat → Prop} {w w' : World} {sa : Option Addr} {es : List Ed} (h : ESl w sa es) (k : Keep ex w w') (hn : ∀ bb bo, bb < w.heap.size → sa = Option.some ⟨bb, bo, none⟩ → ¬ ex bb) : ESl w' sa es :=
  h.imp id (fun ⟨bb, bo, h1, h2, h3⟩ => ⟨bb, bo, h1, Nat.lt_of_lt_of_le h2 k.size, h3.keep k h2 (hn bb bo h2 h1)⟩)
theorem BSl.keepX {ex : Nat → Prop} {w w' : World} {ad : Addr} {l : List Nat} (h : BSl w ad l) (k : Keep ex w w') (hn : ∀ bb bo, bb < w.heap.size → ad = ⟨bb, bo, none⟩ → ¬ ex bb) : BSl w' ad l :=
  h.imp id (fun ⟨bb, bo, h1, h2, h3⟩ => ⟨bb, bo, h1, Nat.lt_of_lt_of_le h2 k.size, h3.keep k h2 (hn bb bo h2 h1)⟩)
theorem OpD.ok.keep {ex : Nat → Prop} {w w' : World} {o : OpD} (h : o.ok w) (k : Keep ex w w') (hn : (∀ bb bo, bb < w.heap.size → o.ea = some ⟨bb, bo, none⟩ → ¬ ex bb) ∧ (∀ bb bo, bb < w.heap.size → o.da = some ⟨bb, bo, none⟩ → ¬ ex bb)) : o.ok w' :=
  ⟨h.e.imp id (fun ⟨ad, h1, h2, h3⟩ => ⟨ad, h1, h2.keepX k (fun bb bo hb e => hn.1 bb bo hb (h1.trans e)), h3⟩),
   h.dd.imp id (fun ⟨ad, h1, h2, h3⟩ => ⟨ad, h1, h2.keepX k (fun bb bo hb e => hn.2 bb bo hb (by rw [h1, e])), h3⟩)⟩
abbrev OpD.v (o : OpD) : Value := opv o.kd o.oc o.oa o.ob (.slice o.ea o.es.length o.ec) o.d o.s o.k o.l o.n o.f (.slice o.da o.ds.length o.dc)

theorem plain_any (W0 w : World) (yb : Nat) (p0 p1 : Value) (na nb : Nat) (hB : Book W0 w yb p0 p1 na nb) (o : OpD) (hok : o.ok w) (h1 : 1 ≤ o.kd) (h3 : o.kd ≤ 3) (hna : (na : Int) < 1099511627776) (hnb : (nb : Int) < 1099511627776) :
    Calls Tryz.prog 40 #[.pointer (some ⟨yb, 0, none⟩), o.v] w fun e w' => e = .returned (.bool true) ∧ ∃ na' nb', na' ≤ na + 1 ∧ nb' ≤ nb + 1 ∧ Book W0 w' yb p0 p1 na' nb' := by
  obtain ⟨kd, oc, oa, ob, ea, es, ec, d, s, k, l, n, f, da, ds, dc⟩ := o
  simp only at h1 h3
  obtain rfl | rfl | rfl : kd = 1 ∨ kd = 2 ∨ kd = 3 := by omega
  · rcases hok.e with ⟨e1, e2, e3⟩ | ⟨ad, e1, e2, e4⟩
    · simp only at e1 e2 e3
      subst e1 e2 e3
      refine (plain_chk_nil W0 w yb p0 p1 na nb hB oc oa ob (.slice none 0 0) d s k l n f _ rfl rfl rfl).mono ?_
      rintro e w' ⟨h, hb⟩
      exact ⟨h, na, nb, by omega, by omega, hb⟩
    · simp only at e1 e2 e4
      subst e1
      refine (plain_chk_row W0 w yb p0 p1 na nb hB oc oa ob _ d s k l n f _ rfl rfl ad ec es rfl e2 e4 hnb).mono ?_
      rintro e w' ⟨h, hb⟩
      exact ⟨h, na, nb + 1, by omega, by omega, hb⟩
  · by_cases he : encErr d s k l n f = 0
    · refine (plain_enc_ok W0 w yb p0 p1 na nb hB oc oa ob _ d s k l n f _ rfl rfl he hna).mono ?_
      rintro e w' ⟨h, hb⟩
      exact ⟨h, na + 1, nb, by omega, by omega, hb⟩
    · refine (plain_enc_err W0 w yb p0 p1 na nb hB oc oa ob _ d s k l n f _ rfl rfl he hna).mono ?_
      rintro e w' ⟨h, hb⟩
      exact ⟨h, na + 1, nb, by omega, by omega, hb⟩
  · rcases hok.dd with ⟨e1, e2, e3⟩ | ⟨ad, e1, e2, e4, e5, e6⟩
    · simp only at e1 e2 e3
      subst e1 e2 e3
      refine (plain_dec_nil W0 w yb p0 p1 na nb hB oc oa ob _ d s k l n f (.slice none 0 0) rfl rfl rfl hna).mono ?_
      rintro e w' ⟨h, hb⟩
      exact ⟨h, na, nb, by omega, by omega, hb⟩
    · simp only at e1 e2 e4 e5 e6
      subst e1
      refine (plain_dec_row W0 w yb p0 p1 na nb hB oc oa ob _ d s k l n f _ rfl rfl ad dc ds rfl e2 e6 e4 e5 hna).mono ?_
      rintro e w' ⟨h, hb⟩
      exact ⟨h, na + 1, nb, by omega, by omega, hb⟩

set_option maxRecDepth 100000 in
set_option maxHeartbeats 2000000 in
theorem step_any (W0 w : World) (yb : Nat) (p0 p1 : Value) (na nb : Nat) (hB : Book W0 w yb p0 p1 na nb) (o : OpD) (hok : o.ok w) (h3 : o.kd ≤ 3) (hna : (na : Int) < 1099511627776) (hnb : (nb : Int) < 1099511627776) :
    Calls Tryz.prog 27 #[.pointer (some ⟨yb, 0, none⟩), o.v] w fun e w' => e = .returned (.bool true) ∧ ∃ na' nb', na' ≤ na + 1 ∧ nb' ≤ nb + 1 ∧ Book W0 w' yb p0 p1 na' nb' := by
  have HB : Unit → Book W0 w yb p0 p1 na nb := fun _ => hB
  by_cases h1 : o.kd < 1
  · obtain ⟨kd, oc, oa, ob, ea, es, ec, d, s, k, l, n, f, da, ds, dc⟩ := o
    clear hok hB hna hnb
    simp only at h1 h3
    go_enter Tryz.func27, Tryz.ntmps27
    go_wp2
    go_ret
    exact ⟨rfl, na, nb, by omega, by omega, (HB ()).same ((Keep.refl nil w).alloc _)⟩
  · have HP : Unit → ∀ w1, Keep nil w w1 → Calls Tryz.prog 40 #[.pointer (some ⟨yb, 0, none⟩), o.v] w1 fun e w' => e = .returned (.bool true) ∧ ∃ na' nb', na' ≤ na + 1 ∧ nb' ≤ nb + 1 ∧ Book W0 w' yb p0 p1 na' nb' := fun _ w1 k1 =>
      plain_any W0 w1 yb p0 p1 na nb (hB.same k1) o (hok.keep k1 ⟨fun _ _ _ _ e => e, fun _ _ _ _ e => e⟩) (by omega) h3 hna hnb
    obtain ⟨kd, oc, oa, ob, ea, es, ec, d, s, k, l, n, f, da, ds, dc⟩ := o
    clear hok hB hna hnb
    simp only at h1 h3
    have h1' : 1 ≤ kd := by omega
    clear h1
    simp only [OpD.v] at HP
    go_enter Tryz.func27, Tryz.ntmps27
    go_wp2_with fail
    refine Calls.mono (HP () _ ((Keep.refl nil w).alloc _)) ?_
    rintro e w2 ⟨rfl, na', nb', ha, hb, hbk⟩
    have HK : Unit → na' ≤ na + 1 ∧ nb' ≤ nb + 1 ∧ Book W0 w2 yb p0 p1 na' nb' := fun _ => ⟨ha, hb, hbk⟩
    clear ha hb hbk HP
    go_wp2
    go_ret
    exact ⟨rfl, na', nb', (HK ()).1, (HK ()).2.1, (HK ()).2.2⟩
end Go.Proofs.YtlfijfodklhplaaGreat
/- Scripts as they lie in memory; the head. -/
namespace Go.Proofs.YtlfijfodklhplaaGreat
open Go.RowKit
set_option linter.unusedVariables false
set_option linter.unusedSimpArgs false

def OpD.cells (o : OpD) : List Value := [.int .i64 o.kd, .int .i64 o.oc, .int .i64 o.oa, .int .i64 o.ob, .slice o.ea o.es.length o.ec, .bool o.d, .int .i64 o.s, .int .i64 o.k, .int .i64 o.l, .int .i64 o.n, .bool o.f, .slice o.da o.ds.length o.dc]
def ocells (l : List OpD) : List Value := l.flatMap OpD.cells
def ORow (w : World) (b o : Nat) (l : List OpD) : Prop := ∀ j u, (ocells l)[j]? = some u → w.cell? ⟨b, o + j, none⟩ = some u
theorem ORow.keep {ex : Nat → Prop} {w w' : World} {b o : Nat} {l : List OpD} (h : ORow w b o l) (k : Keep ex w w') (hb : b < w.heap.size) (hn : ¬ ex b) : ORow w' b o l := fun j u hu => (k.cell b (o + j) hb hn).trans (h j u hu)
theorem ocells_get (l : List OpD) : ∀ (k : Nat) (o : OpD), l[k]? = some o → ∀ j u, o.cells[j]? = some u → (ocells l)[k * 12 + j]? = some u := by
  induction l with
  | nil => intro k o h; simp at h
  | cons x t ih =>
    intro k o h j u hu
    have hc : ocells (x :: t) = x.cells ++ ocells t := by simp [ocells]
    have hl : x.cells.length = 12 := rfl
    have hj : j < 12 := (List.getElem?_eq_some_iff.1 hu).1
    rw [hc]
    cases k with
    | zero =>
      simp at h
      subst h
      rw [Nat.zero_mul, Nat.zero_add, List.getElem?_append_left (by omega)]
      exact hu
    | succ k =>
      rw [List.getElem?_cons_succ] at h
      rw [List.getElem?_append_right (by omega), hl, show (k + 1) * 12 + j - 12 = k * 12 + j by omega]
      exact ih k o h j u hu
theorem orow_get {w : World} {b o : Nat} {l : List OpD} (h : ORow w b o l) (k : Nat) (x : OpD) (hk : l[k]? = some x) (j : Nat) (u : Value) (hu : x.cells[j]? = some u) : w.cell? ⟨b, o + k * 12 + j, none⟩ = some u := by
  rw [Nat.add_assoc]
  exact h _ _ (ocells_get l k x hk j u hu)

def e3 : List Ed := [⟨0, 1, 5⟩, ⟨2, 1, 3⟩, ⟨0, 2, 9⟩]
/-- A step without lists. -/
def op0 (kd oc oa ob : Int) : OpD := ⟨kd, oc, oa, ob, none, [], 0, false, 0, 0, 0, 0, false, none, [], 0⟩
def hdl (eb : Nat) : List OpD :=
  [⟨1, 0, 3, 0, some ⟨eb, 0, none⟩, e3, 3, false, 0, 0, 0, 0, false, none, [], 0⟩, ⟨2, 0, 0, 0, none, [], 0, true, 7, 3, 2, 300, false, none, [], 0⟩, op0 4 0 0 0, op0 4 0 0 0, ⟨5, 0, 0, 0, none, [], 0, true, 7, 3, 2, 300, false, none, [], 0⟩,
   op0 10 0 0 1, op0 10 1 0 0, ⟨11, 0, 3, 0, some ⟨eb, 0, none⟩, e3, 3, false, 0, 0, 0, 0, false, none, [], 0⟩, op0 12 0 1 0, op0 21 0 0 3, op0 19 0 2 0, op0 13 0 0 0]
theorem hdl_ok {w : World} {eb : Nat} (h1 : eb < w.heap.size) (h2 : ERow w eb 0 e3) : ∀ o ∈ hdl eb, o.ok w := by
  intro o ho
  have hd : o.da = none ∧ o.ds = [] ∧ o.dc = 0 := by
    simp only [hdl, List.mem_cons, List.not_mem_nil, or_false] at ho
    rcases ho with rfl | rfl | rfl | rfl | rfl | rfl | rfl | rfl | rfl | rfl | rfl | rfl <;> exact ⟨rfl, rfl, rfl⟩
  have he : (o.ea = none ∧ o.es = [] ∧ o.ec = 0) ∨ (o.ea = some ⟨eb, 0, none⟩ ∧ o.es = e3) := by
    simp only [hdl, List.mem_cons, List.not_mem_nil, or_false] at ho
    rcases ho with rfl | rfl | rfl | rfl | rfl | rfl | rfl | rfl | rfl | rfl | rfl | rfl <;> first | exact Or.inl ⟨rfl, rfl, rfl⟩ | exact Or.inr ⟨rfl, rfl⟩
  refine ⟨he.imp id (fun ⟨a, b⟩ => ⟨⟨eb, 0, none⟩, a, Or.inr ⟨eb, 0, rfl, h1, by rw [b]; exact h2⟩, by rw [b]; decide⟩), Or.inl hd⟩

theorem hdl_blk {eb : Nat} : ∀ o ∈ hdl eb, (∀ bb bo, o.ea = some ⟨bb, bo, none⟩ → bb = eb) ∧ (∀ bb bo, o.da = some ⟨bb, bo, none⟩ → False) := by
  intro o ho
  simp only [hdl, List.mem_cons, List.not_mem_nil, or_false] at ho
  rcases ho with rfl | rfl | rfl | rfl | rfl | rfl | rfl | rfl | rfl | rfl | rfl | rfl <;> refine ⟨fun bb bo e => ?_, fun bb bo e => ?_⟩ <;> simp [op0] at e <;> first | omega | exact e.1.symm
theorem orow_new (W : World) (cs : Array Value) (ty : TypeId) (l : List OpD) (hb : Nat) (hs : hb = W.heap.size) (h : cs = (ocells l).toArray) : ORow (W.alloc (.cells cs ty)) hb 0 l := by
  intro j u hu
  subst hs h
  have := (Blk.new W (ocells l).toArray ty).cell j
  rw [Nat.zero_add, this]
  simpa using hu
theorem erow_new (W : World) (cs : Array Value) (ty : TypeId) (l : List Ed) (hb : Nat) (hs : hb = W.heap.size) (h : cs = (ecells l).toArray) : ERow (W.alloc (.cells cs ty)) hb 0 l := by
  intro j u hu
  subst hs h
  have := (Blk.new W (ecells l).toArray ty).cell j
  rw [Nat.zero_add, this]
  simpa using hu
theorem alloc_size (W : World) (o : Obj) : (W.alloc o).heap.size = W.heap.size + 1 := by simp

set_option maxRecDepth 100000 in
set_option maxHeartbeats 2000000 in
theorem head_any (w : World) : Calls Tryz.prog 26 #[] w fun r w' => ∃ hb eb, r = .returned (.slice (some ⟨hb, 0, none⟩) 12 12) ∧ w.heap.size ≤ hb ∧ hb < w'.heap.size ∧ w.heap.size ≤ eb ∧ eb < w'.heap.size ∧ ORow w' hb 0 (hdl eb) ∧ ERow w' eb 0 e3 ∧ Keep nil w w' := by
  go_enter Tryz.func26, Tryz.ntmps26
  go_wp2
  go_ret
  refine ⟨w.heap.size + 1 + 1, w.heap.size + 1, rfl, by omega, ?_, by omega, ?_, ?_, ?_, ?_⟩
  · simp only [alloc_size]; omega
  · simp only [alloc_size]; omega
  · exact orow_new _ _ _ _ _ (by simp only [alloc_size]) rfl
  · exact (erow_new _ _ _ _ _ (by simp only [alloc_size]) rfl).keep ((Keep.refl nil _).alloc _) (by simp only [alloc_size]; omega) (fun e => e)
  · exact (((Keep.refl nil w).alloc _).alloc _).alloc _
end Go.Proofs.YtlfijfodklhplaaGreat
