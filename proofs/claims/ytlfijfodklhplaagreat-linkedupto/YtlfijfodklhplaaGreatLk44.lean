import Derived.Test.YtlfijfodklhplaaGreatLk42
import Derived.Test.YtlfijfodklhplaaGreatLk41
import Derived.Test.YtlfijfodklhplaaGreatLk40
import Derived.Test.YtlfijfodklhplaaGreatLk35
import Derived.Test.YtlfijfodklhplaaGreatLk08
import Derived.Test.YtlfijfodklhplaaGreatLk16
import Derived.Test.YtlfijfodklhplaaGreatLk18
import Derived.Test.YtlfijfodklhplaaGreatLk24
import Derived.Test.YtlfijfodklhplaaGreatLk43
import Derived.Deep.DeepCutAuto
import Derived.Deep.CutBlock
import Derived.Deep.RegionHeld3
import Derived.StillTailTactics
/- Walk of the book's lists. -/
namespace Go.Proofs.YtlfijfodklhplaaGreat
open Go.RowKit
set_option linter.unusedVariables false
set_option linter.unusedSimpArgs false

theorem rv_wide {w : World} {e : TypeId} {a : Option Addr} {n c : Nat} {vs : List Value} (h : RV w e 1 a n c vs) (n' : Nat) (hn : n' ≤ c) : ∃ vs', RV w e 1 a n' c vs' := by
  obtain ⟨h1, h2, h3⟩ := h
  rcases h3 with ⟨e1, e2, e3⟩ | ⟨g, o, rfl, pre, sp, hb, hp, hc⟩
  · have : n' = 0 := by omega
    subst this
    exact ⟨[], by simp, by omega, Or.inl ⟨e1, rfl, e3⟩⟩
  · refine ⟨(vs ++ sp).take n', by simp; omega, hn, Or.inr ⟨g, o, rfl, pre, (vs ++ sp).drop n', ?_, hp, by simp; omega⟩⟩
    rw [List.append_assoc, List.take_append_drop, ← List.append_assoc]
    exact hb
theorem ok_after {w w' : World} {la : Option Addr} {nl lc : Nat} {vs : List Value} {t : Ls} (hw : RV w' 56 1 la nl lc vs) (h : t.ok w) (hd : (t.a = la ∧ t.c = lc) ∨ (∀ g, inB t.a g → ¬ inB la g)) (k : Keep (inB la) w w') : t.ok w' := by
  rcases hd with ⟨e1, e2⟩ | hd
  · obtain ⟨_, hv⟩ := h
    obtain ⟨vs', hv'⟩ := rv_wide hw t.n (by rw [← e2]; exact hv.2.1)
    exact ⟨vs', by rw [e1, e2]; exact hv'⟩
  · exact h.keep k hd
/-- Behind the making of the four lists, ahead of the writing. -/
structure MidL (w wx : World) (la : Option Addr) (zb nl n0 : Nat) (S : List Ls) : Prop where
  keep : Keep (inB la) w wx
  blk : Blk wx n0 (S.map Ls.val).toArray 105
  four : S.length = 4
  ok : ∀ t ∈ S, t.ok wx
  sl : ∀ t ∈ S, t.n ≤ nl + 3
  new : ∀ t ∈ S, ∀ b, inB t.a b → inB la b ∨ w.heap.size ≤ b
  ne : ∀ t ∈ S, ∀ b, inB t.a b → b ≠ n0 ∧ b ≠ zb
  far : w.heap.size ≤ n0
  apart : n0 ≠ zb
theorem midL_of {w W1 w1 w2 w3 : World} {O0 O1 O2 O3 : Obj} {la a1 a2 a3 : Option Addr} {zb nl lc c1 c2 c3 : Nat} {vs v1 v2 v3 : List Value} (hk : Keep nil w W1) (hs : W1.heap.size = w.heap.size + 1) (hz : zb = w.heap.size) (h0 : RV W1 56 1 la nl lc vs) (hl0 : ∀ g, inB la g → g < w.heap.size)
    (h1 : RV w1 56 1 a1 (nl + 1) c1 (vs ++ v1)) (hd1 : (a1 = la ∧ c1 = lc) ∨ (a1 = some ⟨(W1.alloc O0).heap.size, 0, none⟩ ∧ Keep nil (W1.alloc O0) w1)) (k1 : Keep (inB la) (W1.alloc O0) w1)
    (h2 : RV w2 56 1 a2 (nl + 2) c2 (vs ++ v2)) (hd2 : (a2 = la ∧ c2 = lc) ∨ (a2 = some ⟨(w1.alloc O1).heap.size, 0, none⟩ ∧ Keep nil (w1.alloc O1) w2)) (k2 : Keep (inB la) (w1.alloc O1) w2)
    (h3 : RV w3 56 1 a3 (nl + 3) c3 (vs ++ v3)) (hd3 : (a3 = la ∧ c3 = lc) ∨ (a3 = some ⟨(w2.alloc O2).heap.size, 0, none⟩ ∧ Keep nil (w2.alloc O2) w3)) (k3 : Keep (inB la) (w2.alloc O2) w3)
    (hO : O3 = .cells #[.slice la nl lc, .slice a1 (nl + 1) c1, .slice a2 (nl + 2) c2, .slice a3 (nl + 3) c3] 105) :
    MidL w (w3.alloc O3) la zb nl w3.heap.size [⟨la, nl, lc⟩, ⟨a1, nl + 1, c1⟩, ⟨a2, nl + 2, c2⟩, ⟨a3, nl + 3, c3⟩] := by
  subst hO
  have s1 := k1.size
  have s2 := k2.size
  have s3 := k3.size
  simp only [World.size_alloc] at s1 s2 s3
  have hA := rv_after (h0.alloc O0) h1 hd1
  have hB := rv_after (hA.alloc O1) h2 hd2
  have hC := rv_after (hB.alloc O2) h3 hd3
  have e1 : (a1 = la ∧ c1 = lc) ∨ (∀ g, inB a1 g → w.heap.size < g) := hd1.imp id (fun ⟨e, _⟩ g hg => by rw [e] at hg; have := inB_some.1 hg; simp only [World.size_alloc] at this; omega)
  have e2 : (a2 = la ∧ c2 = lc) ∨ (∀ g, inB a2 g → w.heap.size < g) := hd2.imp id (fun ⟨e, _⟩ g hg => by rw [e] at hg; have := inB_some.1 hg; simp only [World.size_alloc] at this; omega)
  have e3 : (a3 = la ∧ c3 = lc) ∨ (∀ g, inB a3 g → w.heap.size < g) := hd3.imp id (fun ⟨e, _⟩ g hg => by rw [e] at hg; have := inB_some.1 hg; simp only [World.size_alloc] at this; omega)
  have far : ∀ {a : Option Addr} {c : Nat}, (a = la ∧ c = lc) ∨ (∀ g, inB a g → w.heap.size < g) → (a = la ∧ c = lc) ∨ (∀ g, inB a g → ¬ inB la g) := fun h => h.imp id (fun h g hg hl => by have := h g hg; have := hl0 g hl; omega)
  have k2' : Keep (inB la) w1 w2 := ((Keep.refl _ w1).alloc O1).trans k2
  have k3' : Keep (inB la) w2 w3 := ((Keep.refl _ w2).alloc O2).trans k3
  have kn : ∀ o, Keep nil w3 (w3.alloc o) := fun o => (Keep.refl nil w3).alloc o
  have r0 : Ls.ok w3 ⟨la, nl, lc⟩ := ⟨_, hC⟩
  have r1 : Ls.ok w3 ⟨a1, nl + 1, c1⟩ := ok_after hC (ok_after hB ⟨_, h1⟩ (far e1) k2') (far e1) k3'
  have r2 : Ls.ok w3 ⟨a2, nl + 2, c2⟩ := ok_after hC ⟨_, h2⟩ (far e2) k3'
  have r3 : Ls.ok w3 ⟨a3, nl + 3, c3⟩ := ⟨_, h3⟩
  have kw : Keep (inB la) w w3 := ((((hk.mono (ex' := inB la) (fun _ _ e => e.elim)).alloc O0).trans k1).trans k2').trans k3'
  have near : ∀ {a : Option Addr} {c : Nat}, (a = la ∧ c = lc) ∨ (∀ g, inB a g → w.heap.size < g) → ∀ b, inB a b → inB la b ∨ w.heap.size < b := fun h b hb => by
    rcases h with ⟨e, _⟩ | h
    · rw [e] at hb; exact Or.inl hb
    · exact Or.inr (h b hb)
  refine ⟨kw.alloc _, Blk.new _ _ _, rfl, fun t ht => ?_, fun t ht => ?_, fun t ht b hb => ?_, fun t ht b hb => ?_, by omega, by omega⟩
  · simp only [List.mem_cons, List.not_mem_nil, or_false] at ht
    rcases ht with rfl | rfl | rfl | rfl
    · exact r0.keep (kn _) (fun _ _ e => e)
    · exact r1.keep (kn _) (fun _ _ e => e)
    · exact r2.keep (kn _) (fun _ _ e => e)
    · exact r3.keep (kn _) (fun _ _ e => e)
  · simp only [List.mem_cons, List.not_mem_nil, or_false] at ht
    rcases ht with rfl | rfl | rfl | rfl <;> simp only <;> omega
  · simp only [List.mem_cons, List.not_mem_nil, or_false] at ht
    rcases ht with rfl | rfl | rfl | rfl <;> simp only at hb
    · exact Or.inl hb
    · exact (near e1 b hb).imp id (fun h => by omega)
    · exact (near e2 b hb).imp id (fun h => by omega)
    · exact (near e3 b hb).imp id (fun h => by omega)
  · simp only [List.mem_cons, List.not_mem_nil, or_false] at ht
    have key : ∀ {a : Option Addr}, (∀ g, inB a g → g < w3.heap.size) → (inB la b ∨ w.heap.size < b) → inB a b → b ≠ w3.heap.size ∧ b ≠ zb := fun hl h hb => by
      have h1 := hl b hb
      rcases h with h | h
      · have := hl0 b h; omega
      · omega
    rcases ht with rfl | rfl | rfl | rfl <;> simp only at hb
    · exact key r0.lt (Or.inl hb) hb
    · exact key r1.lt (near e1 b hb) hb
    · exact key r2.lt (near e2 b hb) hb
    · exact key r3.lt (near e3 b hb) hb

/-- What stands behind the writing, once the row of piles has one more. -/
theorem lists_end {w wr w4 : World} {G : Nat → Prop} {yb nb ab nf zb zc : Nat} {f0 : Option Addr} {S : List Ls} {O : Obj} {c' : Nat} {V : List Value} {p0 p1 p2 p3 p4 p5 p6 p7 : Value} {s : ByteArray}
    (byb : Blk wr yb #[p0, p1, p2, p3, p4, p5, p6, p7] 73) (hyg : ¬ G yb) (hyl : yb < w.heap.size) (k1 : Keep G w wr) (bnb : Blk wr nb (S.map Ls.val).toArray 105) (hnb : w.heap.size ≤ nb) (h4 : S.length = 4) (hzr : Row wr zb 0 (bl s)) (hzl : zb < wr.heap.size) (hzw : w.heap.size ≤ zb)
    (hsl : ∀ t ∈ S, (t.n : Int) ≤ 140737488351310) (hat : ∀ t ∈ S, (t.n = 0 ∨ ∃ g o, t.a = some ⟨g, o, none⟩)) (hmk : ∀ t ∈ S, Filled wr t.a t.n (.slice (some ⟨zb, 0, none⟩) (bl s).length zc)) (hbl : ∀ t ∈ S, ∀ b, inB t.a b → b < wr.heap.size) (hnew : ∀ t ∈ S, ∀ b, inB t.a b → G b ∨ w.heap.size ≤ b)
    (ha : ∀ b, f0 = some ⟨b, 0, none⟩ → ¬ G b ∧ b ≠ yb ∧ b < w.heap.size) (hab : f0 = some ⟨ab, 0, none⟩ ∨ ab = wr.heap.size + 1) (hk4 : Keep (fun b => f0 = some ⟨b, 0, none⟩) (wr.alloc O) w4) (hb4 : VBuf w4 ab 166 1 V c') :
    Blk (w4.setCell ⟨yb, 7, none⟩ (.slice (some ⟨ab, 0, none⟩) (nf + 1) c')) yb #[p0, p1, p2, p3, p4, p5, p6, .slice (some ⟨ab, 0, none⟩) (nf + 1) c'] 73 ∧
    VBuf (w4.setCell ⟨yb, 7, none⟩ (.slice (some ⟨ab, 0, none⟩) (nf + 1) c')) ab 166 1 V c' ∧ (f0 = some ⟨ab, 0, none⟩ ∨ w.heap.size ≤ ab) ∧
    Blk (w4.setCell ⟨yb, 7, none⟩ (.slice (some ⟨ab, 0, none⟩) (nf + 1) c')) nb (S.map Ls.val).toArray 105 ∧ w.heap.size ≤ nb ∧ nb ≠ ab ∧ S.length = 4 ∧ w.heap.size ≤ zb ∧ zb ≠ ab ∧ zb < (w4.setCell ⟨yb, 7, none⟩ (.slice (some ⟨ab, 0, none⟩) (nf + 1) c')).heap.size ∧ Row (w4.setCell ⟨yb, 7, none⟩ (.slice (some ⟨ab, 0, none⟩) (nf + 1) c')) zb 0 (bl s) ∧
    (∀ t ∈ S, (t.n = 0 ∨ ∃ g o, t.a = some ⟨g, o, none⟩) ∧ Filled (w4.setCell ⟨yb, 7, none⟩ (.slice (some ⟨ab, 0, none⟩) (nf + 1) c')) t.a t.n (.slice (some ⟨zb, 0, none⟩) (bl s).length zc) ∧ (t.n : Int) ≤ 140737488351310 ∧ ∀ b, inB t.a b → (G b ∨ w.heap.size ≤ b) ∧ b ≠ ab ∧ b < (w4.setCell ⟨yb, 7, none⟩ (.slice (some ⟨ab, 0, none⟩) (nf + 1) c')).heap.size) ∧
    Keep (fun b => G b ∨ b = yb ∨ f0 = some ⟨b, 0, none⟩) w (w4.setCell ⟨yb, 7, none⟩ (.slice (some ⟨ab, 0, none⟩) (nf + 1) c')) := by
  have hz1 := k1.size
  have hz4 := hk4.size
  simp only [World.size_alloc] at hz4
  have hnl := bnb.lt
  have hya : ¬ f0 = some ⟨yb, 0, none⟩ := fun e => (ha yb e).2.1 rfl
  have haby : ab ≠ yb := by
    rcases hab with e | e
    · exact (ha ab e).2.1
    · omega
  have ks : Keep (only yb) w4 (w4.setCell ⟨yb, 7, none⟩ (.slice (some ⟨ab, 0, none⟩) (nf + 1) c')) := (Keep.refl (only yb) w4).setCell (p := ⟨yb, 7, none⟩) (fun _ => rfl) _
  have kw : Keep (fun b => f0 = some ⟨b, 0, none⟩) wr w4 := ((Keep.refl _ wr).alloc O).trans hk4
  have hsz := kw.size
  have new_ab : ∀ b, w.heap.size ≤ b → b < wr.heap.size → b ≠ ab := fun b h1 h2 => by
    rcases hab with e | e
    · have := (ha ab e).2.2; omega
    · omega
  have new_f0 : ∀ b, w.heap.size ≤ b → ¬ f0 = some ⟨b, 0, none⟩ := fun b h1 e => by have := (ha b e).2.2; omega
  refine ⟨(byb.keep kw hya).set 7 _, hb4.keep ks (fun e => haby e), ?_, (bnb.keep kw (new_f0 nb hnb)).keep ks (fun e => by simp only [only] at e; omega), hnb, new_ab nb hnb hnl, h4, hzw, new_ab zb hzw hzl, by simp only [World.size_setCell]; omega, (hzr.keep kw hzl (new_f0 zb hzw)).keep ks (by omega) (fun e => by simp only [only] at e; omega), fun t ht => ⟨hat t ht, ?_, hsl t ht, fun b hb => ⟨hnew t ht b hb, ?_, ?_⟩⟩, ?_⟩
  · rcases hab with e | e
    · exact Or.inl e
    · exact Or.inr (by omega)
  · refine ((hmk t ht).keep kw (fun g hg => ⟨hbl t ht g hg, fun e => ?_⟩)).keep ks (fun g hg => ⟨by have := hbl t ht g hg; omega, fun e => ?_⟩)
    · rcases hnew t ht g hg with h | h
      · exact (ha g e).1 h
      · have := (ha g e).2.2; omega
    · simp only [only] at e
      rcases hnew t ht g hg with h | h
      · exact hyg (e ▸ h)
      · omega
  · rcases hnew t ht b hb with h | h
    · rcases hab with e | e
      · intro e'; exact (ha ab e).1 (e' ▸ h)
      · have := hbl t ht b hb; omega
    · exact new_ab b h (hbl t ht b hb)
  · have := hbl t ht b hb
    simp only [World.size_setCell]
    omega
  · exact ((k1.mono (ex' := fun b => G b ∨ b = yb ∨ f0 = some ⟨b, 0, none⟩) (fun i hi e => Or.inl e)).trans (kw.mono (fun i hi e => Or.inr (Or.inr e)))).setCell (p := ⟨yb, 7, none⟩) (fun _ => Or.inr (Or.inl rfl)) _

set_option maxRecDepth 100000 in
set_option maxHeartbeats 4000000 in
theorem lists_row (yb : Nat) (la : Option Addr) (nl lc : Nat) (vs : List Value) (f0 : Option Addr) (nf cf : Nat) (VF : List Value) (p0 p1 p2 p3 p4 p5 p6 : Value) (w : World) (hyb : Blk w yb #[p0, p1, p2, p3, p4, p5, p6, .slice f0 nf cf] 73) (hyg : ¬ inB la yb)
    (hra : RowIs w f0 nf cf 166 VF (fun b => inB la b ∨ b = yb)) (hb : RV w 56 1 la nl lc vs) (hlen : (nl : Int) ≤ 5864062014000) (hnf : (nf : Int) < 1099511627776) :
    Calls Tryz.prog 137 #[.pointer (some ⟨yb, 2, none⟩), .slice la nl lc] w fun e w' =>
      e = .returned (.tuple #[]) ∧ BkL (inB la) w w' yb nf f0 VF p0 p1 p2 p3 p4 p5 p6 := by
  have hy := hyb.cell 7
  simp at hy
  have hyl := hyb.lt
  have HYB : Unit → Blk w yb #[p0, p1, p2, p3, p4, p5, p6, .slice f0 nf cf] 73 ∧ ¬ inB la yb := fun _ => ⟨hyb, hyg⟩
  have HRA : Unit → RowIs w f0 nf cf 166 VF (fun b => inB la b ∨ b = yb) := fun _ => hra
  have HN : Unit → (nf : Int) < 1099511627776 ∧ (nl : Int) ≤ 5864062014000 ∧ RV w 56 1 la nl lc vs := fun _ => ⟨hnf, hlen, hb⟩
  obtain ⟨s, hs⟩ : ∃ s, s = pil ⟨#[80]⟩ nf := ⟨_, rfl⟩
  have HS : Unit → s = pil ⟨#[80]⟩ nf := fun _ => hs
  have HP : Unit → ∀ w, Calls Tryz.prog 100 #[.int .i64 (nf : Int)] w fun r w' => r = .returned (.string s) ∧ w = w' := fun _ w => by rw [hs]; exact (pile_any nf w hnf).mono (fun r w' h => ⟨h.1, h.2.symm⟩)
  obtain ⟨zc, W1, hcv, hzr, hk1, hz1, hzc⟩ := bytes_conv w s
  obtain ⟨zb, hzb⟩ : ∃ zb, zb = w.heap.size := ⟨_, rfl⟩
  rw [← hzb] at hcv hzr
  have hrv1 := hb.keep hk1 (fun _ _ x => x)
  have H1 : Unit → Row W1 zb 0 (bl s) ∧ Keep nil w W1 ∧ W1.heap.size = w.heap.size + 1 ∧ zb = w.heap.size := fun _ => ⟨hzr, hk1, hz1, hzb⟩
  obtain ⟨zl, hzl⟩ : ∃ zl, zl = (bl s).length := ⟨_, rfl⟩
  rw [← hzl] at hcv
  have HZL : Unit → zl = (bl s).length := fun _ => hzl
  have hlI : (nl : Int) ≤ 5864062014000 := hlen
  clear hyb hra hnf hb hlen hyg hs hzr hk1 hz1 hzc hzb hzl
  go_enter Tryz.func137, Tryz.ntmps137
  go_wp2_with fail
  refine (HP () _).mono ?_
  rintro e w' ⟨rfl, rfl⟩
  clear HP hy
  go_wp2_with (first
    | (at_builtin; refine wpList_append_rvS _ rfl (.tmp 18) (.tmp 20) 105 rfl 56 (.slice none 0 0) 1 24 Tryz.underlying105 list_info rfl la nl lc rfl vs (hrv1.alloc _) ⟨W1.heap.size, 0, none⟩ 1 1 (by omega) rfl [.slice (some ⟨zb, 0, none⟩) zl zc] rfl (cells_list W1 [.slice (some ⟨zb, 0, none⟩) zl zc] 56 _ rfl) (by simp [Value.oneCell']) (by omega) (by omega) ?_; intro a1 c1 w1 hb1 hd1 hk1)
    | (at_builtin; refine wpList_append_rvS _ rfl (.tmp 22) (.tmp 25) 105 rfl 56 (.slice none 0 0) 1 24 Tryz.underlying105 list_info rfl la nl lc rfl vs ((rv_after (hrv1.alloc _) hb1 hd1).alloc _) ⟨w1.heap.size, 0, none⟩ 2 2 (by omega) rfl [.slice (some ⟨zb, 0, none⟩) zl zc, .slice (some ⟨zb, 0, none⟩) zl zc] rfl (cells_list w1 [.slice (some ⟨zb, 0, none⟩) zl zc, .slice (some ⟨zb, 0, none⟩) zl zc] 56 _ rfl) (by simp [Value.oneCell']) (by omega) (by omega) ?_; intro a2 c2 w2 hb2 hd2 hk2)
    | (at_builtin; refine wpList_append_rvS _ rfl (.tmp 27) (.tmp 31) 105 rfl 56 (.slice none 0 0) 1 24 Tryz.underlying105 list_info rfl la nl lc rfl vs ((rv_after ((rv_after (hrv1.alloc _) hb1 hd1).alloc _) hb2 hd2).alloc _) ⟨w2.heap.size, 0, none⟩ 3 3 (by omega) rfl [.slice (some ⟨zb, 0, none⟩) zl zc, .slice (some ⟨zb, 0, none⟩) zl zc, .slice (some ⟨zb, 0, none⟩) zl zc] rfl (cells_list w2 [.slice (some ⟨zb, 0, none⟩) zl zc, .slice (some ⟨zb, 0, none⟩) zl zc, .slice (some ⟨zb, 0, none⟩) zl zc] 56 _ rfl) (by simp [Value.oneCell']) (by omega) (by omega) ?_; intro a3 c3 w3 hb3 hd3 hk3))
  obtain ⟨S, hS⟩ : ∃ S : List Ls, S = [⟨la, nl, lc⟩, ⟨a1, nl + 1, c1⟩, ⟨a2, nl + 2, c2⟩, ⟨a3, nl + 3, c3⟩] := ⟨_, rfl⟩
  have hM := midL_of (H1 ()).2.1 (H1 ()).2.2.1 (H1 ()).2.2.2 hrv1 (HN ()).2.2.lt hb1 hd1 hk1 hb2 hd2 hk2 hb3 hd3 hk3 rfl
  rw [← hS] at hM
  obtain ⟨W4, hW4⟩ : ∃ W4, W4 = w3.alloc (.cells #[.slice la nl lc, .slice a1 (nl + 1) c1, .slice a2 (nl + 2) c2, .slice a3 (nl + 3) c3] 105) := ⟨_, rfl⟩
  rw [← hW4] at hM ⊢
  obtain ⟨n0, hn0⟩ : ∃ n0, n0 = w3.heap.size := ⟨_, rfl⟩
  rw [← hn0] at hM ⊢
  have HM : Unit → MidL w W4 la zb nl n0 S := fun _ => hM
  have k14 : Keep (inB la) W1 W4 := by
    rw [hW4]
    exact (((((Keep.refl _ W1).alloc _).trans hk1).trans (((Keep.refl _ w1).alloc _).trans hk2)).trans (((Keep.refl _ w2).alloc _).trans hk3)).alloc _
  have hz1 := (H1 ()).2.2.1
  have hz2 := (H1 ()).2.2.2
  have HZ4 : Unit → Row W4 zb 0 (bl s) ∧ zb < W4.heap.size ∧ w.heap.size ≤ zb := fun _ => ⟨(H1 ()).1.keep k14 (by omega) (fun x => by have := (HN ()).2.2.lt zb x; omega), by have := k14.size; omega, by omega⟩
  have HST0 : Unit → StL W4 W4 S (.slice (some ⟨zb, 0, none⟩) zl zc) 0 := fun _ => ⟨Keep.refl _ _, (HM ()).ok, fun j t hj => by omega⟩
  have HSL : Unit → ∀ t ∈ S, (t.n : Int) ≤ 5864062014003 := fun _ t ht => by have := (HM ()).sl t ht; have := (HN ()).2.1; omega
  clear hM hW4 hn0 hS hb1 hd1 hk1 hb2 hd2 hk2 hb3 hd3 hk3 hrv1 hcv k14 hz1 hz2 hlI
  go_loopw [7] (fun j wr => ∃ k : Nat, k ≤ 4 ∧ j = .int .i64 (k : Int) ∧ StL W4 wr S (.slice (some ⟨zb, 0, none⟩) zl zc) k) (fun j _ => 4 - (intOf j).toNat)
  case atStart => exact ⟨0, by omega, rfl, HST0 ()⟩
  case round =>
    obtain ⟨k, hk, rfl, hst⟩ := hrel
    clear HST0
    by_cases hk4 : k < 4
    · as_aux_lemma =>
      obtain ⟨t, ht⟩ : ∃ t, S[k]? = some t := ⟨S[k]'(by rw [(HM ()).four]; exact hk4), List.getElem?_eq_getElem _⟩
      have htm : t ∈ S := List.mem_of_getElem? ht
      have HC : Unit → ∀ wi, StL W4 wi S (.slice (some ⟨zb, 0, none⟩) zl zc) k → wi.cell? ⟨n0, k, none⟩ = some t.val ∧ n0 < wi.heap.size := fun _ wi hsi => by
        have hb := (HM ()).blk.keep hsi.keep (fun ⟨u, hu, hb⟩ => ((HM ()).ne u hu _ hb).1 rfl)
        have := hb.cell k
        rw [List.getElem?_toArray, List.getElem?_map, ht] at this
        exact ⟨this, hb.lt⟩
      have hkI : (k : Int) < 4 := by omega
      obtain ⟨hcell, hnl⟩ := HC () wr hst
      have hsl := HSL () t htm
      have HT : Unit → S[k]? = some t ∧ t ∈ S := fun _ => ⟨ht, htm⟩
      have HST : Unit → StL W4 wr S (.slice (some ⟨zb, 0, none⟩) zl zc) k := fun _ => hst
      obtain ⟨ta, tn, tc⟩ := t
      simp only [Ls.val] at hcell HC hsl
      clear hst ht htm
      go_wp2_with fail
      go_loopw [8] (fun p wi => ∃ q : Nat, q ≤ tn ∧ p = .int .i64 (q : Int) ∧ StL W4 wi S (.slice (some ⟨zb, 0, none⟩) zl zc) k ∧ Filled wi ta q (.slice (some ⟨zb, 0, none⟩) zl zc)) (fun p _ => tn - (intOf p).toNat)
      case atStart => exact ⟨0, by omega, rfl, HST (), fun g o _ p hp => by omega⟩
      case round =>
        obtain ⟨q, hq, rfl, hst, hmk⟩ := hrel
        clear hcell HST hnl
        obtain ⟨hcell, hnl⟩ := HC () wr hst
        by_cases hqt : q < tn
        · obtain ⟨g, o, u, hga, hgl, hu, hfz⟩ := (hst.ok _ (HT ()).2).at hqt
          simp only at hga
          subst hga
          have HS2 : Unit → StL W4 (wr.setCell ⟨g, o + q, none⟩ (.slice (some ⟨zb, 0, none⟩) zl zc)) S (.slice (some ⟨zb, 0, none⟩) zl zc) k ∧ Filled (wr.setCell ⟨g, o + q, none⟩ (.slice (some ⟨zb, 0, none⟩) zl zc)) (some ⟨g, o, none⟩) (q + 1) (.slice (some ⟨zb, 0, none⟩) zl zc) := fun _ => ⟨hst.put g (o + q) ⟨_, (HT ()).2, ⟨o, rfl⟩⟩, hmk.more u hu⟩
          have hqI : (q : Int) < (tn : Int) := by omega
          clear hst hmk
          go_wp2
          go_roundw
          case rel => exact ⟨q + 1, by omega, by go_num, (HS2 ()).1, (HS2 ()).2⟩
          case measure => simp [intOf]; omega
        · have eq : q = tn := by omega
          subst eq
          have HS2 : Unit → StL W4 wr S (.slice (some ⟨zb, 0, none⟩) zl zc) (k + 1) := fun _ => hst.next _ (HT ()).1 hmk
          clear hst hmk
          go_wp2
          go_roundw
          case rel => exact ⟨k + 1, by omega, by go_num, HS2 ()⟩
          case measure => simp [intOf]; omega
    · have e4 : k = 4 := by omega
      subst e4
      have hM := HM ()
      have hex : ∀ b, (∃ t ∈ S, inB t.a b) → inB la b ∨ w.heap.size ≤ b := fun b ⟨t, ht, hb⟩ => hM.new t ht b hb
      have k1 : Keep (inB la) w wr := hM.keep.trans' hst.keep (fun i hi e => by rcases hex i e with h | h; exact h; omega)
      have byb := (HYB ()).1.keep k1 (fun e => (HYB ()).2 e)
      have hcy := byb.cell 7
      have hfy := byb.frozen 7
      simp at hcy
      have hzr := k1.size
      have hkr := hst.keep.size
      have bnb := hM.blk.keep hst.keep (fun ⟨u, hu, hb⟩ => (hM.ne u hu _ hb).1 rfl)
      have hmk : ∀ t ∈ S, Filled wr t.a t.n (.slice (some ⟨zb, 0, none⟩) zl zc) := fun t ht => by
        obtain ⟨j, hj, e⟩ := List.getElem_of_mem ht
        exact hst.done j t (by have := hM.four; omega) (by rw [List.getElem?_eq_getElem hj, e])
      have hbl : ∀ t ∈ S, ∀ b, inB t.a b → b < wr.heap.size := fun t ht b hb => (hst.ok t ht).lt b hb
      have hat : ∀ t ∈ S, (t.n = 0 ∨ ∃ g o, t.a = some ⟨g, o, none⟩) := fun t ht => by
        obtain ⟨vs, _, _, h⟩ := hst.ok t ht
        exact h.imp (fun h => h.2.1) (fun ⟨g, o, h, _⟩ => ⟨g, o, h⟩)
      have hzz : Row wr zb 0 (bl s) ∧ zb < wr.heap.size := ⟨(HZ4 ()).1.keep hst.keep (HZ4 ()).2.1 (fun ⟨u, hu, hb⟩ => (hM.ne u hu _ hb).2 rfl), by have := (HZ4 ()).2.1; omega⟩
      have HF : Unit → Blk wr yb #[p0, p1, p2, p3, p4, p5, p6, .slice f0 nf cf] 73 ∧ Keep (inB la) w wr ∧ Blk wr n0 (S.map Ls.val).toArray 105 ∧ (∀ t ∈ S, Filled wr t.a t.n (.slice (some ⟨zb, 0, none⟩) zl zc)) ∧ (∀ t ∈ S, ∀ b, inB t.a b → b < wr.heap.size) ∧ Row wr zb 0 (bl s) ∧ zb < wr.heap.size ∧ (∀ t ∈ S, (t.n = 0 ∨ ∃ g o, t.a = some ⟨g, o, none⟩)) := fun _ => ⟨byb, k1, bnb, hmk, hbl, hzz.1, hzz.2, hat⟩
      have hyw : yb < wr.heap.size := byb.lt
      clear hst byb bnb hmk hbl hex k1 hM hzz hat
      rcases HRA () with ⟨rfl, rfl, rfl, rfl⟩ | ⟨ab, rfl, hva, hvl, hab⟩
      · clear HRA
        go_wp2_with (at_builtin; refine wpList_append_new _ rfl (.tmp 60) (.tmp 62) 69 rfl 166 (.slice none 0 0) 1 24 Tryz.underlying69 piles_info rfl rfl ⟨wr.heap.size, 0, none⟩ 1 1 (by omega) rfl [.slice (some ⟨n0, 0, none⟩) 4 4] rfl (cells_elist wr [.slice (some ⟨n0, 0, none⟩) 4 4] 166 _ rfl) (by omega) (by omega) ?_; intro c' w4 hb4 hc4 hk4; have hcy4 := ((((HF ()).1.old _).keep hk4 (fun e => e)).cell 7); have hfy4 := ((((HF ()).1.old _).keep hk4 (fun e => e)).frozen 7); simp at hcy4)
        go_end0
        obtain ⟨byb, k1, bnb, hmk, hbl, hz1, hz2, hat⟩ := HF ()
        rw [World.size_alloc] at hb4
        have hfin := lists_end (G := inB la) (zc := zc) (s := s) byb (HYB ()).2 hyl k1 bnb (HM ()).far (HM ()).four hz1 hz2 (HZ4 ()).2.2 (fun t ht => by have := HSL () t ht; omega) hat (by rw [← HZL ()]; exact hmk) hbl (HM ()).new (nf := 0) (f0 := none) (fun b e => by cases e) (Or.inr rfl) (hk4.mono (fun i hi e => e.elim)) hb4
        rw [HS ()] at hfin
        exact ⟨rfl, S, n0, wr.heap.size + 1, c', zb, zc, hfin⟩
      · have hvr := hva.keep (HF ()).2.1 (fun e => hab (Or.inl e))
        have habl := hva.lt
        have hna3 := (HN ()).1
        have HV : Unit → (VF.length = nf ∧ ¬ (inB la ab ∨ ab = yb)) := fun _ => ⟨hvl, hab⟩
        clear HRA hva hvl hab
        go_wp2_with (at_builtin; refine wpList_append_any _ rfl (.tmp 60) (.tmp 62) 69 rfl 166 (.slice none 0 0) 1 24 Tryz.underlying69 piles_info rfl ab nf cf rfl VF (by rw [(HV ()).1]; omega) (hvr.alloc _) ⟨wr.heap.size, 0, none⟩ 1 1 rfl [.slice (some ⟨n0, 0, none⟩) 4 4] rfl (cells_elist wr [.slice (some ⟨n0, 0, none⟩) 4 4] 166 _ rfl) (by intro u hu; simp at hu; subst hu; rfl) (by omega) (by omega) ?_; intro ab' c' w4 hb4 hc4 hd4 hk4; have hcy4 := ((((HF ()).1.old _).keep hk4 (fun e => (HV ()).2 (Or.inr e.symm))).cell 7); have hfy4 := ((((HF ()).1.old _).keep hk4 (fun e => (HV ()).2 (Or.inr e.symm))).frozen 7); simp at hcy4)
        go_end0
        obtain ⟨byb, k1, bnb, hmk, hbl, hz1, hz2, hat⟩ := HF ()
        have hfin := lists_end (G := inB la) (zc := zc) (s := s) (nf := nf) (f0 := some ⟨ab, 0, none⟩) byb (HYB ()).2 hyl k1 bnb (HM ()).far (HM ()).four hz1 hz2 (HZ4 ()).2.2 (fun t ht => by have := HSL () t ht; omega) hat (by rw [← HZL ()]; exact hmk) hbl (HM ()).new (fun b e => by cases e; exact ⟨fun e => (HV ()).2 (Or.inl e), fun e => (HV ()).2 (Or.inr e), habl⟩) (by rcases hd4 with ⟨rfl, _⟩ | ⟨rfl, _⟩; exact Or.inl rfl; exact Or.inr (World.size_alloc _ _)) (hk4.mono (fun i hi e => by simp only [only] at e; rw [e])) hb4
        rw [HS ()] at hfin
        exact ⟨rfl, S, n0, ab', c', zb, zc, hfin⟩
end Go.Proofs.YtlfijfodklhplaaGreat
/- Bytes that come at an end; how much an end may bring about. -/
namespace Go.Proofs.YtlfijfodklhplaaGreat
open Go.RowKit
set_option linter.unusedVariables false
set_option linter.unusedSimpArgs false

/-- A weight: what a frame that is handed on may bring about. -/
def fw (f : Fr.Frm) : Nat := if f.data then 6 else 3
def osum (l : List Fr.Frm) : Nat := (l.map fw).sum
def En.wt (e : En) : Nat := osum e.out + 6 * (e.wait.length - min e.wait.length 4)
theorem osum_append (l k : List Fr.Frm) : osum (l ++ k) = osum l + osum k := by simp [osum]
theorem osum_len (l : List Fr.Frm) : 3 * l.length ≤ osum l := by
  induction l with
  | nil => simp [osum]
  | cons f t ih =>
    have h1 : 3 ≤ fw f := by unfold fw; split <;> omega
    have h2 : osum (f :: t) = fw f + osum t := by simp [osum]
    rw [h2, List.length_cons]; omega
theorem osum_frames (n : Nat) (l : List Fr.Msg) : osum (En.frames n l) = 6 * l.length := by
  induction l generalizing n with
  | nil => rfl
  | cons m t ih =>
    have h2 : osum (En.frames n (m :: t)) = 6 + osum (En.frames (n + 1) t) := by simp [osum, En.frames, fw]
    rw [h2, ih, List.length_cons]; omega
theorem wt_out (e : En) : 3 * e.out.length ≤ e.wt := by have := osum_len e.out; unfold En.wt; omega
theorem wt_outs (e : En) : e.outs.wt + osum e.out = e.wt := by unfold En.wt En.outs; simp [osum]; omega
theorem wt_show (e : En) (k : Nat) : (e.showFrom k).wt = e.wt + 6 * (min e.wait.length 4 - k) := by
  unfold En.wt En.showFrom
  simp only [osum_append, osum_frames, List.length_drop, List.length_take]
  have : min 4 e.wait.length = min e.wait.length 4 := Nat.min_comm _ _
  rw [this]; omega
theorem wt_send (e : En) (m : Fr.Msg) : (e.send m).wt ≤ e.wt + 6 := by
  unfold En.send
  rw [wt_show]
  unfold En.put En.wt En.shown
  simp only [List.length_append, List.length_cons, List.length_nil]
  omega
theorem wt_tick (e : En) : e.tick.wt ≤ e.wt + 24 := by
  unfold En.tick
  rw [wt_show]
  omega
theorem wt_ack (e : En) (n : Nat) : (e.ack n).wt ≤ e.wt := by
  unfold En.ack
  split
  · rename_i h
    rw [wt_show]
    unfold En.drop En.wt En.shown
    unfold En.shown at h
    simp only [List.length_drop]
    omega
  · exact Nat.le_refl _
theorem wt_came (e : En) (n : Nat) (m : Fr.Msg) : (e.came n m).wt ≤ e.wt + 3 := by
  have h1 : (e.keep n m).wait = e.wait ∧ (e.keep n m).out = e.out := by
    unfold En.keep
    split
    · split <;> exact ⟨rfl, rfl⟩
    · exact ⟨rfl, rfl⟩
  unfold En.came En.answer
  split
  · unfold En.wt En.take
    simp only [osum_append, h1.1, h1.2]
    have : osum [⟨false, (e.keep n m).await + (En.ready (e.keep n m).kept).length, Fr.none0⟩] = 3 := by simp [osum, fw]
    rw [this]; omega
  · unfold En.wt En.take
    simp only [h1.1, h1.2]
    omega

/-- The frame that bytes are; none. -/
def Is (ls : List Nat) : Option Fr.Frm → Prop
  | none => ∀ x, ¬ ReadOk ls x
  | some f => FrOk f ∧ Fr.enc f = ls
theorem read_frm {l : List Nat} (hb : ∀ x ∈ l, x < 256) {x : Six} (hx : ReadOk l x) : ∃ f, FrOk f ∧ Fr.enc f = l := by
  rcases read_len l x hx with h | h
  · obtain ⟨x0, x1, x2, x3, x4, rfl⟩ := list5 l h
    have he := read5 x0 x1 x2 x3 x4 (hb _ (by simp)) (hb _ (by simp)) (hb _ (by simp)) (hb _ (by simp)) x hx
    have hok : FrOk ⟨false, x1 * 256 + x2, Fr.none0⟩ := ⟨by have := hb x1 (by simp); have := hb x2 (by simp); show x1 * 256 + x2 < 65536; omega, Or.inr ⟨rfl, rfl⟩⟩
    exact ⟨_, hok, he⟩
  · obtain ⟨x0, x1, x2, x3, x4, x5, x6, x7, x8, x9, rfl⟩ := list10 l h
    obtain ⟨hm, he⟩ := read10 x0 x1 x2 x3 x4 x5 x6 x7 x8 x9 (hb _ (by simp)) (hb _ (by simp)) (hb _ (by simp)) (hb _ (by simp)) (hb _ (by simp)) (hb _ (by simp)) x hx
    have hok := frame_ten x1 x2 x3 x4 x5 x6 x7 (hb _ (by simp)) (hb _ (by simp)) (hb _ (by simp)) (hb _ (by simp)) (hb _ (by simp)) (hb _ (by simp)) hm
    exact ⟨_, hok, he⟩
theorem is_ex {l : List Nat} (hb : ∀ x ∈ l, x < 256) : ∃ o, Is l o := by
  by_cases h : ∃ x, ReadOk l x
  · obtain ⟨x, hx⟩ := h
    obtain ⟨f, hf⟩ := read_frm hb hx
    exact ⟨some f, hf⟩
  · exact ⟨none, fun x hx => h ⟨x, hx⟩⟩
theorem is_nil : Is [] none := fun x ⟨k, c1, c2, _, h1, _⟩ => by simp at h1
/-- What they bring about; what is taken. -/
def En.inn (e : En) : Option Fr.Frm → En
  | .none => e
  | .some f => if f.data then e.came f.seq f.m else e.ack f.seq
def En.tld (e : En) : Option Fr.Frm → List Fr.Msg
  | .none => []
  | .some f => if f.data then e.told f.seq f.m else []
def ow : Option Fr.Frm → Nat
  | none => 0
  | some f => fw f - 3
theorem wt_inn (e : En) (o : Option Fr.Frm) : (e.inn o).wt ≤ e.wt + ow o := by
  cases o with
  | none => exact Nat.le_refl _
  | some f =>
    show (if f.data then e.came f.seq f.m else e.ack f.seq).wt ≤ e.wt + ((if f.data then 6 else 3) - 3)
    split
    · exact wt_came e _ _
    · exact wt_ack e _
theorem is_enc {f : Fr.Frm} (hf : FrOk f) {o : Option Fr.Frm} (h : Is (Fr.enc f) o) : ow o = fw f - 3 := by
  cases o with
  | none => exact absurd (enc_read f hf) (h _)
  | some g =>
    obtain ⟨h1, h2⟩ := h
    have e1 := enc_read g h1
    rw [h2] at e1
    have := read_six e1 (enc_read f hf)
    have hd : g.data = f.data := congrArg Six.d this
    simp only [ow, fw, hd]
theorem tld_len (e : En) (o : Option Fr.Frm) (h4 : e.kept.length = 4) : (e.tld o).length ≤ 4 := by
  have hr : ∀ l : List (Option Fr.Msg), (En.ready l).length ≤ l.length := by
    intro l
    induction l with
    | nil => simp [En.ready]
    | cons x t ih => cases x <;> simp [En.ready] <;> omega
  have hk : ∀ n m, (e.keep n m).kept.length = 4 := by
    intro n m
    unfold En.keep
    split
    · split
      · simp [h4]
      · exact h4
    · exact h4
  cases o with
  | none => simp [En.tld]
  | some f =>
    show (if f.data then e.told f.seq f.m else []).length ≤ 4
    split
    · unfold En.told
      have := hr (e.keep f.seq f.m).kept
      rw [hk] at this; exact this
    · simp

/-- What the document's Decode answers. -/
def DecAns (v : Value) (o : Option Fr.Frm) (w : World) : Prop := match o with
  | none => Calls Tryz.prog 81 #[v] w fun e w' => e = .returned (.tuple #[.agg (fc false 0 0 0 0 false), .int .i64 9]) ∧ Keep nil w w'
  | some f => Calls Tryz.prog 81 #[v] w fun e w' => e = .returned (.tuple #[.agg (fc f.data (f.seq : Int) (f.m.kind : Int) (f.m.level : Int) (f.m.name : Int) f.m.finding), .int .i64 0]) ∧ Keep nil w w'
/-- Bytes that are handed to a call: nil, or somewhere. -/
def BIn (w : World) (a : Option Addr) (ls : List Nat) (cap : Nat) : Prop := (a = none ∧ ls = [] ∧ cap = 0) ∨ ∃ ad, a = some ad ∧ BSl w ad ls ∧ (ls.length : Int) ≤ 140737488351232 ∧ (∀ x ∈ ls, x < 256) ∧ ls.length ≤ cap
theorem BIn.byte {w : World} {a : Option Addr} {ls : List Nat} {cap : Nat} (h : BIn w a ls cap) : ∀ x ∈ ls, x < 256 := by
  rcases h with ⟨_, rfl, _⟩ | ⟨_, _, _, _, h, _⟩
  · intro x hx; simp at hx
  · exact h
theorem BIn.ans {w : World} {a : Option Addr} {ls : List Nat} {cap : Nat} (h : BIn w a ls cap) {o : Option Fr.Frm} (ho : Is ls o) : DecAns (.slice a ls.length cap) o w := by
  rcases h with ⟨rfl, rfl, rfl⟩ | ⟨ad, rfl, hs, hl, hb, hc⟩
  · cases o with
    | none => exact refdec_len none 0 0 w (by decide) (by decide)
    | some f =>
      have h1 := ho.2
      have h2 := enc_len f
      rw [h1] at h2
      simp [flen] at h2
      split at h2 <;> omega
  · cases o with
    | none =>
      by_cases h0 : ls = []
      · subst h0; exact refdec_len (some ad) 0 cap w (by decide) (by decide)
      · rcases hs with hs | ⟨bb, bo, rfl, h2, h3⟩
        · exact (h0 hs).elim
        · exact refdec_no bb bo cap ls w h3 h2 hc hb ho
    | some f =>
      have h1 := ho.2
      have h2 := enc_len f
      rw [h1] at h2
      rcases hs with hs | ⟨bb, bo, rfl, h3, h4⟩
      · rw [hs] at h2; simp [flen] at h2; split at h2 <;> omega
      · have hr := enc_read f ho.1
        rw [h1] at hr
        exact refdec_yes bb bo cap ls w h4 h3 hc hb (six f) hr

set_option maxHeartbeats 2000000 in
theorem linkIn_nil (b o : Nat) (w : World) :
    Calls Tryz.prog 116 #[.pointer (some ⟨b, o, none⟩), .slice none 0 0] w fun r w' => r = .returned (.slice none 0 0) ∧ Keep nil w w' := by
  have HD : Unit → _ := fun _ => decode_nil w
  go_enter Tryz.func116, Tryz.ntmps116
  go_wp2_with fail
  refine (HD ()).mono ?_
  rintro r w1 ⟨rfl, hk1⟩
  clear HD
  go_wp2
  go_ret
  exact ⟨rfl, hk1.alloc _⟩
set_option maxHeartbeats 2000000 in
theorem in_nil (b o : Nat) (w : World) :
    Calls Tryz.prog 131 #[.pointer (some ⟨b, o, none⟩), .slice none 0 0] w fun r w' => r = .returned (.slice none 0 0) ∧ Keep nil w w' := by
  have HD : Unit → _ := fun _ => linkIn_nil b o w
  go_enter Tryz.func131, Tryz.ntmps131
  go_wp2_with fail
  refine (HD ()).mono ?_
  rintro r w1 ⟨rfl, hk1⟩
  clear HD
  go_wp2
  go_ret
  exact ⟨rfl, hk1⟩
/-- What the program's In does, whatever the bytes. -/
theorem in_all (c : Array Value) (t : TypeId) (b o : Nat) (e : En) (p : Pl) (v : Value) (ls : List Nat) (q : Option Fr.Frm) (w : World) (h : Rep w c t b o e p) (hv : (v = .slice none 0 0 ∧ ls = []) ∨ ∃ bb bo cap, v = .slice (some ⟨bb, bo, none⟩) ls.length cap ∧ Lies w bb bo cap ls) (hq : Is ls q) (ho : (e.out.length : Int) < 1099511627000) :
    Calls Tryz.prog 131 #[.pointer (some ⟨b, o, none⟩), v] w fun r w' => ∃ v p', r = .returned v ∧ Told w w' b p' v (e.tld q) ∧ Rep w' c t b o (e.inn q) p' ∧ Step w w' b p p' := by
  have none_case : ∀ {v : Value}, (Calls Tryz.prog 131 #[.pointer (some ⟨b, o, none⟩), v] w fun r w' => r = .returned (.slice none 0 0) ∧ Keep nil w w') → Calls Tryz.prog 131 #[.pointer (some ⟨b, o, none⟩), v] w fun r w' => ∃ v p', r = .returned v ∧ Told w w' b p' v [] ∧ Rep w' c t b o e p' ∧ Step w w' b p p' := fun hc => by
    refine hc.mono ?_
    rintro r w' ⟨rfl, k⟩
    exact ⟨_, p, rfl, ⟨none, 0, rfl, RV.nil _ _ _, fun g hg => (inB_none g hg).elim⟩, h.keep k (fun _ _ x => x), Step.of_keep b p k⟩
  rcases hv with ⟨rfl, rfl⟩ | ⟨bb, bo, cap, rfl, hl⟩
  · cases q with
    | none => exact none_case (in_nil b o w)
    | some f =>
      have h1 := hq.2
      have h2 := enc_len f
      rw [h1] at h2
      simp [flen] at h2
      split at h2 <;> omega
  · cases q with
    | none => exact none_case (in_no b o bb bo cap ls w hl hq)
    | some f =>
      obtain ⟨d, s, m⟩ := f
      obtain ⟨hf, he⟩ := hq
      have hr := enc_read _ hf
      rw [he] at hr
      have hs : (s : Int) < 65536 := by have := hf.1; simp only at this; omega
      cases d with
      | false =>
        have hm : m = Fr.none0 := by
          rcases hf.2 with ⟨h, _⟩ | ⟨_, h⟩
          · cases h
          · exact h
        subst hm
        refine (in_ack c t b o e p bb bo cap s ls w h hl hr hs ho).mono ?_
        rintro r w' ⟨rfl, p', h1, h2⟩
        exact ⟨_, p', rfl, ⟨none, 0, rfl, RV.nil _ _ _, fun g hg => (inB_none g hg).elim⟩, h1, h2⟩
      | true => exact in_msg c t b o e p bb bo cap s m ls w h hl hr hs ho
end Go.Proofs.YtlfijfodklhplaaGreat
/- The book of all six kinds: what holds of it between two steps, whatever else there is. -/
namespace Go.Proofs.YtlfijfodklhplaaGreat
open Go.RowKit
set_option linter.unusedVariables false
set_option linter.unusedSimpArgs false

/-- Marks on a list that lies anywhere. -/
def LMk (w : World) (a : Option Addr) (n sz : Nat) (mk : Nat → Value) : Prop := ∀ g o, a = some ⟨g, o, none⟩ → ∀ p, p < n * sz → w.cell? ⟨g, o + p, none⟩ = some (mk p)
theorem LMk.keep {ex : Nat → Prop} {w w' : World} {a : Option Addr} {n sz : Nat} {mk : Nat → Value} (h : LMk w a n sz mk) (k : Keep ex w w') (hg : ∀ g, inB a g → g < w.heap.size ∧ ¬ ex g) : LMk w' a n sz mk := fun g o ha p hp =>
  (k.cell g (o + p) (hg g ⟨o, ha⟩).1 (hg g ⟨o, ha⟩).2).trans (h g o ha p hp)
/-- Four lists, each marked. -/
def ListAt (ty : TypeId) (sz : Nat) (mk : Nat → Value) (w : World) (v : Value) (out : Nat → Prop) : Prop := ∃ (n0 : Nat) (S : List Ls), v = .slice (some ⟨n0, 0, none⟩) 4 4 ∧ Blk w n0 (S.map Ls.val).toArray ty ∧ S.length = 4 ∧ out n0 ∧
  ∀ t ∈ S, (t.n = 0 ∨ ∃ g o, t.a = some ⟨g, o, none⟩) ∧ LMk w t.a t.n sz mk ∧ (t.n : Int) ≤ 140737488351310 ∧ ∀ b, inB t.a b → out b ∧ b < w.heap.size
theorem ListAt.keep {ty : TypeId} {sz : Nat} {mk : Nat → Value} {ex : Nat → Prop} {w w' : World} {v : Value} {out out' : Nat → Prop} (h : ListAt ty sz mk w v out) (k : Keep ex w w') (hn : ∀ x, x < w.heap.size → out x → ¬ ex x ∧ out' x) : ListAt ty sz mk w' v out' := by
  obtain ⟨n0, S, hv, hb, h4, ho, hts⟩ := h
  refine ⟨n0, S, hv, hb.keep k (hn n0 hb.lt ho).1, h4, (hn n0 hb.lt ho).2, fun t ht => ?_⟩
  obtain ⟨h0, h1, h2, h3⟩ := hts t ht
  exact ⟨h0, h1.keep k (fun b e => ⟨(h3 b e).2, (hn b (h3 b e).2 (h3 b e).1).1⟩), h2, fun b e => ⟨(hn b (h3 b e).2 (h3 b e).1).2, Nat.lt_of_lt_of_le (h3 b e).2 k.size⟩⟩
/-- What a cell of a marked list of packets holds. -/
def pmk (i p : Nat) : Value := if p % 3 = 0 then .int .i64 (-7070 - (i : Int)) else if p % 3 = 1 then .int .i64 0 else .slice none 0 0
theorem pmk0 (i q : Nat) : pmk i (q * 3) = .int .i64 (-7070 - (i : Int)) := by unfold pmk; rw [if_pos (by omega)]
theorem pmk1 (i q : Nat) : pmk i (q * 3 + 1) = .int .i64 0 := by unfold pmk; rw [if_neg (by omega), if_pos (by omega)]
theorem pmk2 (i q : Nat) : pmk i (q * 3 + 2) = .slice none 0 0 := by unfold pmk; rw [if_neg (by omega), if_neg (by omega)]
def NoteAt (w : World) (i : Nat) (v : Value) (out : Nat → Prop) : Prop := ListAt 112 4 (mmk i) w v out
def PostAt (w : World) (i : Nat) (v : Value) (out : Nat → Prop) : Prop := ListAt 54 3 (pmk i) w v out
def CountAt (w : World) (i : Nat) (v : Value) (out : Nat → Prop) : Prop := ListAt 25 1 (fun _ => .int .i64 (-7070 - (i : Int))) w v out
def PileAt (w : World) (i : Nat) (v : Value) (out : Nat → Prop) : Prop := ∃ zb zc, out zb ∧ zb < w.heap.size ∧ Row w zb 0 (bl (pil ⟨#[80]⟩ i)) ∧ ListAt 105 1 (fun _ => .slice (some ⟨zb, 0, none⟩) (bl (pil ⟨#[80]⟩ i)).length zc) w v out
theorem PileAt.keep {ex : Nat → Prop} {w w' : World} {i : Nat} {v : Value} {out out' : Nat → Prop} (h : PileAt w i v out) (k : Keep ex w w') (hn : ∀ x, x < w.heap.size → out x → ¬ ex x ∧ out' x) : PileAt w' i v out' :=
  let ⟨zb, zc, h1, h2, h3, h4⟩ := h
  ⟨zb, zc, (hn zb h2 h1).2, Nat.lt_of_lt_of_le h2 k.size, h3.keep k h2 (hn zb h2 h1).1, h4.keep k hn⟩
/-- The i-th list of a kind. -/
def Item (κ : Nat) (w : World) (i : Nat) (v : Value) (out : Nat → Prop) : Prop := match κ with
  | 0 => SheetAt w i v out
  | 1 => RollAt w i v out
  | 2 => NoteAt w i v out
  | 3 => PostAt w i v out
  | 4 => CountAt w i v out
  | _ => PileAt w i v out
theorem Item.keep {κ : Nat} {ex : Nat → Prop} {w w' : World} {i : Nat} {v : Value} {out out' : Nat → Prop} (h : Item κ w i v out) (k : Keep ex w w') (hn : ∀ x, x < w.heap.size → out x → ¬ ex x ∧ out' x) : Item κ w' i v out' := by
  match κ, h with
  | 0, h => exact SheetAt.keep h k hn
  | 1, h => exact RollAt.keep h k hn
  | 2, h => exact ListAt.keep h k hn
  | 3, h => exact ListAt.keep h k hn
  | 4, h => exact ListAt.keep h k hn
  | n + 5, h => exact PileAt.keep h k hn
def rty (κ : Nat) : TypeId := match κ with
  | 0 => 106
  | 1 => 109
  | 2 => 111
  | 3 => 161
  | 4 => 163
  | _ => 166
/-- A row of such lists. -/
structure Rw where
  a : Option Addr
  n : Nat
  c : Nat
  V : List Value
def Rw.val (r : Rw) : Value := .slice r.a r.n r.c
def Rw.nil : Rw := ⟨none, 0, 0, []⟩
def updR (R : Nat → Rw) (κ : Nat) (r : Rw) (i : Nat) : Rw := if i = κ then r else R i
theorem updR_self (R : Nat → Rw) (κ : Nat) (r : Rw) : updR R κ r κ = r := by simp [updR]
theorem updR_other (R : Nat → Rw) (κ : Nat) (r : Rw) (i : Nat) (h : i ≠ κ) : updR R κ r i = R i := by simp [updR, h]

/-- What else there is: it stands while none of its blocks is written. Tags: 0 nobody's, 1 the book's lists, 2 to 8 what is under way, 9 old, 10 the Play, 11 to 16 the book's rows, from 17 on the rest. -/
structure Cx where
  W0 : World
  R : Nat → Rw
  X : World → (Nat → Nat) → Prop
  st : ∀ (ex : Nat → Prop) (w w' : World) (tag tag' : Nat → Nat), X w tag → Keep ex w w' → (∀ k, k < w.heap.size → ex k → tag k = 0 ∨ (10 ≤ tag k ∧ tag k ≤ 16)) → (∀ k, k < w.heap.size → tag k ≠ 0 → tag' k = tag k) → X w' tag'
abbrev playv (p0 p1 : Value) (R : Nat → Rw) : Array Value := #[p0, p1, (R 0).val, (R 1).val, (R 2).val, (R 3).val, (R 4).val, (R 5).val]
structure BkT (C : Cx) (w : World) (tag : Nat → Nat) (yb : Nat) (p0 p1 : Value) (R : Nat → Rw) : Prop where
  keep : Keep (only yb) C.W0 w
  play : Blk w yb (playv p0 p1 R) 73
  row : ∀ κ, κ < 6 → RowIs w (R κ).a (R κ).n (R κ).c (rty κ) (R κ).V (fun b => tag b ≠ 11 + κ)
  ty : tag yb = 10
  old : ∀ k, k < C.W0.heap.size → k ≠ yb → tag k = 9
  item : ∀ κ, κ < 6 → ∀ i v, (R κ).V[i]? = some v → Item κ w i v (fun x => tag x = 1)
  nz : ∀ k, w.heap.size ≤ k → tag k = 0
  x : C.X w tag

theorem BkT.rlt {C : Cx} {w : World} {tag : Nat → Nat} {yb : Nat} {p0 p1 : Value} {R : Nat → Rw} (h : BkT C w tag yb p0 p1 R) {κ : Nat} (hκ : κ < 6) {x : Nat} (hx : (R κ).a = some ⟨x, 0, none⟩) : x < w.heap.size ∧ tag x = 11 + κ := by
  have := (h.row κ hκ).lt x hx
  exact ⟨this.1, Classical.not_not.1 this.2⟩
/-- Something else is done; the book is as it was. -/
theorem BkT.move {C C' : Cx} {w w' : World} {tag tag' : Nat → Nat} {yb : Nat} {p0 p1 : Value} {R : Nat → Rw} {ex : Nat → Prop} (h : BkT C w tag yb p0 p1 R) (k : Keep ex w w') (hn : ∀ i, i < w.heap.size → ex i → tag i ≠ 1 ∧ ¬ (9 ≤ tag i ∧ tag i ≤ 16))
    (ht : ∀ i, i < w.heap.size → (tag i = 1 ∨ (9 ≤ tag i ∧ tag i ≤ 16)) → tag' i = tag i) (hz : ∀ i, w'.heap.size ≤ i → tag' i = 0) (hx : C'.X w' tag') (hW : C'.W0 = C.W0) : BkT C' w' tag' yb p0 p1 R := by
  have hyl := h.play.lt
  have hWs := h.keep.size
  have hno : ∀ i, i < w.heap.size → (tag i = 1 ∨ (9 ≤ tag i ∧ tag i ≤ 16)) → ¬ ex i := fun i hi hti e => by have := hn i hi e; omega
  refine ⟨?_, h.play.keep k (hno yb hyl (by have := h.ty; omega)), fun κ hκ => ?_, (ht yb hyl (by have := h.ty; omega)).trans h.ty, fun i hi hy => ?_, fun κ hκ i v hv => (h.item κ hκ i v hv).keep k (fun x hxl hx1 => ⟨hno x hxl (Or.inl hx1), (ht x hxl (Or.inl hx1)).trans hx1⟩), hz, hx⟩
  · rw [hW]
    exact h.keep.trans' k (fun i hi e => by
      by_cases hy : i = yb
      · exact hy
      · exact absurd e (hno i (by omega) (by have := h.old i hi hy; omega)))
  · refine ((h.row κ hκ).keep k (fun x hxl hxa => hno x hxl (by have := (h.rlt hκ hxa).2; omega))).out (fun x _ hxa _ => ?_)
    have := h.rlt hκ hxa
    simp only [Classical.not_not]
    rw [ht x this.1 (by omega)]; exact this.2
  · rw [hW] at hi
    have := h.old i hi hy
    rw [ht i (by omega) (by omega)]; exact this
theorem BkT.same {C : Cx} {w w' : World} {tag : Nat → Nat} {yb : Nat} {p0 p1 : Value} {R : Nat → Rw} (h : BkT C w tag yb p0 p1 R) (k : Keep nil w w') : BkT C w' tag yb p0 p1 R :=
  h.move k (fun i _ e => e.elim) (fun _ _ _ => rfl) (fun i hi => h.nz i (Nat.le_trans k.size hi)) (C.st nil w w' tag tag h.x k (fun _ _ e => e.elim) (fun _ _ _ => rfl)) rfl
/-- Free blocks are written. -/
theorem BkT.free {C : Cx} {w w' : World} {tag : Nat → Nat} {yb : Nat} {p0 p1 : Value} {R : Nat → Rw} {ex : Nat → Prop} (h : BkT C w tag yb p0 p1 R) (k : Keep ex w w') (hn : ∀ i, i < w.heap.size → ex i → tag i = 0) : BkT C w' tag yb p0 p1 R :=
  h.move k (fun i hi e => by have := hn i hi e; omega) (fun _ _ _ => rfl) (fun i hi => h.nz i (Nat.le_trans k.size hi)) (C.st ex w w' tag tag h.x k (fun i hi e => Or.inl (hn i hi e)) (fun _ _ _ => rfl)) rfl

/-- One list more of a kind. -/
structure Added (κ : Nat) (G : Nat → Prop) (w w' : World) (yb : Nat) (p0 p1 : Value) (R : Nat → Rw) (ab c' : Nat) (v : Value) : Prop where
  play : Blk w' yb (playv p0 p1 (updR R κ ⟨some ⟨ab, 0, none⟩, (R κ).n + 1, c', (R κ).V ++ [v]⟩)) 73
  row : VBuf w' ab (rty κ) 1 ((R κ).V ++ [v]) c'
  abl : (R κ).a = some ⟨ab, 0, none⟩ ∨ w.heap.size ≤ ab
  item : Item κ w' (R κ).n v (fun x => (G x ∨ w.heap.size ≤ x) ∧ x ≠ ab)
  keep : Keep (fun b => G b ∨ b = yb ∨ (R κ).a = some ⟨b, 0, none⟩) w w'
theorem BkT.add {κ : Nat} (hκ : κ < 6) {G : Nat → Prop} {C : Cx} {w w' : World} {tag : Nat → Nat} {yb : Nat} {p0 p1 : Value} {R : Nat → Rw} {ab c' : Nat} {v : Value} (h : BkT C w tag yb p0 p1 R) (hG : ∀ x, x < w.heap.size → G x → tag x = 0) (a : Added κ G w w' yb p0 p1 R ab c' v) :
    ∃ tag', BkT C w' tag' yb p0 p1 (updR R κ ⟨some ⟨ab, 0, none⟩, (R κ).n + 1, c', (R κ).V ++ [v]⟩) ∧ (∀ k, k < w.heap.size → ¬ G k → tag' k = tag k) ∧ (∀ k, k < w.heap.size → tag k ≠ 0 → tag' k = tag k) := by
  classical
  obtain ⟨tag', htag⟩ : ∃ tag' : Nat → Nat, tag' = fun k => if k < w.heap.size then (if G k then 1 else tag k) else if k < w'.heap.size then (if k = ab then 11 + κ else 1) else 0 := ⟨_, rfl⟩
  have t1 : ∀ k, k < w.heap.size → ¬ G k → tag' k = tag k := fun k hk hg => by rw [htag]; simp only [hk, hg, if_true, if_false]
  have t2 : ∀ k, k < w.heap.size → tag k ≠ 0 → tag' k = tag k := fun k hk h0 => t1 k hk (fun g => h0 (hG k hk g))
  refine ⟨tag', ?_, t1, t2⟩
  have hyl := h.play.lt
  have hWs := h.keep.size
  have hk := a.keep
  have hex : ∀ i, i < w.heap.size → (G i ∨ i = yb ∨ (R κ).a = some ⟨i, 0, none⟩) → tag i = 0 ∨ tag i = 10 ∨ tag i = 11 + κ := fun i hi e => by
    rcases e with e | e | e
    · exact Or.inl (hG i hi e)
    · rw [e]; exact Or.inr (Or.inl h.ty)
    · exact Or.inr (Or.inr (h.rlt hκ e).2)
  have tab : tag' ab = 11 + κ := by
    rcases a.abl with e | e
    · have := h.rlt hκ e
      rw [t2 ab this.1 (by omega)]; exact this.2
    · have := a.row.lt; rw [htag]; simp only; rw [if_neg (by omega), if_pos this]; exact if_pos trivial
  refine ⟨?_, a.play, fun κ' hκ' => ?_, (t2 yb hyl (by have := h.ty; omega)).trans h.ty, fun i hi hy => ?_, fun κ' hκ' i u hu => ?_, fun k hk' => by have := hk.size; rw [htag]; simp only; rw [if_neg (by omega), if_neg (by omega)], C.st _ w w' tag tag' h.x hk (fun i hi e => by have := hex i hi e; omega) t2⟩
  · exact h.keep.trans' hk (fun i hi e => by
      by_cases hy : i = yb
      · exact hy
      · have h1 := hex i (by omega) e
        have h2 := h.old i hi hy
        omega)
  · by_cases e : κ' = κ
    · subst e
      rw [updR_self]
      refine Or.inr ⟨ab, rfl, a.row, ?_, by rw [Classical.not_not]; exact tab⟩
      rw [List.length_append, (h.row κ' hκ').has.1]; rfl
    · rw [updR_other _ _ _ _ e]
      refine ((h.row κ' hκ').keep hk (fun x hxl hxa ex => ?_)).out (fun x _ hxa _ => ?_)
      · have h1 := hex x hxl ex
        have h2 := (h.rlt hκ' hxa).2
        omega
      · have := h.rlt hκ' hxa
        simp only [Classical.not_not]
        rw [t2 x this.1 (by omega)]; exact this.2
  · have := h.old i hi hy
    rw [t2 i (by omega) (by omega)]; exact this
  · have old : ∀ κ', κ' < 6 → ∀ i u, (R κ').V[i]? = some u → Item κ' w' i u (fun x => tag' x = 1) := fun κ' hκ' i u hu => (h.item κ' hκ' i u hu).keep hk (fun x hxl hx1 => ⟨fun e => by have := hex x hxl e; omega, (t2 x hxl (by omega)).trans hx1⟩)
    by_cases e : κ' = κ
    · subst e
      rw [updR_self] at hu
      simp only at hu
      have hl := (h.row κ' hκ').has.1
      by_cases hi : i < (R κ').V.length
      · rw [List.getElem?_append_left hi] at hu
        exact old κ' hκ' i u hu
      · rw [List.getElem?_append_right (by omega)] at hu
        have hi0 : i - (R κ').V.length = 0 := by have := (List.getElem?_eq_some_iff.1 hu).1; simp at this; omega
        rw [hi0] at hu
        simp at hu
        subst hu
        have hin : i = (R κ').n := by omega
        subst hin
        refine a.item.keep (Keep.refl nil w') (fun x hxl hx => ⟨fun e => e, ?_⟩)
        obtain ⟨hx1, hx2⟩ := hx
        rw [htag]; simp only
        by_cases hlt : x < w.heap.size
        · rw [if_pos hlt]
          rcases hx1 with g | g
          · rw [if_pos g]
          · omega
        · rw [if_neg hlt, if_pos hxl, if_neg hx2]
    · rw [updR_other _ _ _ _ e] at hu
      exact old κ' hκ' i u hu

theorem addedB {G : Nat → Prop} {w w' : World} {yb : Nat} {p0 p1 : Value} {R : Nat → Rw} (h : BkB G w w' yb (R 0).n (R 0).a (R 0).V p0 p1 (R 1).val (R 2).val (R 3).val (R 4).val (R 5).val) : ∃ ab c' v, Added 0 G w w' yb p0 p1 R ab c' v := by
  obtain ⟨S, n0, ab, ca', hplay, hrow, hab, hblk, hn0, hne, h4, hts, hk⟩ := h
  exact ⟨ab, ca', _, hplay, hrow, hab, ⟨n0, S, rfl, hblk, h4, ⟨Or.inr hn0, hne⟩, fun t ht => ⟨(hts t ht).1, (hts t ht).2.1, fun b hb => ⟨⟨((hts t ht).2.2 b hb).1, ((hts t ht).2.2 b hb).2.1⟩, ((hts t ht).2.2 b hb).2.2⟩⟩⟩, hk⟩
theorem addedE {G : Nat → Prop} {w w' : World} {yb : Nat} {p0 p1 : Value} {R : Nat → Rw} (h : BkE G w w' yb (R 1).n (R 1).a (R 1).V p0 p1 (R 0).val (R 2).val (R 3).val (R 4).val (R 5).val) : ∃ ab c' v, Added 1 G w w' yb p0 p1 R ab c' v := by
  obtain ⟨S, n0, ab, ca', hplay, hrow, hab, hblk, hn0, hne, h4, hts, hk⟩ := h
  exact ⟨ab, ca', _, hplay, hrow, hab, ⟨n0, S, rfl, hblk, h4, ⟨Or.inr hn0, hne⟩, fun t ht => ⟨(hts t ht).1, (hts t ht).2.1, fun b hb => ⟨⟨((hts t ht).2.2 b hb).1, ((hts t ht).2.2 b hb).2.1⟩, ((hts t ht).2.2 b hb).2.2⟩⟩⟩, hk⟩
theorem addedR {G : Nat → Prop} {w w' : World} {yb : Nat} {p0 p1 : Value} {R : Nat → Rw} (h : BkR G w w' yb (R 2).n (R 2).a (R 2).V p0 p1 (R 0).val (R 1).val (R 3).val (R 4).val (R 5).val) : ∃ ab c' v, Added 2 G w w' yb p0 p1 R ab c' v := by
  obtain ⟨S, n0, ab, ca', hplay, hrow, hab, hblk, hn0, hne, h4, hts, hk⟩ := h
  exact ⟨ab, ca', _, hplay, hrow, hab, ⟨n0, S, rfl, hblk, h4, ⟨Or.inr hn0, hne⟩, fun t ht => ⟨(hts t ht).1, (hts t ht).2.1, (hts t ht).2.2.1, fun b hb => ⟨⟨((hts t ht).2.2.2 b hb).1, ((hts t ht).2.2.2 b hb).2.1⟩, ((hts t ht).2.2.2 b hb).2.2⟩⟩⟩, hk⟩
theorem addedL {G : Nat → Prop} {w w' : World} {yb : Nat} {p0 p1 : Value} {R : Nat → Rw} (h : BkL G w w' yb (R 5).n (R 5).a (R 5).V p0 p1 (R 0).val (R 1).val (R 2).val (R 3).val (R 4).val) : ∃ ab c' v, Added 5 G w w' yb p0 p1 R ab c' v := by
  obtain ⟨S, n0, ab, ca', zb, zc, hplay, hrow, hab, hblk, hn0, hne, h4, hz1, hz2, hz3, hz4, hts, hk⟩ := h
  exact ⟨ab, ca', _, hplay, hrow, hab, ⟨zb, zc, ⟨Or.inr hz1, hz2⟩, hz3, hz4, n0, S, rfl, hblk, h4, ⟨Or.inr hn0, hne⟩, fun t ht => ⟨(hts t ht).1, fun g o ha p hp => (hts t ht).2.1 g o ha p (by omega), (hts t ht).2.2.1, fun b hb => ⟨⟨((hts t ht).2.2.2 b hb).1, ((hts t ht).2.2.2 b hb).2.1⟩, ((hts t ht).2.2.2 b hb).2.2⟩⟩⟩, hk⟩

/-- The rows of all kinds, the first two given. -/
def rows2 (R : Nat → Rw) (A B : Rw) (i : Nat) : Rw := if i = 0 then A else if i = 1 then B else R i
/-- The same, as the plain calls see it. -/
def Bk2 (C : Cx) (w : World) (yb : Nat) (p0 p1 : Value) (a0 : Option Addr) (na ca : Nat) (VA : List Value) (b0 : Option Addr) (nb cb : Nat) (VB : List Value) : Prop := ∃ tag, BkT C w tag yb p0 p1 (rows2 C.R ⟨a0, na, ca, VA⟩ ⟨b0, nb, cb, VB⟩)
def Book2 (C : Cx) (w : World) (yb : Nat) (p0 p1 : Value) (na nb : Nat) : Prop := ∃ a0 ca VA b0 cb VB, Bk2 C w yb p0 p1 a0 na ca VA b0 nb cb VB
abbrev Cx.p4 (C : Cx) : Value := (C.R 2).val
abbrev Cx.p5 (C : Cx) : Value := (C.R 3).val
abbrev Cx.p6 (C : Cx) : Value := (C.R 4).val
abbrev Cx.p7 (C : Cx) : Value := (C.R 5).val
section
variable {C : Cx} {w w' w1 : World} {yb : Nat} {p0 p1 : Value} {a0 : Option Addr} {na ca : Nat} {VA : List Value} {b0 : Option Addr} {nb cb : Nat} {VB : List Value}
theorem Bk2.same (h : Bk2 C w yb p0 p1 a0 na ca VA b0 nb cb VB) (k : Keep nil w w') : Bk2 C w' yb p0 p1 a0 na ca VA b0 nb cb VB := let ⟨t, h⟩ := h; ⟨t, h.same k⟩
theorem Book2.same (h : Book2 C w yb p0 p1 na nb) (k : Keep nil w w') : Book2 C w' yb p0 p1 na nb := let ⟨a0, ca, VA, b0, cb, VB, hb⟩ := h; ⟨a0, ca, VA, b0, cb, VB, hb.same k⟩
theorem Bk2.play (h : Bk2 C w yb p0 p1 a0 na ca VA b0 nb cb VB) : Blk w yb #[p0, p1, .slice a0 na ca, .slice b0 nb cb, C.p4, C.p5, C.p6, C.p7] 73 := let ⟨_, h⟩ := h; h.play
theorem Bk2.keep (h : Bk2 C w yb p0 p1 a0 na ca VA b0 nb cb VB) : Keep (only yb) C.W0 w := let ⟨_, h⟩ := h; h.keep
theorem Bk2.rowA (h : Bk2 C w yb p0 p1 a0 na ca VA b0 nb cb VB) : RowIs w a0 na ca 106 VA (fun b => b = yb ∨ b < C.W0.heap.size) := by
  obtain ⟨tag, h⟩ := h
  refine RowIs.out (h.row 0 (by omega)) (fun x _ hx hn e => ?_)
  have h1 : tag x = 11 := Classical.not_not.1 hn
  rcases e with e | e
  · rw [e, h.ty] at h1; omega
  · by_cases hy : x = yb
    · rw [hy, h.ty] at h1; omega
    · have := h.old x e hy; omega
theorem Bk2.rowB (h : Bk2 C w yb p0 p1 a0 na ca VA b0 nb cb VB) : RowIs w b0 nb cb 109 VB (fun b => b = yb ∨ b < C.W0.heap.size) := by
  obtain ⟨tag, h⟩ := h
  refine RowIs.out (h.row 1 (by omega)) (fun x _ hx hn e => ?_)
  have h1 : tag x = 12 := Classical.not_not.1 hn
  rcases e with e | e
  · rw [e, h.ty] at h1; omega
  · by_cases hy : x = yb
    · rw [hy, h.ty] at h1; omega
    · have := h.old x e hy; omega
theorem rows2_A (R : Nat → Rw) (A B A' : Rw) : updR (rows2 R A B) 0 A' = rows2 R A' B := by
  funext i; unfold updR rows2; split <;> rfl
theorem rows2_B (R : Nat → Rw) (A B B' : Rw) : updR (rows2 R A B) 1 B' = rows2 R A B' := by
  funext i
  unfold updR rows2
  by_cases h : i = 1
  · subst h; rfl
  · rw [if_neg h, if_neg h, if_neg h]
theorem Bk2.sheet {G : Nat → Prop} (h0 : Bk2 C w yb p0 p1 a0 na ca VA b0 nb cb VB) (k0 : Keep nil w w1) (hG : ∀ x, G x → w.heap.size ≤ x)
    (hb : BkB G w1 w' yb na a0 VA p0 p1 (.slice b0 nb cb) C.p4 C.p5 C.p6 C.p7) : Book2 C w' yb p0 p1 (na + 1) nb := by
  obtain ⟨tag, h⟩ := h0
  have h1 := h.same k0
  obtain ⟨ab, c', v, ha⟩ := addedB (R := rows2 C.R ⟨a0, na, ca, VA⟩ ⟨b0, nb, cb, VB⟩) hb
  obtain ⟨tag', h2, _, _⟩ := h1.add (by omega) (fun x _ g => h.nz x (hG x g)) ha
  rw [rows2_A] at h2
  exact ⟨_, _, _, _, _, _, tag', h2⟩
theorem Bk2.roll {G : Nat → Prop} (h0 : Bk2 C w yb p0 p1 a0 na ca VA b0 nb cb VB) (k0 : Keep nil w w1) (hG : ∀ x, G x → w.heap.size ≤ x)
    (hb : BkE G w1 w' yb nb b0 VB p0 p1 (.slice a0 na ca) C.p4 C.p5 C.p6 C.p7) : Book2 C w' yb p0 p1 na (nb + 1) := by
  obtain ⟨tag, h⟩ := h0
  have h1 := h.same k0
  obtain ⟨ab, c', v, ha⟩ := addedE (R := rows2 C.R ⟨a0, na, ca, VA⟩ ⟨b0, nb, cb, VB⟩) hb
  obtain ⟨tag', h2, _, _⟩ := h1.add (by omega) (fun x _ g => h.nz x (hG x g)) ha
  rw [rows2_B] at h2
  exact ⟨_, _, _, _, _, _, tag', h2⟩
end
end Go.Proofs.YtlfijfodklhplaaGreat
