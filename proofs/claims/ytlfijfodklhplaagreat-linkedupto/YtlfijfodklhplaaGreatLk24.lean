import Derived.Test.YtlfijfodklhplaaGreatLk23
import Derived.Test.YtlfijfodklhplaaGreatLk08
import Derived.Test.YtlfijfodklhplaaGreatLk15
import Derived.Test.YtlfijfodklhplaaGreatLk16
import Derived.Test.YtlfijfodklhplaaGreatLk17
import Derived.Test.YtlfijfodklhplaaGreatLk19
import Derived.StillTailTactics
import Derived.Deep.QuietTactic
import Derived.BigQuiet
import Derived.BigRegion
import Derived.Deep.RegionLaw
/- The book, whole: what holds of it between two steps. -/
namespace Go.Proofs.YtlfijfodklhplaaGreat
open Go.RowKit
set_option linter.unusedVariables false
set_option linter.unusedSimpArgs false

theorem Lst.marked_keep {ex : Nat → Prop} {w w' : World} {i : Nat} {t : Lst} (h : t.marked w i) (k : Keep ex w w') (hb : ∀ b, t.b = some b → b < w.heap.size ∧ ¬ ex b) : t.marked w' i := by
  unfold Lst.marked at h ⊢
  cases e : t.b with
  | none => trivial
  | some b => rw [e] at h; exact Marked.keep h k (hb b e).1 (hb b e).2
theorem Lst.markedE_keep {ex : Nat → Prop} {w w' : World} {i : Nat} {t : Lst} (h : t.markedE w i) (k : Keep ex w w') (hb : ∀ b, t.b = some b → b < w.heap.size ∧ ¬ ex b) : t.markedE w' i := by
  unfold Lst.markedE at h ⊢
  cases e : t.b with
  | none => trivial
  | some b => rw [e] at h; exact EMarked.keep h k (hb b e).1 (hb b e).2
theorem SheetAt.keep {ex : Nat → Prop} {w w' : World} {i : Nat} {v : Value} {out out' : Nat → Prop} (h : SheetAt w i v out) (k : Keep ex w w') (hn : ∀ x, x < w.heap.size → out x → ¬ ex x ∧ out' x) : SheetAt w' i v out' := by
  obtain ⟨n0, S, hv, hb, h4, ho, hts⟩ := h
  refine ⟨n0, S, hv, hb.keep k (hn n0 hb.lt ho).1, h4, (hn n0 hb.lt ho).2, fun t ht => ?_⟩
  obtain ⟨h1, h2, h3⟩ := hts t ht
  exact ⟨Lst.marked_keep h1 k (fun b e => ⟨(h3 b e).2, (hn b (h3 b e).2 (h3 b e).1).1⟩), h2, fun b e => ⟨(hn b (h3 b e).2 (h3 b e).1).2, Nat.lt_of_lt_of_le (h3 b e).2 k.size⟩⟩
theorem RollAt.keep {ex : Nat → Prop} {w w' : World} {i : Nat} {v : Value} {out out' : Nat → Prop} (h : RollAt w i v out) (k : Keep ex w w') (hn : ∀ x, x < w.heap.size → out x → ¬ ex x ∧ out' x) : RollAt w' i v out' := by
  obtain ⟨n0, S, hv, hb, h4, ho, hts⟩ := h
  refine ⟨n0, S, hv, hb.keep k (hn n0 hb.lt ho).1, h4, (hn n0 hb.lt ho).2, fun t ht => ?_⟩
  obtain ⟨h1, h2, h3⟩ := hts t ht
  exact ⟨Lst.markedE_keep h1 k (fun b e => ⟨(h3 b e).2, (hn b (h3 b e).2 (h3 b e).1).1⟩), h2, fun b e => ⟨(hn b (h3 b e).2 (h3 b e).1).2, Nat.lt_of_lt_of_le (h3 b e).2 k.size⟩⟩
theorem RowIs.keep {ex : Nat → Prop} {w w' : World} {a0 : Option Addr} {na ca : Nat} {e : TypeId} {VA : List Value} {out : Nat → Prop} (h : RowIs w a0 na ca e VA out) (k : Keep ex w w') (hn : ∀ x, x < w.heap.size → a0 = some ⟨x, 0, none⟩ → ¬ ex x) : RowIs w' a0 na ca e VA out := by
  rcases h with h | ⟨ab, rfl, hv, hl, ho⟩
  · exact Or.inl h
  · exact Or.inr ⟨ab, rfl, hv.keep k (hn ab hv.lt rfl), hl, ho⟩
theorem RowIs.out {w : World} {a0 : Option Addr} {na ca : Nat} {e : TypeId} {VA : List Value} {out out' : Nat → Prop} (h : RowIs w a0 na ca e VA out) (ho : ∀ x, x < w.heap.size → a0 = some ⟨x, 0, none⟩ → ¬ out x → ¬ out' x) : RowIs w a0 na ca e VA out' := by
  rcases h with h | ⟨ab, rfl, hv, hl, h⟩
  · exact Or.inl h
  · exact Or.inr ⟨ab, rfl, hv, hl, ho ab hv.lt rfl h⟩
theorem RowIs.lt {w : World} {a0 : Option Addr} {na ca : Nat} {e : TypeId} {VA : List Value} {out : Nat → Prop} (h : RowIs w a0 na ca e VA out) (x : Nat) (hx : a0 = some ⟨x, 0, none⟩) : x < w.heap.size ∧ ¬ out x := by
  rcases h with ⟨h, _⟩ | ⟨ab, rfl, hv, hl, h⟩
  · rw [h] at hx; cases hx
  · cases hx; exact ⟨hv.lt, h⟩

def apart (yb : Nat) (a0 b0 : Option Addr) (x : Nat) : Prop := x ≠ yb ∧ a0 ≠ some ⟨x, 0, none⟩ ∧ b0 ≠ some ⟨x, 0, none⟩
/-- The book between two steps: W0 is the world at the start. -/
structure Bk (W0 w : World) (yb : Nat) (p0 p1 : Value) (a0 : Option Addr) (na ca : Nat) (VA : List Value) (b0 : Option Addr) (nb cb : Nat) (VB : List Value) : Prop where
  keep : Keep (only yb) W0 w
  play : Blk w yb #[p0, p1, .slice a0 na ca, .slice b0 nb cb, .slice none 0 0, .slice none 0 0, .slice none 0 0, .slice none 0 0] 73
  rowA : RowIs w a0 na ca 106 VA (fun b => b = yb ∨ b < W0.heap.size)
  rowB : RowIs w b0 nb cb 109 VB (fun b => b = yb ∨ b < W0.heap.size)
  ap : ∀ x, a0 = some ⟨x, 0, none⟩ → b0 ≠ some ⟨x, 0, none⟩
  sa : ∀ i v, VA[i]? = some v → SheetAt w i v (apart yb a0 b0)
  sb : ∀ i v, VB[i]? = some v → RollAt w i v (apart yb a0 b0)
def Book (W0 w : World) (yb : Nat) (p0 p1 : Value) (na nb : Nat) : Prop := ∃ a0 ca VA b0 cb VB, Bk W0 w yb p0 p1 a0 na ca VA b0 nb cb VB

theorem Bk.same {W0 w w' : World} {yb : Nat} {p0 p1 : Value} {a0 : Option Addr} {na ca : Nat} {VA : List Value} {b0 : Option Addr} {nb cb : Nat} {VB : List Value} (h : Bk W0 w yb p0 p1 a0 na ca VA b0 nb cb VB) (k : Keep nil w w') : Bk W0 w' yb p0 p1 a0 na ca VA b0 nb cb VB :=
  ⟨h.keep.trans' k (fun _ _ e => e.elim), h.play.keep k (fun e => e), h.rowA.keep k (fun _ _ _ e => e), h.rowB.keep k (fun _ _ _ e => e), h.ap, fun i v hv => (h.sa i v hv).keep k (fun x _ ho => ⟨fun e => e, ho⟩), fun i v hv => (h.sb i v hv).keep k (fun x _ ho => ⟨fun e => e, ho⟩)⟩
theorem Book.same {W0 w w' : World} {yb : Nat} {p0 p1 : Value} {na nb : Nat} (h : Book W0 w yb p0 p1 na nb) (k : Keep nil w w') : Book W0 w' yb p0 p1 na nb :=
  let ⟨a0, ca, VA, b0, cb, VB, hb⟩ := h; ⟨a0, ca, VA, b0, cb, VB, hb.same k⟩

/-- One sheet more. -/
theorem Bk.sheet {W0 w w1 w' : World} {yb : Nat} {p0 p1 : Value} {a0 : Option Addr} {na ca : Nat} {VA : List Value} {b0 : Option Addr} {nb cb : Nat} {VB : List Value} {G : Nat → Prop} (h0 : Bk W0 w yb p0 p1 a0 na ca VA b0 nb cb VB) (k0 : Keep nil w w1) (hG : ∀ x, G x → w.heap.size ≤ x)
    (hb : BkB G w1 w' yb na a0 VA p0 p1 (.slice b0 nb cb) (.slice none 0 0) (.slice none 0 0) (.slice none 0 0) (.slice none 0 0)) : Book W0 w' yb p0 p1 (na + 1) nb := by
  obtain ⟨S, n0, ab, ca', hplay, hrow, hab, hblk, hn0, hne, h4, hts, hk⟩ := hb
  have h := h0.same k0
  have hs0 := k0.size
  have hyl := h0.play.lt
  have hA := fun x hx => h0.rowA.lt x hx
  have hB := fun x hx => h0.rowB.lt x hx
  have hW := h0.keep.size
  have hab' : ab ≠ yb ∧ W0.heap.size ≤ ab ∧ b0 ≠ some ⟨ab, 0, none⟩ := by
    rcases hab with e | e
    · have := hA ab e
      simp only [not_or] at this
      exact ⟨this.2.1, by omega, h0.ap ab e⟩
    · exact ⟨by omega, by omega, fun e' => by have := (hB ab e').1; omega⟩
  have hex : ∀ x, x < w.heap.size → apart yb a0 b0 x → ¬ (G x ∨ x = yb ∨ a0 = some ⟨x, 0, none⟩) ∧ apart yb (some ⟨ab, 0, none⟩) b0 x := fun x hx ⟨h1, h2, h3⟩ =>
    ⟨fun e => by rcases e with e | e | e; have := hG x e; omega; exact h1 e; exact h2 e, h1, fun e => by
      rcases hab with e' | e'
      · exact h2 (e'.trans e)
      · cases e; omega, h3⟩
  have kk : Keep (fun b => G b ∨ b = yb ∨ a0 = some ⟨b, 0, none⟩) w w' := (k0.mono (fun _ _ e => e.elim)).trans hk
  refine ⟨some ⟨ab, 0, none⟩, ca', VA ++ [.slice (some ⟨n0, 0, none⟩) 4 4], b0, cb, VB, ⟨h0.keep.trans' kk (fun i hi e => ?_), hplay, ?_, h0.rowB.keep kk (fun x hx hb e => ?_), fun x hx => ?_, fun i v hv => ?_, fun i v hv => (h0.sb i v hv).keep kk hex⟩⟩
  · rcases e with e | e | e
    · have := hG i e; omega
    · exact e
    · have := (hA i e).2; simp only [not_or] at this; omega
  · refine Or.inr ⟨ab, rfl, hrow, ?_, by simp only [not_or]; exact ⟨hab'.1, by omega⟩⟩
    rw [List.length_append, (h0.rowA.has).1]; rfl
  · rcases e with e | e | e
    · have := hG x e; omega
    · have := (hB x hb).2; simp only [not_or] at this; exact this.1 e
    · exact h0.ap x e hb
  · cases hx; exact hab'.2.2
  · by_cases hi : i < VA.length
    · rw [List.getElem?_append_left hi] at hv
      exact (h0.sa i v hv).keep kk hex
    · rw [List.getElem?_append_right (by omega)] at hv
      have hi0 : i - VA.length = 0 := by have := (List.getElem?_eq_some_iff.1 hv).1; simp at this; omega
      rw [hi0] at hv
      simp at hv
      subst hv
      have hin : i = na := by have := (h0.rowA.has).1; omega
      subst hin
      refine ⟨n0, S, rfl, hblk, h4, ⟨by omega, fun e => by cases e; exact hne rfl, fun e => by have := (hB n0 e).1; omega⟩, fun t ht => ?_⟩
      obtain ⟨h1, h2, h3⟩ := hts t ht
      refine ⟨h1, h2, fun b hb => ?_⟩
      obtain ⟨g1, g2, g3⟩ := h3 b hb
      have hbw : w.heap.size ≤ b := by
        rcases g1 with e | e
        · exact hG b e
        · omega
      exact ⟨⟨by omega, fun e => by cases e; exact g2 rfl, fun e => by have := (hB b e).1; omega⟩, g3⟩
/-- One roll more. -/
theorem Bk.roll {W0 w w1 w' : World} {yb : Nat} {p0 p1 : Value} {a0 : Option Addr} {na ca : Nat} {VA : List Value} {b0 : Option Addr} {nb cb : Nat} {VB : List Value} {G : Nat → Prop} (h0 : Bk W0 w yb p0 p1 a0 na ca VA b0 nb cb VB) (k0 : Keep nil w w1) (hG : ∀ x, G x → w.heap.size ≤ x)
    (hb : BkE G w1 w' yb nb b0 VB p0 p1 (.slice a0 na ca) (.slice none 0 0) (.slice none 0 0) (.slice none 0 0) (.slice none 0 0)) : Book W0 w' yb p0 p1 na (nb + 1) := by
  obtain ⟨S, n0, ab, ca', hplay, hrow, hab, hblk, hn0, hne, h4, hts, hk⟩ := hb
  have hs0 := k0.size
  have hyl := h0.play.lt
  have hA := fun x hx => h0.rowA.lt x hx
  have hB := fun x hx => h0.rowB.lt x hx
  have hW := h0.keep.size
  have hab' : ab ≠ yb ∧ W0.heap.size ≤ ab ∧ a0 ≠ some ⟨ab, 0, none⟩ := by
    rcases hab with e | e
    · have := hB ab e
      simp only [not_or] at this
      exact ⟨this.2.1, by omega, fun e' => h0.ap ab e' e⟩
    · exact ⟨by omega, by omega, fun e' => by have := (hA ab e').1; omega⟩
  have hex : ∀ x, x < w.heap.size → apart yb a0 b0 x → ¬ (G x ∨ x = yb ∨ b0 = some ⟨x, 0, none⟩) ∧ apart yb a0 (some ⟨ab, 0, none⟩) x := fun x hx ⟨h1, h2, h3⟩ =>
    ⟨fun e => by rcases e with e | e | e; have := hG x e; omega; exact h1 e; exact h3 e, h1, h2, fun e => by
      rcases hab with e' | e'
      · exact h3 (e'.trans e)
      · cases e; omega⟩
  have kk : Keep (fun b => G b ∨ b = yb ∨ b0 = some ⟨b, 0, none⟩) w w' := (k0.mono (fun _ _ e => e.elim)).trans hk
  refine ⟨a0, ca, VA, some ⟨ab, 0, none⟩, ca', VB ++ [.slice (some ⟨n0, 0, none⟩) 4 4], ⟨h0.keep.trans' kk (fun i hi e => ?_), hplay, h0.rowA.keep kk (fun x hx hb e => ?_), ?_, fun x hx e => ?_, fun i v hv => (h0.sa i v hv).keep kk hex, fun i v hv => ?_⟩⟩
  · rcases e with e | e | e
    · have := hG i e; omega
    · exact e
    · have := (hB i e).2; simp only [not_or] at this; omega
  · rcases e with e | e | e
    · have := hG x e; omega
    · have := (hA x hb).2; simp only [not_or] at this; exact this.1 e
    · exact h0.ap x hb e
  · refine Or.inr ⟨ab, rfl, hrow, ?_, by simp only [not_or]; exact ⟨hab'.1, by omega⟩⟩
    rw [List.length_append, (h0.rowB.has).1]; rfl
  · cases e; exact hab'.2.2 hx
  · by_cases hi : i < VB.length
    · rw [List.getElem?_append_left hi] at hv
      exact (h0.sb i v hv).keep kk hex
    · rw [List.getElem?_append_right (by omega)] at hv
      have hi0 : i - VB.length = 0 := by have := (List.getElem?_eq_some_iff.1 hv).1; simp at this; omega
      rw [hi0] at hv
      simp at hv
      subst hv
      have hin : i = nb := by have := (h0.rowB.has).1; omega
      subst hin
      refine ⟨n0, S, rfl, hblk, h4, ⟨by omega, fun e => by have := (hA n0 e).1; omega, fun e => by cases e; exact hne rfl⟩, fun t ht => ?_⟩
      obtain ⟨h1, h2, h3⟩ := hts t ht
      refine ⟨h1, h2, fun b hb => ?_⟩
      obtain ⟨g1, g2, g3⟩ := h3 b hb
      have hbw : w.heap.size ≤ b := by
        rcases g1 with e | e
        · exact hG b e
        · omega
      exact ⟨⟨by omega, fun e => by have := (hA b e).1; omega, fun e => by cases e; exact g2 rfl⟩, g3⟩

/-- The book is whole. -/
theorem Book.whole {W0 w : World} {yb : Nat} {p0 p1 : Value} {na nb : Nat} (h : Book W0 w yb p0 p1 na nb) (hna : (na : Int) < 1099511627776) (hnb : (nb : Int) < 1099511627776) :
    Calls Tryz.prog 28 #[.pointer (some ⟨yb, 2, none⟩)] w fun e w' => e = .returned (.bool true) ∧ ∃ m, w' = w.drewN m := by
  obtain ⟨a0, ca, VA, b0, cb, VB, hb⟩ := h
  exact whole_any yb a0 na ca VA b0 nb cb VB p0 p1 _ w hb.play hb.rowA.has hb.rowB.has hb.sa hb.sb hna hnb
end Go.Proofs.YtlfijfodklhplaaGreat
/- Walks of plain: Encode and Decode. -/
namespace Go.Proofs.YtlfijfodklhplaaGreat
open Go.RowKit
set_option linter.unusedVariables false
set_option linter.unusedSimpArgs false

/-- A step, as a value. -/
abbrev opv (kd oc oa ob : Int) (E : Value) (d : Bool) (s k l n : Int) (f : Bool) (D : Value) : Value :=
  .agg #[.int .i64 kd, .int .i64 oc, .int .i64 oa, .int .i64 ob, E, .bool d, .int .i64 s, .int .i64 k, .int .i64 l, .int .i64 n, .bool f, D]

theorem enc_le (f : Fr.Frm) : (Fr.enc f).length ≤ 10 := by
  rw [enc_len]; rcases (show flen f = 5 ∨ flen f = 10 by unfold flen; split <;> simp) with h | h <;> omega

set_option maxRecDepth 100000 in
set_option maxHeartbeats 2000000 in
theorem plain_enc_err (W0 w : World) (yb : Nat) (p0 p1 : Value) (na nb : Nat) (hB : Book W0 w yb p0 p1 na nb) (oc oa ob : Int) (E : Value) (d : Bool) (s k l n : Int) (f : Bool) (D : Value)
    (he : E.oneCell' = true) (hd : D.oneCell' = true) (herr : encErr d s k l n f ≠ 0) (hna : (na : Int) < 1099511627776) :
    Calls Tryz.prog 40 #[.pointer (some ⟨yb, 0, none⟩), opv 2 oc oa ob E d s k l n f D] w fun e w' => e = .returned (.bool true) ∧ Book W0 w' yb p0 p1 (na + 1) nb := by
  obtain ⟨a0, ca, VA, b0, cb, VB, hb⟩ := hB
  have HB : Unit → Bk W0 w yb p0 p1 a0 na ca VA b0 nb cb VB := fun _ => hb
  have HN : Unit → (na : Int) < 1099511627776 := fun _ => hna
  have H1 : Unit → ∀ w, Calls Tryz.prog 76 #[.agg (fc d s k l n f)] w fun e w' => e = .returned (.tuple #[.slice none 0 0, .int .i64 (encErr d s k l n f)]) ∧ Keep nil w w' := fun _ => arborEncode_err d s k l n f herr
  have H2 : Unit → ∀ w, Calls Tryz.prog 77 #[.agg (fc d s k l n f)] w fun e w' => e = .returned (.tuple #[.slice none 0 0, .int .i64 (encErr d s k l n f)]) ∧ Keep nil w w' := fun _ => refenc_err d s k l n f herr
  clear hb hna herr
  generalize encErr d s k l n f = er at H1 H2
  go_enter Tryz.func40, Tryz.ntmps40
  go_wp2_with fail
  obtain ⟨W1, hW1⟩ : ∃ W1, W1 = w.alloc (.cells #[.int .i64 2, .int .i64 oc, .int .i64 oa, .int .i64 ob, E, .bool d, .int .i64 s, .int .i64 k, .int .i64 l, .int .i64 n, .bool f, D] 80) := ⟨_, rfl⟩
  have hbx : Blk W1 w.heap.size #[.int .i64 2, .int .i64 oc, .int .i64 oa, .int .i64 ob, E, .bool d, .int .i64 s, .int .i64 k, .int .i64 l, .int .i64 n, .bool f, D] 80 := by rw [hW1]; exact Blk.new _ _ _
  have hkw : Keep nil w W1 := by rw [hW1]; exact (Keep.refl nil w).alloc _
  rw [← hW1]
  obtain ⟨xb, hxb⟩ : ∃ xb, xb = w.heap.size := ⟨_, rfl⟩
  rw [← hxb] at hbx ⊢
  have HX : Unit → Blk W1 xb #[.int .i64 2, .int .i64 oc, .int .i64 oa, .int .i64 ob, E, .bool d, .int .i64 s, .int .i64 k, .int .i64 l, .int .i64 n, .bool f, D] 80 ∧ Keep nil w W1 := fun _ => ⟨hbx, hkw⟩
  clear hW1 hbx hkw hxb
  refine (H1 () _).mono ?_
  rintro e w2 ⟨rfl, hk2⟩
  have c5 := ((HX ()).1.keep hk2 (fun e => e)).cell 5
  have c6 := ((HX ()).1.keep hk2 (fun e => e)).cell 6
  have c7 := ((HX ()).1.keep hk2 (fun e => e)).cell 7
  have c8 := ((HX ()).1.keep hk2 (fun e => e)).cell 8
  have c9 := ((HX ()).1.keep hk2 (fun e => e)).cell 9
  have c10 := ((HX ()).1.keep hk2 (fun e => e)).cell 10
  simp at c5 c6 c7 c8 c9 c10
  go_wp2_with fail
  refine (H2 () _).mono ?_
  rintro e w3 ⟨rfl, hk3⟩
  have HK : Unit → Keep nil w w3 := fun _ => ((HX ()).2.trans hk2).trans hk3
  clear hk2 hk3 c5 c6 c7 c8 c9 c10
  have HT : Unit → _ := fun _ => told_nils yb a0 na ca VA p0 p1 (.slice b0 nb cb) (.slice none 0 0) (.slice none 0 0) (.slice none 0 0) (.slice none 0 0) w3 (((HB ()).same (HK ())).play) (((HB ()).same (HK ())).rowA.out (fun x _ _ h e => h (Or.inl e))) (HN ())
  go_wp2_with fail
  refine Calls.mono (HT ()) ?_
  rintro e w4 ⟨rfl, hpost⟩
  have HP : Unit → Book W0 w4 yb p0 p1 (na + 1) nb := fun _ => (HB ()).sheet (HK ()) (fun x e => e.elim) hpost
  clear hpost HT
  go_wp2
  go_ret
  exact ⟨rfl, HP ()⟩

set_option maxRecDepth 100000 in
set_option maxHeartbeats 2000000 in
theorem plain_enc_ok (W0 w : World) (yb : Nat) (p0 p1 : Value) (na nb : Nat) (hB : Book W0 w yb p0 p1 na nb) (oc oa ob : Int) (E : Value) (d : Bool) (s k l n : Int) (f : Bool) (D : Value)
    (he : E.oneCell' = true) (hd : D.oneCell' = true) (herr : encErr d s k l n f = 0) (hna : (na : Int) < 1099511627776) :
    Calls Tryz.prog 40 #[.pointer (some ⟨yb, 0, none⟩), opv 2 oc oa ob E d s k l n f D] w fun e w' => e = .returned (.bool true) ∧ Book W0 w' yb p0 p1 (na + 1) nb := by
  obtain ⟨a0, ca, VA, b0, cb, VB, hb⟩ := hB
  have HB : Unit → Bk W0 w yb p0 p1 a0 na ca VA b0 nb cb VB := fun _ => hb
  have HN : Unit → (na : Int) < 1099511627776 := fun _ => hna
  obtain ⟨fr, hok, hfv⟩ := frame_of herr
  have H1 : Unit → ∀ w, Calls Tryz.prog 76 #[.agg (fc d s k l n f)] w fun e w' => ∃ g, e = .returned (.tuple #[.slice (some ⟨g, 0, none⟩) (flen fr) 10, .int .i64 0]) ∧ w.heap.size ≤ g ∧ Buf w' g (Fr.enc fr) 10 ∧ Keep nil w w' := fun _ w => by rw [← hfv]; exact arborEncode_any fr hok w
  have H2 : Unit → ∀ w, Calls Tryz.prog 77 #[.agg (fc d s k l n f)] w fun e w' => ∃ g c, e = .returned (.tuple #[.slice (some ⟨g, 0, none⟩) (flen fr) c, .int .i64 0]) ∧ w.heap.size ≤ g ∧ flen fr ≤ c ∧ BRow w' g (Fr.enc fr) c ∧ Keep nil w w' := fun _ w => by rw [← hfv]; exact refenc_any fr hok w
  clear hb hna herr hok hfv
  go_enter Tryz.func40, Tryz.ntmps40
  go_wp2_with fail
  obtain ⟨W1, hW1⟩ : ∃ W1, W1 = w.alloc (.cells #[.int .i64 2, .int .i64 oc, .int .i64 oa, .int .i64 ob, E, .bool d, .int .i64 s, .int .i64 k, .int .i64 l, .int .i64 n, .bool f, D] 80) := ⟨_, rfl⟩
  have hbx : Blk W1 w.heap.size #[.int .i64 2, .int .i64 oc, .int .i64 oa, .int .i64 ob, E, .bool d, .int .i64 s, .int .i64 k, .int .i64 l, .int .i64 n, .bool f, D] 80 := by rw [hW1]; exact Blk.new _ _ _
  have hkw : Keep nil w W1 := by rw [hW1]; exact (Keep.refl nil w).alloc _
  rw [← hW1]
  obtain ⟨xb, hxb⟩ : ∃ xb, xb = w.heap.size := ⟨_, rfl⟩
  rw [← hxb] at hbx ⊢
  have HX : Unit → Blk W1 xb #[.int .i64 2, .int .i64 oc, .int .i64 oa, .int .i64 ob, E, .bool d, .int .i64 s, .int .i64 k, .int .i64 l, .int .i64 n, .bool f, D] 80 ∧ Keep nil w W1 := fun _ => ⟨hbx, hkw⟩
  clear hW1 hbx hkw hxb
  refine (H1 () _).mono ?_
  rintro e w2 ⟨g, rfl, hg, hbg, hk2⟩
  have c5 := ((HX ()).1.keep hk2 (fun e => e)).cell 5
  have c6 := ((HX ()).1.keep hk2 (fun e => e)).cell 6
  have c7 := ((HX ()).1.keep hk2 (fun e => e)).cell 7
  have c8 := ((HX ()).1.keep hk2 (fun e => e)).cell 8
  have c9 := ((HX ()).1.keep hk2 (fun e => e)).cell 9
  have c10 := ((HX ()).1.keep hk2 (fun e => e)).cell 10
  simp at c5 c6 c7 c8 c9 c10
  have HG : Unit → w.heap.size ≤ g ∧ Buf w2 g (Fr.enc fr) 10 := fun _ => ⟨by have := (HX ()).2.size; omega, hbg⟩
  clear hg hbg
  go_wp2_with fail
  refine (H2 () _).mono ?_
  rintro e w3 ⟨g2, c2, rfl, hg2, hc2, hb2, hk3⟩
  have HK : Unit → Keep nil w w3 := fun _ => ((HX ()).2.trans hk2).trans hk3
  have HR : Unit → Buf w3 g (Fr.enc fr) 10 ∧ BRow w3 g2 (Fr.enc fr) c2 := fun _ => ⟨(HG ()).2.keep hk3 (fun e => e), hb2⟩
  clear hk2 hk3 c5 c6 c7 c8 c9 c10 hg2 hc2 hb2
  have HT : Unit → _ := fun _ => told_rows yb g 10 g2 0 c2 (Fr.enc fr) a0 na ca VA p0 p1 (.slice b0 nb cb) (.slice none 0 0) (.slice none 0 0) (.slice none 0 0) (.slice none 0 0) w3 (((HB ()).same (HK ())).play) (by have := (HB ()).play.lt; have := (HG ()).1; omega) (((HB ()).same (HK ())).rowA.out (fun x hx hx0 h e => by
      rcases e with e | e
      · have := ((HB ()).rowA.lt x hx0).1; have := (HG ()).1; omega
      · exact h (Or.inl e))) (buf_brow (HR ()).1) (enc_le fr) (brow_row (HR ()).2) (by have := enc_le fr; omega) (HN ())
  rw [← enc_len fr]
  go_wp2_with fail
  refine Calls.mono (HT ()) ?_
  rintro e w4 ⟨rfl, hpost⟩
  have HP : Unit → Book W0 w4 yb p0 p1 (na + 1) nb := fun _ => (HB ()).sheet (HK ()) (fun x e => by rw [e]; exact (HG ()).1) hpost
  clear hpost HT
  go_wp2
  go_ret
  exact ⟨rfl, HP ()⟩

set_option maxRecDepth 100000 in
set_option maxHeartbeats 2000000 in
theorem plain_dec_nil (W0 w : World) (yb : Nat) (p0 p1 : Value) (na nb : Nat) (hB : Book W0 w yb p0 p1 na nb) (oc oa ob : Int) (E : Value) (d : Bool) (s k l n : Int) (f : Bool) (D : Value)
    (he : E.oneCell' = true) (hd : D.oneCell' = true) (hD : D = .slice none 0 0) (hna : (na : Int) < 1099511627776) :
    Calls Tryz.prog 40 #[.pointer (some ⟨yb, 0, none⟩), opv 3 oc oa ob E d s k l n f D] w fun e w' => e = .returned (.bool true) ∧ Book W0 w' yb p0 p1 na nb := by
  obtain ⟨a0, ca, VA, b0, cb, VB, hb⟩ := hB
  have HB : Unit → Bk W0 w yb p0 p1 a0 na ca VA b0 nb cb VB := fun _ => hb
  have HN : Unit → (na : Int) < 1099511627776 := fun _ => hna
  obtain ⟨d', s', k', l', n', f', er, H1', H2'⟩ : ∃ (d' : Bool) (s' k' l' n' : Int) (f' : Bool) (er : Int), (∀ w, Calls Tryz.prog 80 #[.slice none 0 0] w fun e w' => e = .returned (.tuple #[.agg #[.bool d', .int .i64 s', .int .i64 k', .int .i64 l', .int .i64 n', .bool f'], .int .i64 er]) ∧ Keep nil w w') ∧
      (∀ w, Calls Tryz.prog 81 #[.slice none 0 0] w fun e w' => e = .returned (.tuple #[.agg #[.bool d', .int .i64 s', .int .i64 k', .int .i64 l', .int .i64 n', .bool f'], .int .i64 er]) ∧ Keep nil w w') :=
    ⟨false, 0, 0, 0, 0, false, 9, arborDecode_nil, fun w => refdec_len none 0 0 w (by decide) (by decide)⟩
  have H1 : Unit → _ := fun _ => H1'
  have H2 : Unit → _ := fun _ => H2'
  subst hD
  clear hb hna hd H1' H2'
  go_enter Tryz.func40, Tryz.ntmps40
  go_wp2_with fail
  obtain ⟨W1, hW1⟩ : ∃ W1, W1 = w.alloc (.cells #[.int .i64 3, .int .i64 oc, .int .i64 oa, .int .i64 ob, E, .bool d, .int .i64 s, .int .i64 k, .int .i64 l, .int .i64 n, .bool f, .slice none 0 0] 80) := ⟨_, rfl⟩
  have hbx : Blk W1 w.heap.size #[.int .i64 3, .int .i64 oc, .int .i64 oa, .int .i64 ob, E, .bool d, .int .i64 s, .int .i64 k, .int .i64 l, .int .i64 n, .bool f, .slice none 0 0] 80 := by rw [hW1]; exact Blk.new _ _ _
  have hkw : Keep nil w W1 := by rw [hW1]; exact (Keep.refl nil w).alloc _
  rw [← hW1]
  obtain ⟨xb, hxb⟩ : ∃ xb, xb = w.heap.size := ⟨_, rfl⟩
  rw [← hxb] at hbx ⊢
  have HX : Unit → Blk W1 xb #[.int .i64 3, .int .i64 oc, .int .i64 oa, .int .i64 ob, E, .bool d, .int .i64 s, .int .i64 k, .int .i64 l, .int .i64 n, .bool f, .slice none 0 0] 80 ∧ Keep nil w W1 := fun _ => ⟨hbx, hkw⟩
  clear hW1 hbx hkw hxb
  refine (lent_nil _).mono ?_
  rintro e w1' ⟨rfl, rfl⟩
  go_wp2_with fail
  refine (H1 () _).mono ?_
  rintro e w2 ⟨rfl, hk2⟩
  have c11 := ((HX ()).1.keep hk2 (fun e => e)).cell 11
  simp at c11
  have hxl : xb < w2.heap.size := by have := (HX ()).1.lt; have := (hk2).size; omega
  have HK2 : Unit → Keep nil W1 w2 := fun _ => hk2
  clear hk2
  go_wp2_with fail
  obtain ⟨W2, hW2⟩ : ∃ W2, W2 = w2.alloc (.cells #[.bool d', .int .i64 s', .int .i64 k', .int .i64 l', .int .i64 n', .bool f'] 78) := ⟨_, rfl⟩
  have hbq : Blk W2 w2.heap.size #[.bool d', .int .i64 s', .int .i64 k', .int .i64 l', .int .i64 n', .bool f'] 78 := by rw [hW2]; exact Blk.new _ _ _
  have hkq : Keep nil w2 W2 := by rw [hW2]; exact (Keep.refl nil w2).alloc _
  rw [← hW2]
  obtain ⟨qb, hqb⟩ : ∃ qb, qb = w2.heap.size := ⟨_, rfl⟩
  rw [← hqb] at hbq ⊢
  have HQ : Unit → Blk W2 qb #[.bool d', .int .i64 s', .int .i64 k', .int .i64 l', .int .i64 n', .bool f'] 78 ∧ Keep nil w2 W2 ∧ qb = w2.heap.size := fun _ => ⟨hbq, hkq, hqb⟩
  clear hW2 hbq hkq hqb c11 hxl
  refine (H2 () _).mono ?_
  rintro e w3 ⟨rfl, hk3⟩
  have c11 := ((HX ()).1.keep (((HK2 ()).trans (HQ ()).2.1).trans hk3) (fun e => e)).cell 11
  simp at c11
  have hxl : xb < w3.heap.size := by have := (HX ()).1.lt; have := (HK2 ()).size; have := (HQ ()).2.1.size; have := hk3.size; omega
  have HK3 : Unit → Keep nil W2 w3 := fun _ => hk3
  clear hk3
  go_wp2_with fail
  obtain ⟨W3, hW3⟩ : ∃ W3, W3 = w3.alloc (.cells #[.bool d', .int .i64 s', .int .i64 k', .int .i64 l', .int .i64 n', .bool f'] 78) := ⟨_, rfl⟩
  have hbr : Blk W3 w3.heap.size #[.bool d', .int .i64 s', .int .i64 k', .int .i64 l', .int .i64 n', .bool f'] 78 := by rw [hW3]; exact Blk.new _ _ _
  have hkr : Keep nil w3 W3 := by rw [hW3]; exact (Keep.refl nil w3).alloc _
  rw [← hW3]
  obtain ⟨rb, hrb⟩ : ∃ rb, rb = w3.heap.size := ⟨_, rfl⟩
  rw [← hrb] at hbr ⊢
  have HR : Unit → Blk W3 rb #[.bool d', .int .i64 s', .int .i64 k', .int .i64 l', .int .i64 n', .bool f'] 78 ∧ Keep nil w3 W3 ∧ rb = w3.heap.size := fun _ => ⟨hbr, hkr, hrb⟩
  clear hW3 hbr hkr hrb c11 hxl
  refine (returned_nil yb (.slice none 0 0) _).mono ?_
  rintro e w4 ⟨rfl, rfl⟩
  have HP : Unit → Book W0 W3 yb p0 p1 na nb := fun _ => ⟨a0, ca, VA, b0, cb, VB, (HB ()).same (((((HX ()).2.trans (HK2 ())).trans (HQ ()).2.1).trans (HK3 ())).trans (HR ()).2.1)⟩
  have BQ := ((HQ ()).1.keep (HK3 ()) (fun e => e)).keep (HR ()).2.1 (fun e => e)
  have BR := (HR ()).1
  have a0' := BQ.cell 0
  have a1' := BQ.cell 1
  have a2' := BQ.cell 2
  have a3' := BQ.cell 3
  have a4' := BQ.cell 4
  have a5' := BQ.cell 5
  have e0' := BR.cell 0
  have e1' := BR.cell 1
  have e2' := BR.cell 2
  have e3' := BR.cell 3
  have e4' := BR.cell 4
  have e5' := BR.cell 5
  simp at a0' a1' a2' a3' a4' a5' e0' e1' e2' e3' e4' e5'
  clear BQ BR
  go_wp2
  go_ret
  exact ⟨rfl, HP ()⟩

theorem BkB.keep {G : Nat → Prop} {w w' : World} {yb na : Nat} {a0 : Option Addr} {VA : List Value} {p0 p1 p3 p4 p5 p6 p7 : Value} (h : BkB G w w' yb na a0 VA p0 p1 p3 p4 p5 p6 p7) : Keep (fun b => G b ∨ b = yb ∨ a0 = some ⟨b, 0, none⟩) w w' := by
  obtain ⟨_, _, _, _, _, _, _, _, _, _, _, _, hk⟩ := h
  exact hk

set_option maxRecDepth 100000 in
set_option maxHeartbeats 2000000 in
theorem plain_dec_row (W0 w : World) (yb : Nat) (p0 p1 : Value) (na nb : Nat) (hB : Book W0 w yb p0 p1 na nb) (oc oa ob : Int) (E : Value) (d : Bool) (s k l n : Int) (f : Bool) (D : Value)
    (he : E.oneCell' = true) (hd : D.oneCell' = true) (ad : Addr) (cap : Nat) (ls : List Nat) (hD : D = .slice (some ad) ls.length cap) (hrow : BSl w ad ls) (hcap : ls.length ≤ cap) (hlen : (ls.length : Int) ≤ 140737488351232) (hby : ∀ x ∈ ls, x < 256) (hna : (na : Int) < 1099511627776) :
    Calls Tryz.prog 40 #[.pointer (some ⟨yb, 0, none⟩), opv 3 oc oa ob E d s k l n f D] w fun e w' => e = .returned (.bool true) ∧ Book W0 w' yb p0 p1 (na + 1) nb := by
  obtain ⟨a0, ca, VA, b0, cb, VB, hb⟩ := hB
  have HB : Unit → Bk W0 w yb p0 p1 a0 na ca VA b0 nb cb VB := fun _ => hb
  have HN : Unit → (na : Int) < 1099511627776 := fun _ => hna
  obtain ⟨d', s', k', l', n', f', er, H1', H2'⟩ : ∃ (d' : Bool) (s' k' l' n' : Int) (f' : Bool) (er : Int), (∀ (w : World) (g c : Nat), Row w g 0 ls → g < w.heap.size → ls.length ≤ c → Calls Tryz.prog 80 #[.slice (some ⟨g, 0, none⟩) ls.length c] w fun e w' => e = .returned (.tuple #[.agg #[.bool d', .int .i64 s', .int .i64 k', .int .i64 l', .int .i64 n', .bool f'], .int .i64 er]) ∧ Keep nil w w') ∧
      (∀ w : World, BSl w ad ls → Calls Tryz.prog 81 #[.slice (some ad) ls.length cap] w fun e w' => e = .returned (.tuple #[.agg #[.bool d', .int .i64 s', .int .i64 k', .int .i64 l', .int .i64 n', .bool f'], .int .i64 er]) ∧ Keep nil w w') := by
    by_cases h0 : ls = []
    · subst h0
      have hno : ∀ x, ¬ ReadOk [] x := fun x ⟨k, c1, c2, _, h1, _⟩ => by simp at h1
      exact ⟨false, 0, 0, 0, 0, false, 9, fun w g c h1 h2 h3 => arborDecode_no g 0 c [] w h1 h2 h3 (by simp) hby hno, fun w _ => refdec_len (some ad) 0 cap w (by decide) (by decide)⟩
    have hbs : ∀ w : World, BSl w ad ls → ∃ bb bo, ad = ⟨bb, bo, none⟩ ∧ bb < w.heap.size ∧ Row w bb bo ls := fun w h => h.elim (fun h => (h0 h).elim) id
    by_cases hx : ∃ x, ReadOk ls x
    · obtain ⟨x, hx⟩ := hx
      exact ⟨x.d, x.s, x.k, x.l, x.n, x.f, 0, fun w g c h1 h2 h3 => arborDecode_yes g 0 c ls w h1 h2 h3 (by omega) hby x hx, fun w h => by
        obtain ⟨bb, bo, rfl, h2, h1⟩ := hbs w h
        exact refdec_yes bb bo cap ls w h1 h2 hcap hby x hx⟩
    · have hno : ∀ x, ¬ ReadOk ls x := fun x h => hx ⟨x, h⟩
      exact ⟨false, 0, 0, 0, 0, false, 9, fun w g c h1 h2 h3 => arborDecode_no g 0 c ls w h1 h2 h3 (by omega) hby hno, fun w h => by
        obtain ⟨bb, bo, rfl, h2, h1⟩ := hbs w h
        exact refdec_no bb bo cap ls w h1 h2 hcap hby hno⟩
  have H1 : Unit → _ := fun _ => H1'
  have H2 : Unit → _ := fun _ => H2'
  have HROW : Unit → BSl w ad ls ∧ (ls.length : Int) ≤ 140737488351232 ∧ (∀ x ∈ ls, x < 256) := fun _ => ⟨hrow, hlen, hby⟩
  have HL : Unit → ∀ w1, Keep nil w w1 → Calls Tryz.prog 79 #[.slice (some ad) ls.length cap] w1 fun e w' => ∃ g c, e = .returned (.slice (some ⟨g, 0, none⟩) ls.length c) ∧ w1.heap.size ≤ g ∧ BRow w' g (ls ++ marks 8) c ∧ ls.length + 8 ≤ c ∧ Keep nil w1 w' := fun _ w1 k => by
    by_cases h0 : 0 < ls.length
    · rcases hrow.keep k with e | ⟨bb, bo, rfl, e2, e3⟩
      · rw [e] at h0; simp at h0
      · exact lent_any bb bo cap ls w1 e3 e2 hlen h0
    · have : ls = [] := List.eq_nil_of_length_eq_zero (by omega)
      subst this
      have := lent_empty ad cap w1
      simpa using this
  subst hD
  clear hb hna hd H1' H2' hrow hlen hby hcap
  go_enter Tryz.func40, Tryz.ntmps40
  go_wp2_with fail
  obtain ⟨W1, hW1⟩ : ∃ W1, W1 = w.alloc (.cells #[.int .i64 3, .int .i64 oc, .int .i64 oa, .int .i64 ob, E, .bool d, .int .i64 s, .int .i64 k, .int .i64 l, .int .i64 n, .bool f, .slice (some ad) ls.length cap] 80) := ⟨_, rfl⟩
  have hbx : Blk W1 w.heap.size #[.int .i64 3, .int .i64 oc, .int .i64 oa, .int .i64 ob, E, .bool d, .int .i64 s, .int .i64 k, .int .i64 l, .int .i64 n, .bool f, .slice (some ad) ls.length cap] 80 := by rw [hW1]; exact Blk.new _ _ _
  have hkw : Keep nil w W1 := by rw [hW1]; exact (Keep.refl nil w).alloc _
  rw [← hW1]
  obtain ⟨xb, hxb⟩ : ∃ xb, xb = w.heap.size := ⟨_, rfl⟩
  rw [← hxb] at hbx ⊢
  have HX : Unit → Blk W1 xb #[.int .i64 3, .int .i64 oc, .int .i64 oa, .int .i64 ob, E, .bool d, .int .i64 s, .int .i64 k, .int .i64 l, .int .i64 n, .bool f, .slice (some ad) ls.length cap] 80 ∧ Keep nil w W1 := fun _ => ⟨hbx, hkw⟩
  clear hW1 hbx hkw hxb
  refine (HL () _ (HX ()).2).mono ?_
  rintro e w1 ⟨g, c, rfl, hg, hbg, hcg, hk1⟩
  have HG : Unit → W1.heap.size ≤ g ∧ BRow w1 g (ls ++ marks 8) c ∧ ls.length + 8 ≤ c ∧ Keep nil W1 w1 ∧ g < w1.heap.size := fun _ => ⟨hg, hbg, hcg, hk1, hbg.lt⟩
  clear hg hbg hcg hk1
  go_wp2_with fail
  refine (H1 () _ g c (by
    have := brow_row (HG ()).2.1
    intro j hj
    have h2 := this j (by rw [List.length_append]; omega)
    rw [List.getElem_append_left hj] at h2
    exact h2) (HG ()).2.2.2.2 (by have := (HG ()).2.2.1; omega)).mono ?_
  rintro e w2 ⟨rfl, hk2⟩
  have c11 := ((HX ()).1.keep ((HG ()).2.2.2.1.trans hk2) (fun e => e)).cell 11
  simp at c11
  have hxl : xb < w2.heap.size := by have := (HX ()).1.lt; have := (((HG ()).2.2.2.1.trans hk2)).size; omega
  have HK2 : Unit → Keep nil W1 w2 := fun _ => ((HG ()).2.2.2.1.trans hk2)
  have HK12 : Unit → Keep nil w1 w2 := fun _ => hk2
  clear hk2
  go_wp2_with fail
  obtain ⟨W2, hW2⟩ : ∃ W2, W2 = w2.alloc (.cells #[.bool d', .int .i64 s', .int .i64 k', .int .i64 l', .int .i64 n', .bool f'] 78) := ⟨_, rfl⟩
  have hbq : Blk W2 w2.heap.size #[.bool d', .int .i64 s', .int .i64 k', .int .i64 l', .int .i64 n', .bool f'] 78 := by rw [hW2]; exact Blk.new _ _ _
  have hkq : Keep nil w2 W2 := by rw [hW2]; exact (Keep.refl nil w2).alloc _
  rw [← hW2]
  obtain ⟨qb, hqb⟩ : ∃ qb, qb = w2.heap.size := ⟨_, rfl⟩
  rw [← hqb] at hbq ⊢
  have HQ : Unit → Blk W2 qb #[.bool d', .int .i64 s', .int .i64 k', .int .i64 l', .int .i64 n', .bool f'] 78 ∧ Keep nil w2 W2 ∧ qb = w2.heap.size := fun _ => ⟨hbq, hkq, hqb⟩
  clear hW2 hbq hkq hqb c11 hxl
  refine (H2 () _ ((HROW ()).1.keep ((HX ()).2.trans ((HK2 ()).trans (HQ ()).2.1)))).mono ?_
  rintro e w3 ⟨rfl, hk3⟩
  have c11 := ((HX ()).1.keep (((HK2 ()).trans (HQ ()).2.1).trans hk3) (fun e => e)).cell 11
  simp at c11
  have hxl : xb < w3.heap.size := by have := (HX ()).1.lt; have := (HK2 ()).size; have := (HQ ()).2.1.size; have := hk3.size; omega
  have HK3 : Unit → Keep nil W2 w3 := fun _ => hk3
  clear hk3
  go_wp2_with fail
  obtain ⟨W3, hW3⟩ : ∃ W3, W3 = w3.alloc (.cells #[.bool d', .int .i64 s', .int .i64 k', .int .i64 l', .int .i64 n', .bool f'] 78) := ⟨_, rfl⟩
  have hbr : Blk W3 w3.heap.size #[.bool d', .int .i64 s', .int .i64 k', .int .i64 l', .int .i64 n', .bool f'] 78 := by rw [hW3]; exact Blk.new _ _ _
  have hkr : Keep nil w3 W3 := by rw [hW3]; exact (Keep.refl nil w3).alloc _
  rw [← hW3]
  obtain ⟨rb, hrb⟩ : ∃ rb, rb = w3.heap.size := ⟨_, rfl⟩
  rw [← hrb] at hbr ⊢
  have HR : Unit → Blk W3 rb #[.bool d', .int .i64 s', .int .i64 k', .int .i64 l', .int .i64 n', .bool f'] 78 ∧ Keep nil w3 W3 ∧ rb = w3.heap.size := fun _ => ⟨hbr, hkr, hrb⟩
  clear hW3 hbr hkr hrb c11 hxl
  have HK : Unit → Keep nil w W3 := fun _ => ((((HX ()).2.trans (HK2 ())).trans (HQ ()).2.1).trans (HK3 ())).trans (HR ()).2.1
  have HKg : Unit → Keep nil w1 W3 := fun _ => (((HK12 ()).trans (HQ ()).2.1).trans (HK3 ())).trans (HR ()).2.1
  have HGW : Unit → w.heap.size ≤ g ∧ g < qb ∧ g < rb := fun _ => by
    have h1 := (HX ()).2.size; have h2 := (HG ()).1; have h3 := (HG ()).2.2.2.2; have h4 := (HK12 ()).size; have h5 := (HQ ()).2.2; have h6 := (HQ ()).2.1.size; have h7 := (HK3 ()).size; have h8 := (HR ()).2.2
    omega
  have HT : Unit → _ := fun _ => returned_rows yb g c ad cap ls a0 na ca VA p0 p1 (.slice b0 nb cb) (.slice none 0 0) (.slice none 0 0) (.slice none 0 0) (.slice none 0 0) W3 (((HB ()).same (HK ())).play) (by have := (HB ()).play.lt; have := (HGW ()).1; omega) (((HB ()).same (HK ())).rowA.out (fun x hx hx0 h e => by
      rcases e with e | e
      · have := ((HB ()).rowA.lt x hx0).1; have := (HGW ()).1; omega
      · exact h (Or.inl e))) ((HG ()).2.1.keep (HKg ()) (fun e => e)) (HG ()).2.2.1 ((HROW ()).1.keep (HK ())) (HROW ()).2.2 (HROW ()).2.1 (HN ())
  refine Calls.mono (HT ()) ?_
  rintro e w4 ⟨rfl, m, hpost⟩
  have kd : Keep nil W3 (W3.drewN m) := (Keep.refl nil W3).drewN m
  have HP : Unit → Book W0 w4 yb p0 p1 (na + 1) nb := fun _ => (HB ()).sheet ((HK ()).trans kd) (fun x e => by rw [e]; exact (HGW ()).1) hpost
  have hnq : ∀ x, w.heap.size ≤ x → g < x → ¬ (only g x ∨ x = yb ∨ a0 = some ⟨x, 0, none⟩) := fun x hx hgx e => by
    rcases e with e | e | e
    · simp only [only] at e; omega
    · have := (HB ()).play.lt; omega
    · have := ((HB ()).rowA.lt x e).1; omega
  have hq2 := HGW ()
  have BQ := ((((HQ ()).1.keep (HK3 ()) (fun e => e)).keep (HR ()).2.1 (fun e => e)).keep kd (fun e => e)).keep hpost.keep (hnq qb (by omega) hq2.2.1)
  have BR := ((HR ()).1.keep kd (fun e => e)).keep hpost.keep (hnq rb (by omega) hq2.2.2)
  clear hpost HT kd hnq hq2
  have a0' := BQ.cell 0
  have a1' := BQ.cell 1
  have a2' := BQ.cell 2
  have a3' := BQ.cell 3
  have a4' := BQ.cell 4
  have a5' := BQ.cell 5
  have e0' := BR.cell 0
  have e1' := BR.cell 1
  have e2' := BR.cell 2
  have e3' := BR.cell 3
  have e4' := BR.cell 4
  have e5' := BR.cell 5
  simp at a0' a1' a2' a3' a4' a5' e0' e1' e2' e3' e4' e5'
  clear BQ BR
  go_wp2
  go_ret
  exact ⟨rfl, HP ()⟩

end Go.Proofs.YtlfijfodklhplaaGreat
/- Things with weights in a row; the pile's own methods. -/
namespace Go.Proofs.YtlfijfodklhplaaGreat
open Go.RowKit
set_option linter.unusedVariables false
set_option linter.unusedSimpArgs false

structure Th where
  e : Ed
  w : Int
def Th.cells (t : Th) : List Value := [.int .i64 t.e.a, .int .i64 t.e.b, .int .i64 t.e.wt, .int .i64 t.w]
def tcells (l : List Th) : List Value := l.flatMap Th.cells
theorem tcells_cons (t : Th) (l : List Th) : tcells (t :: l) = t.cells ++ tcells l := by simp [tcells]
theorem tcells_len (l : List Th) : (tcells l).length = l.length * 4 := by
  induction l with
  | nil => rfl
  | cons e t ih => rw [tcells_cons, List.length_append, ih, List.length_cons]; simp [Th.cells]; omega
theorem tcells_append (l m : List Th) : tcells (l ++ m) = tcells l ++ tcells m := by simp [tcells]
theorem tcells_one (l : List Th) : ∀ u ∈ tcells l, u.oneCell' = true := by
  intro u hu
  obtain ⟨e, _, h⟩ := List.mem_flatMap.1 hu
  simp only [Th.cells, List.mem_cons, List.not_mem_nil, or_false] at h
  rcases h with rfl | rfl | rfl | rfl <;> rfl
theorem tcells_get (l : List Th) : ∀ (k : Nat) (t : Th), l[k]? = some t → (tcells l)[k * 4]? = some (.int .i64 t.e.a) ∧ (tcells l)[k * 4 + 1]? = some (.int .i64 t.e.b) ∧ (tcells l)[k * 4 + 2]? = some (.int .i64 t.e.wt) ∧ (tcells l)[k * 4 + 3]? = some (.int .i64 t.w) := by
  induction l with
  | nil => intro k e h; simp at h
  | cons x t ih =>
    intro k e h
    rw [tcells_cons]
    cases k with
    | zero =>
      simp at h
      subst h
      exact ⟨rfl, rfl, rfl, rfl⟩
    | succ k =>
      rw [List.getElem?_cons_succ] at h
      have := ih k e h
      have hl : x.cells.length = 4 := rfl
      rw [List.getElem?_append_right (by omega), List.getElem?_append_right (by omega), List.getElem?_append_right (by omega), List.getElem?_append_right (by omega), hl]
      rw [show (k + 1) * 4 - 4 = k * 4 by omega, show (k + 1) * 4 + 1 - 4 = k * 4 + 1 by omega, show (k + 1) * 4 + 2 - 4 = k * 4 + 2 by omega, show (k + 1) * 4 + 3 - 4 = k * 4 + 3 by omega]
      exact this
theorem tcells_set (l : List Th) : ∀ (k : Nat) (t : Th), ((((tcells l).set (k * 4) (.int .i64 t.e.a)).set (k * 4 + 1) (.int .i64 t.e.b)).set (k * 4 + 2) (.int .i64 t.e.wt)).set (k * 4 + 3) (.int .i64 t.w) = tcells (l.set k t) := by
  induction l with
  | nil => intro k t; simp [tcells]
  | cons x r ih =>
    intro k t
    cases k with
    | zero => simp [tcells, Th.cells]
    | succ k =>
      rw [List.set_cons_succ, tcells_cons, tcells_cons, ← ih k t]
      have hl : x.cells.length = 4 := rfl
      rw [List.set_append_right _ _ (by omega), List.set_append_right _ _ (by omega), List.set_append_right _ _ (by omega), List.set_append_right _ _ (by omega), hl]
      rw [show (k + 1) * 4 - 4 = k * 4 by omega, show (k + 1) * 4 + 1 - 4 = k * 4 + 1 by omega, show (k + 1) * 4 + 2 - 4 = k * 4 + 2 by omega, show (k + 1) * 4 + 3 - 4 = k * 4 + 3 by omega]
abbrev TBuf (w : World) (g : Nat) (l : List Th) (c : Nat) : Prop := VBuf w g 237 4 (tcells l) c
theorem tbuf_get {w : World} {g c : Nat} {l : List Th} (h : TBuf w g l c) (k : Nat) (t : Th) (hk : l[k]? = some t) :
    w.cell? ⟨g, k * 4, none⟩ = some (.int .i64 t.e.a) ∧ w.cell? ⟨g, k * 4 + 1, none⟩ = some (.int .i64 t.e.b) ∧ w.cell? ⟨g, k * 4 + 2, none⟩ = some (.int .i64 t.e.wt) ∧ w.cell? ⟨g, k * 4 + 3, none⟩ = some (.int .i64 t.w) := by
  obtain ⟨h0, h1, h2, h3⟩ := tcells_get l k t hk
  exact ⟨h.cell _ _ h0, h.cell _ _ h1, h.cell _ _ h2, h.cell _ _ h3⟩
theorem VBuf.put {w : World} {g : Nat} {e : TypeId} {size : Nat} {vs : List Value} {c : Nat} (h : VBuf w g e size vs c) (p : Nat) (hp : p < vs.length) (v : Value) : VBuf (w.setCell ⟨g, p, none⟩ v) g e size (vs.set p v) c := by
  obtain ⟨sp, hb, hc⟩ := h
  refine ⟨sp, ?_, by rw [List.length_set]; exact hc⟩
  have := hb.set p v
  rw [List.setIfInBounds_toArray, List.set_append_left _ _ hp] at this
  exact this
/-- A thing is written. -/
def put4 (w : World) (g k : Nat) (t : Th) : World := (((w.setCell ⟨g, k * 4, none⟩ (.int .i64 t.e.a)).setCell ⟨g, k * 4 + 1, none⟩ (.int .i64 t.e.b)).setCell ⟨g, k * 4 + 2, none⟩ (.int .i64 t.e.wt)).setCell ⟨g, k * 4 + 3, none⟩ (.int .i64 t.w)
theorem tbuf_put {w : World} {g c : Nat} {l : List Th} (h : TBuf w g l c) (k : Nat) (hk : k < l.length) (t : Th) : TBuf (put4 w g k t) g (l.set k t) c := by
  have hl := tcells_len l
  have h0 := VBuf.put h (k * 4) (by omega) (.int .i64 t.e.a)
  have h1 := VBuf.put h0 (k * 4 + 1) (by rw [List.length_set]; omega) (.int .i64 t.e.b)
  have h2 := VBuf.put h1 (k * 4 + 2) (by rw [List.length_set, List.length_set]; omega) (.int .i64 t.e.wt)
  have h3 := VBuf.put h2 (k * 4 + 3) (by rw [List.length_set, List.length_set, List.length_set]; omega) (.int .i64 t.w)
  rw [tcells_set] at h3
  exact h3
theorem keep_put4 (w : World) (g k : Nat) (t : Th) : Keep (only g) w (put4 w g k t) :=
  ((((Keep.refl (only g) w).setCell (p := ⟨g, k * 4, none⟩) (fun _ => rfl) _).setCell (p := ⟨g, k * 4 + 1, none⟩) (fun _ => rfl) _).setCell (p := ⟨g, k * 4 + 2, none⟩) (fun _ => rfl) _).setCell (p := ⟨g, k * 4 + 3, none⟩) (fun _ => rfl) _

set_option maxRecDepth 100000 in
theorem len_any (a : Option Addr) (n c : Nat) (w : World) : Calls Tryz.prog 244 #[.slice a n c] w fun e w' => e = .returned (.int .i64 (n : Int)) ∧ w = w' := by
  go_enter Tryz.func244, Tryz.ntmps244
  go_wp2
  go_ret
  exact ⟨rfl, rfl⟩

set_option maxRecDepth 100000 in
set_option maxHeartbeats 1000000 in
theorem less_any (pb n c : Nat) (L : List Th) (i j : Nat) (x y : Th) (hi : L[i]? = some x) (hj : L[j]? = some y) (w : World) (hb : TBuf w pb L c) (hin : (i : Int) < (n : Int)) (hjn : (j : Int) < (n : Int)) :
    Calls Tryz.prog 245 #[.slice (some ⟨pb, 0, none⟩) n c, .int .i64 (i : Int), .int .i64 (j : Int)] w fun e w' => e = .returned (.bool (decide (x.w < y.w))) ∧ ∃ m, w' = w.drewN m := by
  have c1 := (tbuf_get hb i x hi).2.2.2
  have c2 := (tbuf_get hb j y hj).2.2.2
  clear hb hi hj
  go_enter Tryz.func245, Tryz.ntmps245
  go_wp2_with fail
  go_quiet (fail)
  go_wp2
  go_ret
  exact ⟨rfl, nq, rfl⟩

set_option maxRecDepth 100000 in
set_option maxHeartbeats 1000000 in
theorem swap_any (pb n c : Nat) (L : List Th) (i j : Nat) (x y : Th) (hi : L[i]? = some x) (hj : L[j]? = some y) (w : World) (hb : TBuf w pb L c) (hin : (i : Int) < (n : Int)) (hjn : (j : Int) < (n : Int)) (hij : i ≠ j) :
    Calls Tryz.prog 246 #[.slice (some ⟨pb, 0, none⟩) n c, .int .i64 (i : Int), .int .i64 (j : Int)] w fun e w' => e = .returned (.tuple #[]) ∧ TBuf w' pb ((L.set i y).set j x) c ∧ Keep (only pb) w w' := by
  obtain ⟨a0, a1, a2, a3⟩ := tbuf_get hb i x hi
  obtain ⟨b0, b1, b2, b3⟩ := tbuf_get hb j y hj
  have f0 := fun p => hb.frozen p
  have fi0 := f0 (i * 4)
  have fi1 := f0 (i * 4 + 1)
  have fi2 := f0 (i * 4 + 2)
  have fi3 := f0 (i * 4 + 3)
  have fj0 := f0 (j * 4)
  have fj1 := f0 (j * 4 + 1)
  have fj2 := f0 (j * 4 + 2)
  have fj3 := f0 (j * 4 + 3)
  have HP : Unit → TBuf (put4 (put4 w pb i y) pb j x) pb ((L.set i y).set j x) c ∧ Keep (only pb) w (put4 (put4 w pb i y) pb j x) := fun _ =>
    ⟨tbuf_put (tbuf_put hb i (List.getElem?_eq_some_iff.1 hi).1 y) j (by rw [List.length_set]; exact (List.getElem?_eq_some_iff.1 hj).1) x, (keep_put4 w pb i y).trans (keep_put4 _ pb j x)⟩
  clear hb hi hj f0
  go_enter Tryz.func246, Tryz.ntmps246
  go_wp2_with fail
  go_region
  all_goals go_end0
  exact ⟨rfl, (HP ()).1.drew, (HP ()).2.drew⟩

set_option maxRecDepth 100000 in
set_option maxHeartbeats 1000000 in
theorem swap_same (pb n c : Nat) (L : List Th) (i : Nat) (x : Th) (hi : L[i]? = some x) (w : World) (hb : TBuf w pb L c) (hin : (i : Int) < (n : Int)) :
    Calls Tryz.prog 246 #[.slice (some ⟨pb, 0, none⟩) n c, .int .i64 (i : Int), .int .i64 (i : Int)] w fun e w' => e = .returned (.tuple #[]) ∧ TBuf w' pb L c ∧ Keep (only pb) w w' := by
  obtain ⟨a0, a1, a2, a3⟩ := tbuf_get hb i x hi
  have f0 := fun p => hb.frozen p
  have fi0 := f0 (i * 4)
  have fi1 := f0 (i * 4 + 1)
  have fi2 := f0 (i * 4 + 2)
  have fi3 := f0 (i * 4 + 3)
  have hset : (L.set i x) = L := by
    refine List.ext_getElem? (fun k => ?_)
    rw [List.getElem?_set]
    split
    · rename_i h; subst h; rw [hi, if_pos (List.getElem?_eq_some_iff.1 hi).1]
    · rfl
  have HP : Unit → TBuf (put4 (put4 w pb i x) pb i x) pb L c ∧ Keep (only pb) w (put4 (put4 w pb i x) pb i x) := fun _ =>
    ⟨by
      have h1 := tbuf_put hb i (List.getElem?_eq_some_iff.1 hi).1 x
      rw [hset] at h1
      have h2 := tbuf_put h1 i (List.getElem?_eq_some_iff.1 hi).1 x
      rw [hset] at h2
      exact h2, (keep_put4 w pb i x).trans (keep_put4 _ pb i x)⟩
  clear hb hi f0 hset
  go_enter Tryz.func246, Tryz.ntmps246
  go_wp2_with fail
  go_region
  all_goals go_end0
  exact ⟨rfl, (HP ()).1.drew, (HP ()).2.drew⟩

theorem thing_info : (Tryz.prog.info? 237).map (fun i => (i.zero, i.size, i.bytes)) = some (some (.agg #[.int .i64 0, .int .i64 0, .int .i64 0, .int .i64 0]), 4, 32) := by kernel_rfl

@[go_sem] theorem assert_thing (v : Value) (w : World) : (Instr.typeAssert (.iface 237 v) 20 237 false).run Tryz.prog w = .ok v w := by kernel_rfl

/-- The thing as a value within an interface. -/
abbrev thv (t : Th) : Value := .iface 237 (.agg #[.int .i64 t.e.a, .int .i64 t.e.b, .int .i64 t.e.wt, .int .i64 t.w])

theorem step_append_new {P : Program} {ops : Array Oper} {o : Oper} {a : Act} {w : World} {K : Act → World → Prop} {Q : Exit → Act → World → Prop} {E : Prop}
    (hg : o.guard = none) (s x : Operand) (t : TypeId) (hop : o.op = Op.call { callee := Callee.builtin Builtin.append, args := #[s, x], argTypes := #[t, t] })
    (e : TypeId) (z : Value) (size bytes : Nat) (ht : P.underlying t = some (.slice e)) (hinfo : (P.info? e).map (fun i => (i.zero, i.size, i.bytes)) = some (some z, size, bytes)) (hzs : z.cells.size = size)
    (hs : a.eval s = .slice none 0 0) (ad : Addr) (m c' : Nat) (h0 : 0 < m) (hx : a.eval x = .slice (some ad) m c') (news : List Value) (hm : news.length = m * size)
    (hc : ∀ j u, news[j]? = some u → w.cell? (ad.add j) = some u) (hbytes : m * bytes ≤ 140737488355328) (h63 : m ≤ 9223372036854775807)
    (hK : ∀ k' w', VBuf w' w.heap.size e size news k' → m ≤ k' → Keep nil w w' → K (a.put o.dst (.slice (some ⟨w.heap.size, 0, none⟩) m k')) w') :
    if Region.wanted o (yielded ops a.tmps) = true then Oper.wp P o a w K Q else E := by
  have hw : Region.wanted o (yielded ops a.tmps) = true := by simp [Region.wanted, hg]
  rw [if_pos hw]
  obtain ⟨k', w', hrun, r1, r2, r3⟩ := run_append_new (P := P) w t o.type e z size bytes ht hinfo hzs ad m c' h0 news hm hc hbytes h63
  unfold Oper.wp
  simp [execOp, hop, resolve, invoke, builtin, hs, hx, hrun, Result.andThen]
  exact hK k' w' r1 r2 r3

theorem push_end {w w0 w1 : World} {hb ho pb' c' n : Nat} {cs : Array Value} {ty : TypeId} {G : Nat → Prop} {vs : List Value} (hbk : Blk w hb cs ty) (k0 : Keep nil w w0) (hk : Keep G w0 w1) (hG : ¬ G hb) (ht : VBuf w1 pb' 237 4 vs c') (hp : pb' ≠ hb) :
    Blk (w1.setCell ⟨hb, ho, none⟩ (.slice (some ⟨pb', 0, none⟩) n c')) hb (cs.setIfInBounds ho (.slice (some ⟨pb', 0, none⟩) n c')) ty ∧ VBuf (w1.setCell ⟨hb, ho, none⟩ (.slice (some ⟨pb', 0, none⟩) n c')) pb' 237 4 vs c' ∧
      Keep (fun b => b = hb ∨ G b) w (w1.setCell ⟨hb, ho, none⟩ (.slice (some ⟨pb', 0, none⟩) n c')) := by
  have ks : Keep (only hb) w1 (w1.setCell ⟨hb, ho, none⟩ (.slice (some ⟨pb', 0, none⟩) n c')) := (Keep.refl (only hb) w1).setCell (p := ⟨hb, ho, none⟩) (fun _ => rfl) _
  refine ⟨((hbk.keep k0 (fun e => e)).keep hk hG).set ho _, ht.keep ks (fun e => hp e), ?_⟩
  exact (((k0.mono (fun _ _ e => e.elim)).trans (hk.mono (ex' := fun b => b = hb ∨ G b) (fun _ _ e => Or.inr e)))).setCell (p := ⟨hb, ho, none⟩) (fun _ => Or.inl rfl) _

set_option maxRecDepth 100000 in
set_option maxHeartbeats 1000000 in
theorem push_some (hb ho : Nat) (cs : Array Value) (ty : TypeId) (pb c : Nat) (L : List Th) (t : Th) (w : World) (hbk : Blk w hb cs ty) (hcs : cs[ho]? = some (.slice (some ⟨pb, 0, none⟩) L.length c)) (hne : hb ≠ pb) (ht : TBuf w pb L c) (hlen : (L.length : Int) < 1000000) :
    Calls Tryz.prog 249 #[.pointer (some ⟨hb, ho, none⟩), thv t] w fun e w' => e = .returned (.tuple #[]) ∧ ∃ pb' c', Blk w' hb (cs.setIfInBounds ho (.slice (some ⟨pb', 0, none⟩) (L.length + 1) c')) ty ∧
      TBuf w' pb' (L ++ [t]) c' ∧ L.length + 1 ≤ c' ∧ (pb' = pb ∨ w.heap.size ≤ pb') ∧ pb' ≠ hb ∧ Keep (fun b => b = hb ∨ b = pb) w w' := by
  have h0 := (hbk.cell ho).trans hcs
  have f0 := hbk.frozen ho
  have hpl := ht.lt
  have hhl := hbk.lt
  have HB : Unit → Blk w hb cs ty ∧ TBuf w pb L c := fun _ => ⟨hbk, ht⟩
  have HL : Unit → (L.length : Int) < 1000000 := fun _ => hlen
  have HC : Unit → cs[ho]? = some (.slice (some ⟨pb, 0, none⟩) L.length c) := fun _ => hcs
  clear hbk hcs ht hlen
  go_enter Tryz.func249, Tryz.ntmps249
  go_wp2_with fail
  go_region_law (refine step_append_any rfl (.tmp 7) (.tmp 10) 170 rfl 237 (.agg #[.int .i64 0, .int .i64 0, .int .i64 0, .int .i64 0]) 4 32 Tryz.underlying170 thing_info rfl pb L.length c (by simp [Act.eval, Act.put]) (tcells L) (tcells_len L) (((HB ()).2.alloc _).drew) ⟨w.heap.size, 0, none⟩ 1 1 (by simp [Act.eval, Act.put]) (tcells [t]) rfl (At.cell (B := 0) (At.newd rfl (Nat.zero_le _))) (tcells_one _) (by have := HL (); omega) (by have := HL (); omega) ?_; intro pb' c' w1 hb1 hc1 hd1 hk1; have h1 := ((((HB ()).1.old _).drew.keep hk1 (fun e => hne e)).cell ho).trans (HC ()); have f1 := (((HB ()).1.old _).drew.keep hk1 (fun e => hne e)).frozen ho)
  all_goals
    go_end0
    have hp : pb' ≠ hb := by
      rcases hd1 with ⟨e, _⟩ | ⟨e, _⟩
      · rw [e]; exact Ne.symm hne
      · simp only [World.size_drew, World.size_alloc] at e; omega
    obtain ⟨e1, e2, e3⟩ := push_end (ho := ho) (n := L.length + 1) (HB ()).1 (((Keep.refl nil w).alloc _).drew) hk1 (fun e => hne e) hb1 hp
    rw [← tcells_append] at e2
    refine ⟨rfl, pb', c', e1, e2, hc1, ?_, hp, e3⟩
    rcases hd1 with ⟨e, _⟩ | ⟨e, _⟩
    · exact Or.inl e
    · simp only [World.size_drew, World.size_alloc] at e; exact Or.inr (by omega)

set_option maxRecDepth 100000 in
set_option maxHeartbeats 1000000 in
theorem push_nil (hb ho : Nat) (cs : Array Value) (ty : TypeId) (t : Th) (w : World) (hbk : Blk w hb cs ty) (hcs : cs[ho]? = some (.slice none 0 0)) :
    Calls Tryz.prog 249 #[.pointer (some ⟨hb, ho, none⟩), thv t] w fun e w' => e = .returned (.tuple #[]) ∧ ∃ pb' c', Blk w' hb (cs.setIfInBounds ho (.slice (some ⟨pb', 0, none⟩) 1 c')) ty ∧
      TBuf w' pb' [t] c' ∧ 1 ≤ c' ∧ w.heap.size ≤ pb' ∧ pb' ≠ hb ∧ Keep (only hb) w w' := by
  have h0 := (hbk.cell ho).trans hcs
  have f0 := hbk.frozen ho
  have hhl := hbk.lt
  have HB : Unit → Blk w hb cs ty := fun _ => hbk
  have HC : Unit → cs[ho]? = some (.slice none 0 0) := fun _ => hcs
  clear hbk hcs
  go_enter Tryz.func249, Tryz.ntmps249
  go_wp2_with fail
  go_region_law (refine step_append_new rfl (.tmp 7) (.tmp 10) 170 rfl 237 (.agg #[.int .i64 0, .int .i64 0, .int .i64 0, .int .i64 0]) 4 32 Tryz.underlying170 thing_info rfl (by simp [Act.eval, Act.put]) ⟨w.heap.size, 0, none⟩ 1 1 (by omega) (by simp [Act.eval, Act.put]) (tcells [t]) rfl (At.cell (B := 0) (At.newd rfl (Nat.zero_le _))) (by omega) (by omega) ?_; intro c' w1 hb1 hc1 hk1; have h1 := ((((HB ()).old _).drew.keep hk1 (fun e => e)).cell ho).trans (HC ()); have f1 := (((HB ()).old _).drew.keep hk1 (fun e => e)).frozen ho)
  all_goals
    go_end0
    simp only [World.size_drew, World.size_alloc] at hb1 ⊢
    obtain ⟨e1, e2, e3⟩ := push_end (ho := ho) (n := 1) (HB ()) (((Keep.refl nil w).alloc _).drew) hk1 (fun e => e) hb1 (by omega)
    exact ⟨trivial, _, c', e1, e2, hc1, by omega, by omega, e3.mono (fun _ _ e => e.elim id (fun e => e.elim))⟩

set_option maxRecDepth 100000 in
set_option maxHeartbeats 1000000 in
theorem pop_any (hb ho : Nat) (cs : Array Value) (ty : TypeId) (pb c n : Nat) (L : List Th) (t : Th) (w : World) (hbk : Blk w hb cs ty) (hcs : cs[ho]? = some (.slice (some ⟨pb, 0, none⟩) (n + 1) c)) (hne : hb ≠ pb) (ht : TBuf w pb L c) (hl : L.length = n + 1) (hnc : n + 1 ≤ c) (hlast : L[n]? = some t) (hlen : (n : Int) < 1000000) :
    Calls Tryz.prog 248 #[.pointer (some ⟨hb, ho, none⟩)] w fun e w' => e = .returned (thv t) ∧ Blk w' hb (cs.setIfInBounds ho (.slice (some ⟨pb, 0, none⟩) n c)) ty ∧
      TBuf w' pb (L.take n) c ∧ Keep (only hb) w w' := by
  have h0 := (hbk.cell ho).trans hcs
  have f0 := hbk.frozen ho
  have hhl := hbk.lt
  have hpl := ht.lt
  obtain ⟨q0, q1, q2, q3⟩ := tbuf_get ht n t hlast
  have hcI : (n : Int) ≤ (c : Int) := by omega
  have hwn : wrap64 (n : Int) = (n : Int) := by unfold wrap64; omega
  have HB : Unit → Blk w hb cs ty ∧ TBuf w pb (L.take n) c := fun _ => ⟨hbk, by
    have := ht.less (n * 4)
    have e : (tcells L).take (n * 4) = tcells (L.take n) := by
      have h1 : tcells L = tcells (L.take n) ++ tcells (L.drop n) := by rw [← tcells_append, List.take_append_drop]
      have h2 : (tcells (L.take n)).length = n * 4 := by rw [tcells_len, List.length_take]; omega
      rw [h1, ← h2, List.take_left]
    rw [e] at this
    exact this⟩
  clear hbk hcs ht hl hlast hlen
  go_enter Tryz.func248, Tryz.ntmps248
  go_wp2
  go_ret
  obtain ⟨e1, e2, e3⟩ := push_end (ho := ho) (n := n) (w1 := w) (HB ()).1 (Keep.refl nil w) (Keep.refl nil _) (fun e => e) (HB ()).2 (Ne.symm hne)
  exact ⟨rfl, e1.old _, e2.alloc _, (e3.mono (fun _ _ e => e.elim id (fun e => e.elim))).alloc _⟩
end Go.Proofs.YtlfijfodklhplaaGreat
