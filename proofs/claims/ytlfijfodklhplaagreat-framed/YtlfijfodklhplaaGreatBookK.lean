/- The book, whole: what holds of it between two steps. -/
import Derived.Test.YtlfijfodklhplaaGreatWhole
namespace Go.Proofs.YtlfijfodklhplaaGreat
open Go.RowKit
set_option linter.unusedVariables false
set_option linter.unusedSimpArgs false

theorem Lst.marked_keep {ex : Nat → Prop} {w w' : World} {i : Nat} {t : Lst} (h : t.marked w i) (k : Keep ex w w') (hb : ∀ b, t.b = some b → b < w.heap.size ∧ ¬ ex b) : t.marked w' i := by
  unfold Lst.marked at h ⊢
  cases e : t.b with
  | none => trivial
  | some b => rw [e] at h; exact Marked.keep h k (hb b e).1 (hb b e).2
theorem Lst.markedE_keep {ex : Nat → Prop} {w w' : World} {i : Nat} {t : Lst} (h : t.markedE w i) (k : Keep ex w w') (hb : ∀ b, t.b = some b → b < w.heap.size ∧ ¬ ex b) : t.markedE w' i := by
  unfold Lst.markedE at h ⊢
  cases e : t.b with
  | none => trivial
  | some b => rw [e] at h; exact EMarked.keep h k (hb b e).1 (hb b e).2
theorem SheetAt.keep {ex : Nat → Prop} {w w' : World} {i : Nat} {v : Value} {out out' : Nat → Prop} (h : SheetAt w i v out) (k : Keep ex w w') (hn : ∀ x, x < w.heap.size → out x → ¬ ex x ∧ out' x) : SheetAt w' i v out' := by
  obtain ⟨n0, S, hv, hb, h4, ho, hts⟩ := h
  refine ⟨n0, S, hv, hb.keep k (hn n0 hb.lt ho).1, h4, (hn n0 hb.lt ho).2, fun t ht => ?_⟩
  obtain ⟨h1, h2, h3⟩ := hts t ht
  exact ⟨Lst.marked_keep h1 k (fun b e => ⟨(h3 b e).2, (hn b (h3 b e).2 (h3 b e).1).1⟩), h2, fun b e => ⟨(hn b (h3 b e).2 (h3 b e).1).2, Nat.lt_of_lt_of_le (h3 b e).2 k.size⟩⟩
theorem RollAt.keep {ex : Nat → Prop} {w w' : World} {i : Nat} {v : Value} {out out' : Nat → Prop} (h : RollAt w i v out) (k : Keep ex w w') (hn : ∀ x, x < w.heap.size → out x → ¬ ex x ∧ out' x) : RollAt w' i v out' := by
  obtain ⟨n0, S, hv, hb, h4, ho, hts⟩ := h
  refine ⟨n0, S, hv, hb.keep k (hn n0 hb.lt ho).1, h4, (hn n0 hb.lt ho).2, fun t ht => ?_⟩
  obtain ⟨h1, h2, h3⟩ := hts t ht
  exact ⟨Lst.markedE_keep h1 k (fun b e => ⟨(h3 b e).2, (hn b (h3 b e).2 (h3 b e).1).1⟩), h2, fun b e => ⟨(hn b (h3 b e).2 (h3 b e).1).2, Nat.lt_of_lt_of_le (h3 b e).2 k.size⟩⟩
theorem RowIs.keep {ex : Nat → Prop} {w w' : World} {a0 : Option Addr} {na ca : Nat} {e : TypeId} {VA : List Value} {out : Nat → Prop} (h : RowIs w a0 na ca e VA out) (k : Keep ex w w') (hn : ∀ x, x < w.heap.size → a0 = some ⟨x, 0, none⟩ → ¬ ex x) : RowIs w' a0 na ca e VA out := by
  rcases h with h | ⟨ab, rfl, hv, hl, ho⟩
  · exact Or.inl h
  · exact Or.inr ⟨ab, rfl, hv.keep k (hn ab hv.lt rfl), hl, ho⟩
theorem RowIs.out {w : World} {a0 : Option Addr} {na ca : Nat} {e : TypeId} {VA : List Value} {out out' : Nat → Prop} (h : RowIs w a0 na ca e VA out) (ho : ∀ x, x < w.heap.size → a0 = some ⟨x, 0, none⟩ → ¬ out x → ¬ out' x) : RowIs w a0 na ca e VA out' := by
  rcases h with h | ⟨ab, rfl, hv, hl, h⟩
  · exact Or.inl h
  · exact Or.inr ⟨ab, rfl, hv, hl, ho ab hv.lt rfl h⟩
theorem RowIs.lt {w : World} {a0 : Option Addr} {na ca : Nat} {e : TypeId} {VA : List Value} {out : Nat → Prop} (h : RowIs w a0 na ca e VA out) (x : Nat) (hx : a0 = some ⟨x, 0, none⟩) : x < w.heap.size ∧ ¬ out x := by
  rcases h with ⟨h, _⟩ | ⟨ab, rfl, hv, hl, h⟩
  · rw [h] at hx; cases hx
  · cases hx; exact ⟨hv.lt, h⟩

def apart (yb : Nat) (a0 b0 : Option Addr) (x : Nat) : Prop := x ≠ yb ∧ a0 ≠ some ⟨x, 0, none⟩ ∧ b0 ≠ some ⟨x, 0, none⟩
/-- The book between two steps: W0 is the world at the start. -/
structure Bk (W0 w : World) (yb : Nat) (p0 p1 : Value) (a0 : Option Addr) (na ca : Nat) (VA : List Value) (b0 : Option Addr) (nb cb : Nat) (VB : List Value) : Prop where
  keep : Keep (only yb) W0 w
  play : Blk w yb #[p0, p1, .slice a0 na ca, .slice b0 nb cb, .slice none 0 0, .slice none 0 0, .slice none 0 0, .slice none 0 0] 73
  rowA : RowIs w a0 na ca 106 VA (fun b => b = yb ∨ b < W0.heap.size)
  rowB : RowIs w b0 nb cb 109 VB (fun b => b = yb ∨ b < W0.heap.size)
  ap : ∀ x, a0 = some ⟨x, 0, none⟩ → b0 ≠ some ⟨x, 0, none⟩
  sa : ∀ i v, VA[i]? = some v → SheetAt w i v (apart yb a0 b0)
  sb : ∀ i v, VB[i]? = some v → RollAt w i v (apart yb a0 b0)
def Book (W0 w : World) (yb : Nat) (p0 p1 : Value) (na nb : Nat) : Prop := ∃ a0 ca VA b0 cb VB, Bk W0 w yb p0 p1 a0 na ca VA b0 nb cb VB

theorem Bk.same {W0 w w' : World} {yb : Nat} {p0 p1 : Value} {a0 : Option Addr} {na ca : Nat} {VA : List Value} {b0 : Option Addr} {nb cb : Nat} {VB : List Value} (h : Bk W0 w yb p0 p1 a0 na ca VA b0 nb cb VB) (k : Keep nil w w') : Bk W0 w' yb p0 p1 a0 na ca VA b0 nb cb VB :=
  ⟨h.keep.trans' k (fun _ _ e => e.elim), h.play.keep k (fun e => e), h.rowA.keep k (fun _ _ _ e => e), h.rowB.keep k (fun _ _ _ e => e), h.ap, fun i v hv => (h.sa i v hv).keep k (fun x _ ho => ⟨fun e => e, ho⟩), fun i v hv => (h.sb i v hv).keep k (fun x _ ho => ⟨fun e => e, ho⟩)⟩
theorem Book.same {W0 w w' : World} {yb : Nat} {p0 p1 : Value} {na nb : Nat} (h : Book W0 w yb p0 p1 na nb) (k : Keep nil w w') : Book W0 w' yb p0 p1 na nb :=
  let ⟨a0, ca, VA, b0, cb, VB, hb⟩ := h; ⟨a0, ca, VA, b0, cb, VB, hb.same k⟩

/-- One sheet more. -/
theorem Bk.sheet {W0 w w1 w' : World} {yb : Nat} {p0 p1 : Value} {a0 : Option Addr} {na ca : Nat} {VA : List Value} {b0 : Option Addr} {nb cb : Nat} {VB : List Value} {G : Nat → Prop} (h0 : Bk W0 w yb p0 p1 a0 na ca VA b0 nb cb VB) (k0 : Keep nil w w1) (hG : ∀ x, G x → w.heap.size ≤ x)
    (hb : BkB G w1 w' yb na a0 VA p0 p1 (.slice b0 nb cb) (.slice none 0 0) (.slice none 0 0) (.slice none 0 0) (.slice none 0 0)) : Book W0 w' yb p0 p1 (na + 1) nb := by
  obtain ⟨S, n0, ab, ca', hplay, hrow, hab, hblk, hn0, hne, h4, hts, hk⟩ := hb
  have h := h0.same k0
  have hs0 := k0.size
  have hyl := h0.play.lt
  have hA := fun x hx => h0.rowA.lt x hx
  have hB := fun x hx => h0.rowB.lt x hx
  have hW := h0.keep.size
  have hab' : ab ≠ yb ∧ W0.heap.size ≤ ab ∧ b0 ≠ some ⟨ab, 0, none⟩ := by
    rcases hab with e | e
    · have := hA ab e
      simp only [not_or] at this
      exact ⟨this.2.1, by omega, h0.ap ab e⟩
    · exact ⟨by omega, by omega, fun e' => by have := (hB ab e').1; omega⟩
  have hex : ∀ x, x < w.heap.size → apart yb a0 b0 x → ¬ (G x ∨ x = yb ∨ a0 = some ⟨x, 0, none⟩) ∧ apart yb (some ⟨ab, 0, none⟩) b0 x := fun x hx ⟨h1, h2, h3⟩ =>
    ⟨fun e => by rcases e with e | e | e; have := hG x e; omega; exact h1 e; exact h2 e, h1, fun e => by
      rcases hab with e' | e'
      · exact h2 (e'.trans e)
      · cases e; omega, h3⟩
  have kk : Keep (fun b => G b ∨ b = yb ∨ a0 = some ⟨b, 0, none⟩) w w' := (k0.mono (fun _ _ e => e.elim)).trans hk
  refine ⟨some ⟨ab, 0, none⟩, ca', VA ++ [.slice (some ⟨n0, 0, none⟩) 4 4], b0, cb, VB, ⟨h0.keep.trans' kk (fun i hi e => ?_), hplay, ?_, h0.rowB.keep kk (fun x hx hb e => ?_), fun x hx => ?_, fun i v hv => ?_, fun i v hv => (h0.sb i v hv).keep kk hex⟩⟩
  · rcases e with e | e | e
    · have := hG i e; omega
    · exact e
    · have := (hA i e).2; simp only [not_or] at this; omega
  · refine Or.inr ⟨ab, rfl, hrow, ?_, by simp only [not_or]; exact ⟨hab'.1, by omega⟩⟩
    rw [List.length_append, (h0.rowA.has).1]; rfl
  · rcases e with e | e | e
    · have := hG x e; omega
    · have := (hB x hb).2; simp only [not_or] at this; exact this.1 e
    · exact h0.ap x e hb
  · cases hx; exact hab'.2.2
  · by_cases hi : i < VA.length
    · rw [List.getElem?_append_left hi] at hv
      exact (h0.sa i v hv).keep kk hex
    · rw [List.getElem?_append_right (by omega)] at hv
      have hi0 : i - VA.length = 0 := by have := (List.getElem?_eq_some_iff.1 hv).1; simp at this; omega
      rw [hi0] at hv
      simp at hv
      subst hv
      have hin : i = na := by have := (h0.rowA.has).1; omega
      subst hin
      refine ⟨n0, S, rfl, hblk, h4, ⟨by omega, fun e => by cases e; exact hne rfl, fun e => by have := (hB n0 e).1; omega⟩, fun t ht => ?_⟩
      obtain ⟨h1, h2, h3⟩ := hts t ht
      refine ⟨h1, h2, fun b hb => ?_⟩
      obtain ⟨g1, g2, g3⟩ := h3 b hb
      have hbw : w.heap.size ≤ b := by
        rcases g1 with e | e
        · exact hG b e
        · omega
      exact ⟨⟨by omega, fun e => by cases e; exact g2 rfl, fun e => by have := (hB b e).1; omega⟩, g3⟩
/-- One roll more. -/
theorem Bk.roll {W0 w w1 w' : World} {yb : Nat} {p0 p1 : Value} {a0 : Option Addr} {na ca : Nat} {VA : List Value} {b0 : Option Addr} {nb cb : Nat} {VB : List Value} {G : Nat → Prop} (h0 : Bk W0 w yb p0 p1 a0 na ca VA b0 nb cb VB) (k0 : Keep nil w w1) (hG : ∀ x, G x → w.heap.size ≤ x)
    (hb : BkE G w1 w' yb nb b0 VB p0 p1 (.slice a0 na ca) (.slice none 0 0) (.slice none 0 0) (.slice none 0 0) (.slice none 0 0)) : Book W0 w' yb p0 p1 na (nb + 1) := by
  obtain ⟨S, n0, ab, ca', hplay, hrow, hab, hblk, hn0, hne, h4, hts, hk⟩ := hb
  have hs0 := k0.size
  have hyl := h0.play.lt
  have hA := fun x hx => h0.rowA.lt x hx
  have hB := fun x hx => h0.rowB.lt x hx
  have hW := h0.keep.size
  have hab' : ab ≠ yb ∧ W0.heap.size ≤ ab ∧ a0 ≠ some ⟨ab, 0, none⟩ := by
    rcases hab with e | e
    · have := hB ab e
      simp only [not_or] at this
      exact ⟨this.2.1, by omega, fun e' => h0.ap ab e' e⟩
    · exact ⟨by omega, by omega, fun e' => by have := (hA ab e').1; omega⟩
  have hex : ∀ x, x < w.heap.size → apart yb a0 b0 x → ¬ (G x ∨ x = yb ∨ b0 = some ⟨x, 0, none⟩) ∧ apart yb a0 (some ⟨ab, 0, none⟩) x := fun x hx ⟨h1, h2, h3⟩ =>
    ⟨fun e => by rcases e with e | e | e; have := hG x e; omega; exact h1 e; exact h3 e, h1, h2, fun e => by
      rcases hab with e' | e'
      · exact h3 (e'.trans e)
      · cases e; omega⟩
  have kk : Keep (fun b => G b ∨ b = yb ∨ b0 = some ⟨b, 0, none⟩) w w' := (k0.mono (fun _ _ e => e.elim)).trans hk
  refine ⟨a0, ca, VA, some ⟨ab, 0, none⟩, ca', VB ++ [.slice (some ⟨n0, 0, none⟩) 4 4], ⟨h0.keep.trans' kk (fun i hi e => ?_), hplay, h0.rowA.keep kk (fun x hx hb e => ?_), ?_, fun x hx e => ?_, fun i v hv => (h0.sa i v hv).keep kk hex, fun i v hv => ?_⟩⟩
  · rcases e with e | e | e
    · have := hG i e; omega
    · exact e
    · have := (hB i e).2; simp only [not_or] at this; omega
  · rcases e with e | e | e
    · have := hG x e; omega
    · have := (hA x hb).2; simp only [not_or] at this; exact this.1 e
    · exact h0.ap x hb e
  · refine Or.inr ⟨ab, rfl, hrow, ?_, by simp only [not_or]; exact ⟨hab'.1, by omega⟩⟩
    rw [List.length_append, (h0.rowB.has).1]; rfl
  · cases e; exact hab'.2.2 hx
  · by_cases hi : i < VB.length
    · rw [List.getElem?_append_left hi] at hv
      exact (h0.sb i v hv).keep kk hex
    · rw [List.getElem?_append_right (by omega)] at hv
      have hi0 : i - VB.length = 0 := by have := (List.getElem?_eq_some_iff.1 hv).1; simp at this; omega
      rw [hi0] at hv
      simp at hv
      subst hv
      have hin : i = nb := by have := (h0.rowB.has).1; omega
      subst hin
      refine ⟨n0, S, rfl, hblk, h4, ⟨by omega, fun e => by have := (hA n0 e).1; omega, fun e => by cases e; exact hne rfl⟩, fun t ht => ?_⟩
      obtain ⟨h1, h2, h3⟩ := hts t ht
      refine ⟨h1, h2, fun b hb => ?_⟩
      obtain ⟨g1, g2, g3⟩ := h3 b hb
      have hbw : w.heap.size ≤ b := by
        rcases g1 with e | e
        · exact hG b e
        · omega
      exact ⟨⟨by omega, fun e => by have := (hA b e).1; omega, fun e => by cases e; exact g2 rfl⟩, g3⟩

/-- The book is whole. -/
theorem Book.whole {W0 w : World} {yb : Nat} {p0 p1 : Value} {na nb : Nat} (h : Book W0 w yb p0 p1 na nb) (hna : (na : Int) < 1099511627776) (hnb : (nb : Int) < 1099511627776) :
    Calls Tryz.prog 28 #[.pointer (some ⟨yb, 2, none⟩)] w fun e w' => e = .returned (.bool true) ∧ ∃ m, w' = w.drewN m := by
  obtain ⟨a0, ca, VA, b0, cb, VB, hb⟩ := h
  exact whole_any yb a0 na ca VA b0 nb cb VB p0 p1 _ w hb.play hb.rowA.has hb.rowB.has hb.sa hb.sb hna hnb
end Go.Proofs.YtlfijfodklhplaaGreat
