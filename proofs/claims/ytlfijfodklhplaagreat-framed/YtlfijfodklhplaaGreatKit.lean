/- What a call leaves as it was: 'Keep ex w w'': every block that was there, but those of which 'ex' speaks, is as it was. -/
import Derived.WalkKit
import Derived.WalkLawsBesides
import Derived.WalkSpells
import Derived.Laws.BitsAllLaws
import Derived.Laws.Shifts
import Derived.Deep.QuietTactic
import Derived.BigQuiet
import Derived.Deep.RegionWith
import Derived.RegionDies
namespace Go.Proofs.YtlfijfodklhplaaGreat
open Go.RowKit

structure Keep (ex : Nat → Prop) (w w' : World) : Prop where
  os : w'.os = w.os
  tape : w'.tape = w.tape
  output : w'.output = w.output
  size : w.heap.size ≤ w'.heap.size
  block : ∀ k, k < w.heap.size → ¬ ex k → w'.heap[k]? = w.heap[k]?

def nil (_ : Nat) : Prop := False
def only (b : Nat) (k : Nat) : Prop := k = b

theorem Keep.refl (ex : Nat → Prop) (w : World) : Keep ex w w := ⟨rfl, rfl, rfl, Nat.le_refl _, fun _ _ _ => rfl⟩
theorem Keep.trans {ex : Nat → Prop} {a b c : World} (h : Keep ex a b) (k : Keep ex b c) : Keep ex a c :=
  ⟨k.os.trans h.os, k.tape.trans h.tape, k.output.trans h.output, Nat.le_trans h.size k.size, fun i hi hx => (k.block i (Nat.lt_of_lt_of_le hi h.size) hx).trans (h.block i hi hx)⟩
/-- What a second step may turn, if all that is new for the first world: it is nothing that the first world had. -/
theorem Keep.trans' {ex ex' : Nat → Prop} {a b c : World} (h : Keep ex a b) (k : Keep ex' b c) (hx : ∀ i, i < a.heap.size → ex' i → ex i) : Keep ex a c :=
  ⟨k.os.trans h.os, k.tape.trans h.tape, k.output.trans h.output, Nat.le_trans h.size k.size, fun i hi hn => (k.block i (Nat.lt_of_lt_of_le hi h.size) (fun e => hn (hx i hi e))).trans (h.block i hi hn)⟩
theorem Keep.mono {ex ex' : Nat → Prop} {w w' : World} (h : Keep ex w w') (hx : ∀ i, i < w.heap.size → ex i → ex' i) : Keep ex' w w' :=
  ⟨h.os, h.tape, h.output, h.size, fun k hk hn => h.block k hk (fun e => hn (hx k hk e))⟩
theorem Keep.drew {ex : Nat → Prop} {a w : World} (h : Keep ex a w) : Keep ex a w.drew := ⟨h.os, h.tape, h.output, h.size, h.block⟩
theorem Keep.drewN {ex : Nat → Prop} {a w : World} (h : Keep ex a w) (n : Nat) : Keep ex a (w.drewN n) := by
  induction n generalizing w with
  | zero => exact h
  | succ n ih => exact (ih h).drew
theorem Keep.alloc {ex : Nat → Prop} {a w : World} (h : Keep ex a w) (o : Obj) : Keep ex a (w.alloc o) :=
  h.trans ⟨rfl, rfl, rfl, by simp, fun k hk _ => Below.heap_alloc _ _ _ hk⟩
theorem Keep.setCell {ex : Nat → Prop} {a w : World} (h : Keep ex a w) {p : Addr} (hp : p.block < a.heap.size → ex p.block) (u : Value) : Keep ex a (w.setCell p u) :=
  ⟨h.os, h.tape, h.output, by simpa using h.size, fun k hk hn => (Below.heap_setCell w p u k (fun e => by subst e; exact hn (hp hk))).trans (h.block k hk hn)⟩
theorem Keep.cell {ex : Nat → Prop} {w w' : World} (h : Keep ex w w') (b o : Nat) (hb : b < w.heap.size) (hn : ¬ ex b) : w'.cell? ⟨b, o, none⟩ = w.cell? ⟨b, o, none⟩ := World.cell?_of_block (w := w) (h.block b hb hn)
theorem Keep.frozen {ex : Nat → Prop} {w w' : World} (h : Keep ex w w') (b o : Nat) (hb : b < w.heap.size) (hn : ¬ ex b) : w'.frozen? ⟨b, o, none⟩ = w.frozen? ⟨b, o, none⟩ := World.frozen?_of_block (w := w) (h.block b hb hn)
theorem Keep.below {w w' : World} (h : Keep nil w w') : Below w.heap.size w w' := ⟨h.os, h.tape, h.output, h.size, fun k hk => h.block k hk (fun e => e)⟩
theorem Keep.of_below {w w' : World} (h : Below w.heap.size w w') (ex : Nat → Prop) : Keep ex w w' := ⟨h.os, h.tape, h.output, h.size, fun k hk _ => h.block k hk⟩
theorem heap_drewN (w : World) (n : Nat) : (w.drewN n).heap = w.heap := by
  induction n generalizing w with
  | zero => rfl
  | succ n ih => exact ih w.drew

/-- A block of cells, known whole. -/
def Blk (w : World) (b : Nat) (c : Array Value) (t : TypeId) : Prop := w.heap[b]? = some (.cells c t)
theorem Blk.lt {w : World} {b : Nat} {c : Array Value} {t : TypeId} (h : Blk w b c t) : b < w.heap.size := by
  unfold Blk at h
  exact (Array.getElem?_eq_some_iff.1 h).1
theorem Blk.cell {w : World} {b : Nat} {c : Array Value} {t : TypeId} (h : Blk w b c t) (i : Nat) : w.cell? ⟨b, i, none⟩ = c[i]? := by
  unfold Blk at h
  simp [World.cell?, h]
theorem Blk.frozen {w : World} {b : Nat} {c : Array Value} {t : TypeId} (h : Blk w b c t) (i : Nat) : w.frozen? ⟨b, i, none⟩ = false := by
  unfold Blk at h
  simp [World.frozen?, h]
theorem Blk.keep {ex : Nat → Prop} {w w' : World} {b : Nat} {c : Array Value} {t : TypeId} (h : Blk w b c t) (k : Keep ex w w') (hn : ¬ ex b) : Blk w' b c t := (k.block b h.lt hn).trans h
theorem Blk.drew {w : World} {b : Nat} {c : Array Value} {t : TypeId} (h : Blk w b c t) : Blk w.drew b c t := h
theorem Blk.drewN {w : World} {b : Nat} {c : Array Value} {t : TypeId} (h : Blk w b c t) (n : Nat) : Blk (w.drewN n) b c t := by
  unfold Blk; rw [heap_drewN]; exact h
theorem Blk.set {w : World} {b : Nat} {c : Array Value} {t : TypeId} (h : Blk w b c t) (i : Nat) (v : Value) : Blk (w.setCell ⟨b, i, none⟩ v) b (c.setIfInBounds i v) t := by
  have hb := h.lt
  unfold Blk at h ⊢
  simp [World.setCell, Array.getElem?_modify, h]
theorem Blk.new (w : World) (c : Array Value) (t : TypeId) : Blk (w.alloc (.cells c t)) w.heap.size c t := by
  show (w.heap.push _)[w.heap.size]? = _
  simp
theorem Blk.new' (w : World) (c : Array Value) (t : TypeId) (n : Nat) (h : n = w.heap.size) : Blk (w.alloc (.cells c t)) n c t := by subst h; exact Blk.new w c t
theorem Blk.old {w : World} {b : Nat} {c : Array Value} {t : TypeId} (h : Blk w b c t) (o : Obj) : Blk (w.alloc o) b c t := (Below.heap_alloc _ _ _ h.lt).trans h

/-- Bytes in a row of memory, from an offset on. -/
def Row (w : World) (b o : Nat) (l : List Nat) : Prop := ∀ i (h : i < l.length), w.cell? ⟨b, o + i, none⟩ = some (.int .u8 (l[i] : Nat))
theorem Row.keep {ex : Nat → Prop} {w w' : World} {b o : Nat} {l : List Nat} (h : Row w b o l) (k : Keep ex w w') (hb : b < w.heap.size) (hn : ¬ ex b) : Row w' b o l :=
  fun i hi => (k.cell b (o + i) hb hn).trans (h i hi)
end Go.Proofs.YtlfijfodklhplaaGreat
