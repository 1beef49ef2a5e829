/- Rows of bytes: facts that the walks of lent, returned and the book share. -/
import Derived.Test.YtlfijfodklhplaaGreatGrow
import Derived.Test.YtlfijfodklhplaaGreatApp
namespace Go.Proofs.YtlfijfodklhplaaGreat
open Go.RowKit
set_option linter.unusedVariables false

/-- A row of bytes, and room. -/
abbrev BRow (w : World) (g : Nat) (l : List Nat) (c : Nat) : Prop := VBuf w g 5 1 (l.map bv) c
theorem brow_row {w : World} {g : Nat} {l : List Nat} {c : Nat} (h : BRow w g l c) : Row w g 0 l := by
  intro i hi
  rw [Nat.zero_add]
  exact h.cell i _ (by simp [hi, bv])
theorem cells_list (w : World) (vs : List Value) (t : TypeId) (n : Nat) (hn : n = w.heap.size) : ∀ j u, vs[j]? = some u → (w.alloc (.cells vs.toArray t)).cell? ((⟨n, 0, none⟩ : Addr).add j) = some u := by
  intro j u hu
  subst hn
  rw [Addr.add_lit, Nat.zero_add, World.cell?_alloc_new, List.getElem?_toArray]
  exact hu
theorem cells_row {w : World} {b o : Nat} {l : List Nat} (h : Row w b o l) : ∀ j u, (l.map bv)[j]? = some u → w.cell? ((⟨b, o, none⟩ : Addr).add j) = some u := by
  intro j u hu
  rw [List.getElem?_map] at hu
  obtain ⟨x, hx, rfl⟩ := Option.map_eq_some_iff.1 hu
  obtain ⟨hj, rfl⟩ := List.getElem?_eq_some_iff.1 hx
  rw [Addr.add_lit]
  exact h j hj
end Go.Proofs.YtlfijfodklhplaaGreat
