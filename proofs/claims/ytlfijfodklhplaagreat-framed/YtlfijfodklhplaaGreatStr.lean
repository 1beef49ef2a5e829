/- Bytes as a string. -/
import Derived.Test.YtlfijfodklhplaaGreatBytes
import Derived.Laws.BytesString
namespace Go.Proofs.YtlfijfodklhplaaGreat
open Go.RowKit
set_option linter.unusedVariables false

def bstr (l : List Nat) : ByteArray := (l.map (fun x : Nat => (x : Int))).foldl (fun r n => r.push (UInt8.ofNat n.toNat)) ByteArray.empty
theorem bstr_fold (l : List Nat) (r : ByteArray) : ((l.map (fun x : Nat => (x : Int))).foldl (fun r n => r.push (UInt8.ofNat n.toNat)) r).data.toList = r.data.toList ++ l.map UInt8.ofNat := by
  induction l generalizing r with
  | nil => simp
  | cons x t ih => simp only [List.map_cons, List.foldl_cons]; rw [ih]; simp [ByteArray.push]
theorem bstr_toList (l : List Nat) : (bstr l).toList = l.map UInt8.ofNat := by
  rw [ByteArray.toList_eq, bstr, bstr_fold]; rfl
theorem ofNat_inj {l m : List Nat} (hl : ∀ x ∈ l, x < 256) (hm : ∀ x ∈ m, x < 256) (h : l.map UInt8.ofNat = m.map UInt8.ofNat) : l = m := by
  have e : ∀ l : List Nat, (∀ x ∈ l, x < 256) → (l.map UInt8.ofNat).map UInt8.toNat = l := fun l hl => by
    rw [List.map_map]
    conv => rhs; rw [← List.map_id l]
    refine List.map_congr_left fun x hx => ?_
    simp only [Function.comp, id, UInt8.toNat_ofNat']
    have := hl x hx
    omega
  rw [← e l hl, ← e m hm, h]
theorem bstr_eq (l m : List Nat) (hl : ∀ x ∈ l, x < 256) (hm : ∀ x ∈ m, x < 256) : ((bstr l).toList == (bstr m).toList) = decide (l = m) := by
  rw [bstr_toList, bstr_toList, Bool.eq_iff_iff, beq_iff_eq, decide_eq_true_eq]
  exact ⟨ofNat_inj hl hm, fun h => by rw [h]⟩

theorem conv_row (w : World) (b o c : Nat) (l : List Nat) (hrow : Row w b o l) : (convert 56 9 (.slice (some ⟨b, o, none⟩) l.length c)).run Tryz.prog w = .ok (.string (bstr l)) w := by
  rw [run_convert_bytes_string w 56 9 5 (some ⟨b, o, none⟩) l.length c Tryz.underlying56 Tryz.underlying5 Tryz.underlying9]
  refine run_bytesToString w ⟨b, o, none⟩ l.length c (l.map (fun x : Nat => (x : Int))) ?_
  have := run_loadCells_list (P := Tryz.prog) w ⟨b, o, none⟩ (l.map bv) (cells_row hrow)
  rw [List.length_map] at this
  rw [this, List.map_map]
  rfl
theorem conv_nil (w : World) : (convert 56 9 (.slice none 0 0)).run Tryz.prog w = .ok (.string (bstr [])) w := by
  rw [run_convert_bytes_string w 56 9 5 none 0 0 Tryz.underlying56 Tryz.underlying5 Tryz.underlying9]
  rfl
end Go.Proofs.YtlfijfodklhplaaGreat
