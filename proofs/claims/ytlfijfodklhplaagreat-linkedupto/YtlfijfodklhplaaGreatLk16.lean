import Derived.Test.YtlfijfodklhplaaGreatLk15
import Derived.Test.YtlfijfodklhplaaGreatLk01
import Derived.BigRegion
/- Walk of the document's Decode, at ten bytes. -/
namespace Go.Proofs.YtlfijfodklhplaaGreat
open Go.RowKit
set_option linter.unusedVariables false

set_option maxRecDepth 100000 in
set_option maxHeartbeats 4000000 in
theorem refdec_ten_yes (bb bo cap : Nat) (x0 x1 x2 x3 x4 x5 x6 x7 x8 x9 : Nat) (w : World) (hrow : Row w bb bo [x0, x1, x2, x3, x4, x5, x6, x7, x8, x9]) (hbb : bb < w.heap.size) (hcap : 10 ≤ cap) (hb : ∀ x ∈ [x0, x1, x2, x3, x4, x5, x6, x7, x8, x9], x < 256)
    (hok : FrOk ⟨true, x1 * 256 + x2, ⟨x3, x4, x6 * 256 + x7, x5 == 1⟩⟩) (heq : Fr.enc ⟨true, x1 * 256 + x2, ⟨x3, x4, x6 * 256 + x7, x5 == 1⟩⟩ = [x0, x1, x2, x3, x4, x5, x6, x7, x8, x9]) :
    Calls Tryz.prog 81 #[.slice (some ⟨bb, bo, none⟩) 10 cap] w fun e w' => e = .returned (.tuple #[.agg (fc true ((x1 : Int) * 256 + (x2 : Int)) (x3 : Int) (x4 : Int) ((x6 : Int) * 256 + (x7 : Int)) (x5 == 1)), .int .i64 0]) ∧ Keep nil w w' := by
  have HO : Unit → FrOk ⟨true, x1 * 256 + x2, ⟨x3, x4, x6 * 256 + x7, x5 == 1⟩⟩ := fun _ => hok
  have HQ : Unit → Fr.enc ⟨true, x1 * 256 + x2, ⟨x3, x4, x6 * 256 + x7, x5 == 1⟩⟩ = [x0, x1, x2, x3, x4, x5, x6, x7, x8, x9] := fun _ => heq
  clear hok heq
  have h1 : x1 < 256 := hb x1 (by simp)
  have h2 : x2 < 256 := hb x2 (by simp)
  have h3 : x3 < 256 := hb x3 (by simp)
  have h4 : x4 < 256 := hb x4 (by simp)
  have h6 : x6 < 256 := hb x6 (by simp)
  have h7 : x7 < 256 := hb x7 (by simp)
  have h5 : ((x5 : Int) == 1) = (x5 == 1) := by rw [Bool.eq_iff_iff, beq_iff_eq, beq_iff_eq]; omega
  have q1 := hrow 1 (by simp)
  have q2 := hrow 2 (by simp)
  have q3 := hrow 3 (by simp)
  have q4 := hrow 4 (by simp)
  have q5 := hrow 5 (by simp)
  have q6 := hrow 6 (by simp)
  have q7 := hrow 7 (by simp)
  simp at q1 q2 q3 q4 q5 q6 q7
  have HB : Unit → ∀ x ∈ [x0, x1, x2, x3, x4, x5, x6, x7, x8, x9], x < 256 := fun _ => hb
  clear hb
  go_enter Tryz.func81, Tryz.ntmps81
  go_wp2
  go_region
  go_wp2
  go_region
  clear q1 q2 q3 q4 q5 q6 q7
  go_wp2_with fail
  have he := refenc_any ⟨true, x1 * 256 + x2, ⟨x3, x4, x6 * 256 + x7, x5 == 1⟩⟩ (HO ()) ((w.alloc (.cells (fc false 0 0 0 0 false) 78)).alloc (.cells (fc true ((x1 : Int) * 256 + (x2 : Int)) (x3 : Int) (x4 : Int) ((x6 : Int) * 256 + (x7 : Int)) (x5 == 1)) 78)).drew.drew
  refine he.mono ?_
  rintro e w2 ⟨g, c, rfl, hg, hc, hb2, hk2⟩
  clear he
  rw [show flen ⟨true, x1 * 256 + x2, ⟨x3, x4, x6 * 256 + x7, x5 == 1⟩⟩ = 10 from rfl]
  have kk : Keep nil w w2 := (((((Keep.refl nil w).alloc _).alloc _).drew).drew).trans hk2
  have bF := (((Blk.new' (w.alloc (.cells (fc false 0 0 0 0 false) 78)) (fc true ((x1 : Int) * 256 + (x2 : Int)) (x3 : Int) (x4 : Int) ((x6 : Int) * 256 + (x7 : Int)) (x5 == 1)) 78 (w.heap.size + 1) (World.size_alloc _ _).symm)).drew.drew).keep hk2 (fun e => e)
  have bR := (((Blk.new w (fc false 0 0 0 0 false) 78).old (.cells (fc true ((x1 : Int) * 256 + (x2 : Int)) (x3 : Int) (x4 : Int) ((x6 : Int) * 256 + (x7 : Int)) (x5 == 1)) 78)).drew.drew).keep hk2 (fun e => e)
  have r2 : Row w2 bb bo [x0, x1, x2, x3, x4, x5, x6, x7, x8, x9] := hrow.keep kk hbb (fun e => e)
  have s1 := conv_row w2 g 0 c (Fr.enc ⟨true, x1 * 256 + x2, ⟨x3, x4, x6 * 256 + x7, x5 == 1⟩⟩) (brow_row hb2)
  have s2 := conv_row w2 bb bo cap [x0, x1, x2, x3, x4, x5, x6, x7, x8, x9] r2
  rw [enc_len, show flen ⟨true, x1 * 256 + x2, ⟨x3, x4, x6 * 256 + x7, x5 == 1⟩⟩ = 10 from rfl] at s1
  rw [show [x0, x1, x2, x3, x4, x5, x6, x7, x8, x9].length = 10 from rfl] at s2
  have s3 := bstr_eq (Fr.enc ⟨true, x1 * 256 + x2, ⟨x3, x4, x6 * 256 + x7, x5 == 1⟩⟩) [x0, x1, x2, x3, x4, x5, x6, x7, x8, x9] (enc_byte _ (HO ())) (HB ())
  generalize bstr (Fr.enc ⟨true, x1 * 256 + x2, ⟨x3, x4, x6 * 256 + x7, x5 == 1⟩⟩) = t1 at *
  generalize bstr [x0, x1, x2, x3, x4, x5, x6, x7, x8, x9] = t2 at *
  have q0 := bF.cell 0
  have q1 := bF.cell 1
  have q2 := bF.cell 2
  have q3 := bF.cell 3
  have q4 := bF.cell 4
  have q5 := bF.cell 5
  have r0 := bR.cell 0
  have r1 := bR.cell 1
  have r2 := bR.cell 2
  have r3 := bR.cell 3
  have r4 := bR.cell 4
  have r5 := bR.cell 5
  have r6 := fun i => bR.frozen i
  simp at q0 q1 q2 q3 q4 q5 r0 r1 r2 r3 r4 r5
  clear hb2 hrow hk2 hg HO
  rw [decide_eq_true (HQ ())] at s3
  clear HQ
  go_wp2
  have d1 := bR.put6 true ((x1 : Int) * 256 + (x2 : Int)) (x3 : Int) (x4 : Int) ((x6 : Int) * 256 + (x7 : Int)) (x5 == 1)
  have k1 : Keep nil w (put6 w2 w.heap.size true ((x1 : Int) * 256 + (x2 : Int)) (x3 : Int) (x4 : Int) ((x6 : Int) * 256 + (x7 : Int)) (x5 == 1)) := kk.put6 w.heap.size (fun h => by omega) true ((x1 : Int) * 256 + (x2 : Int)) (x3 : Int) (x4 : Int) ((x6 : Int) * 256 + (x7 : Int)) (x5 == 1)
  have z0 := d1.cell 0
  have z1 := d1.cell 1
  have z2 := d1.cell 2
  have z3 := d1.cell 3
  have z4 := d1.cell 4
  have z5 := d1.cell 5
  simp only [List.getElem?_toArray] at z0 z1 z2 z3 z4 z5
  exact bodyPost_ret (v := .tuple #[.agg (fc true ((x1 : Int) * 256 + (x2 : Int)) (x3 : Int) (x4 : Int) ((x6 : Int) * 256 + (x7 : Int)) (x5 == 1)), .int .i64 0]) (by simp [results, Tryz.results81, go_sem, z0, z1, z2, z3, z4, z5]) rfl ⟨rfl, k1⟩

set_option maxRecDepth 100000 in
set_option maxHeartbeats 4000000 in
theorem refdec_ten_no (bb bo cap : Nat) (x0 x1 x2 x3 x4 x5 x6 x7 x8 x9 : Nat) (w : World) (hrow : Row w bb bo [x0, x1, x2, x3, x4, x5, x6, x7, x8, x9]) (hbb : bb < w.heap.size) (hcap : 10 ≤ cap) (hb : ∀ x ∈ [x0, x1, x2, x3, x4, x5, x6, x7, x8, x9], x < 256)
    (hok : FrOk ⟨true, x1 * 256 + x2, ⟨x3, x4, x6 * 256 + x7, x5 == 1⟩⟩) (heq : ¬ Fr.enc ⟨true, x1 * 256 + x2, ⟨x3, x4, x6 * 256 + x7, x5 == 1⟩⟩ = [x0, x1, x2, x3, x4, x5, x6, x7, x8, x9]) :
    Calls Tryz.prog 81 #[.slice (some ⟨bb, bo, none⟩) 10 cap] w fun e w' => e = .returned (.tuple #[.agg (fc false 0 0 0 0 false), .int .i64 9]) ∧ Keep nil w w' := by
  have HO : Unit → FrOk ⟨true, x1 * 256 + x2, ⟨x3, x4, x6 * 256 + x7, x5 == 1⟩⟩ := fun _ => hok
  have HQ : Unit → ¬ Fr.enc ⟨true, x1 * 256 + x2, ⟨x3, x4, x6 * 256 + x7, x5 == 1⟩⟩ = [x0, x1, x2, x3, x4, x5, x6, x7, x8, x9] := fun _ => heq
  clear hok heq
  have h1 : x1 < 256 := hb x1 (by simp)
  have h2 : x2 < 256 := hb x2 (by simp)
  have h3 : x3 < 256 := hb x3 (by simp)
  have h4 : x4 < 256 := hb x4 (by simp)
  have h6 : x6 < 256 := hb x6 (by simp)
  have h7 : x7 < 256 := hb x7 (by simp)
  have h5 : ((x5 : Int) == 1) = (x5 == 1) := by rw [Bool.eq_iff_iff, beq_iff_eq, beq_iff_eq]; omega
  have q1 := hrow 1 (by simp)
  have q2 := hrow 2 (by simp)
  have q3 := hrow 3 (by simp)
  have q4 := hrow 4 (by simp)
  have q5 := hrow 5 (by simp)
  have q6 := hrow 6 (by simp)
  have q7 := hrow 7 (by simp)
  simp at q1 q2 q3 q4 q5 q6 q7
  have HB : Unit → ∀ x ∈ [x0, x1, x2, x3, x4, x5, x6, x7, x8, x9], x < 256 := fun _ => hb
  clear hb
  go_enter Tryz.func81, Tryz.ntmps81
  go_wp2
  go_region
  go_wp2
  go_region
  clear q1 q2 q3 q4 q5 q6 q7
  go_wp2_with fail
  have he := refenc_any ⟨true, x1 * 256 + x2, ⟨x3, x4, x6 * 256 + x7, x5 == 1⟩⟩ (HO ()) ((w.alloc (.cells (fc false 0 0 0 0 false) 78)).alloc (.cells (fc true ((x1 : Int) * 256 + (x2 : Int)) (x3 : Int) (x4 : Int) ((x6 : Int) * 256 + (x7 : Int)) (x5 == 1)) 78)).drew.drew
  refine he.mono ?_
  rintro e w2 ⟨g, c, rfl, hg, hc, hb2, hk2⟩
  clear he
  rw [show flen ⟨true, x1 * 256 + x2, ⟨x3, x4, x6 * 256 + x7, x5 == 1⟩⟩ = 10 from rfl]
  have kk : Keep nil w w2 := (((((Keep.refl nil w).alloc _).alloc _).drew).drew).trans hk2
  have bF := (((Blk.new' (w.alloc (.cells (fc false 0 0 0 0 false) 78)) (fc true ((x1 : Int) * 256 + (x2 : Int)) (x3 : Int) (x4 : Int) ((x6 : Int) * 256 + (x7 : Int)) (x5 == 1)) 78 (w.heap.size + 1) (World.size_alloc _ _).symm)).drew.drew).keep hk2 (fun e => e)
  have bR := (((Blk.new w (fc false 0 0 0 0 false) 78).old (.cells (fc true ((x1 : Int) * 256 + (x2 : Int)) (x3 : Int) (x4 : Int) ((x6 : Int) * 256 + (x7 : Int)) (x5 == 1)) 78)).drew.drew).keep hk2 (fun e => e)
  have r2 : Row w2 bb bo [x0, x1, x2, x3, x4, x5, x6, x7, x8, x9] := hrow.keep kk hbb (fun e => e)
  have s1 := conv_row w2 g 0 c (Fr.enc ⟨true, x1 * 256 + x2, ⟨x3, x4, x6 * 256 + x7, x5 == 1⟩⟩) (brow_row hb2)
  have s2 := conv_row w2 bb bo cap [x0, x1, x2, x3, x4, x5, x6, x7, x8, x9] r2
  rw [enc_len, show flen ⟨true, x1 * 256 + x2, ⟨x3, x4, x6 * 256 + x7, x5 == 1⟩⟩ = 10 from rfl] at s1
  rw [show [x0, x1, x2, x3, x4, x5, x6, x7, x8, x9].length = 10 from rfl] at s2
  have s3 := bstr_eq (Fr.enc ⟨true, x1 * 256 + x2, ⟨x3, x4, x6 * 256 + x7, x5 == 1⟩⟩) [x0, x1, x2, x3, x4, x5, x6, x7, x8, x9] (enc_byte _ (HO ())) (HB ())
  generalize bstr (Fr.enc ⟨true, x1 * 256 + x2, ⟨x3, x4, x6 * 256 + x7, x5 == 1⟩⟩) = t1 at *
  generalize bstr [x0, x1, x2, x3, x4, x5, x6, x7, x8, x9] = t2 at *
  have q0 := bF.cell 0
  have q1 := bF.cell 1
  have q2 := bF.cell 2
  have q3 := bF.cell 3
  have q4 := bF.cell 4
  have q5 := bF.cell 5
  have r0 := bR.cell 0
  have r1 := bR.cell 1
  have r2 := bR.cell 2
  have r3 := bR.cell 3
  have r4 := bR.cell 4
  have r5 := bR.cell 5
  have r6 := fun i => bR.frozen i
  simp at q0 q1 q2 q3 q4 q5 r0 r1 r2 r3 r4 r5
  clear hb2 hrow hk2 hg HO
  rw [decide_eq_false (HQ ())] at s3
  clear HQ
  go_wp2
  have d1 := bR.put6 false 0 0 0 0 false
  have k1 : Keep nil w (put6 w2 w.heap.size false 0 0 0 0 false) := kk.put6 w.heap.size (fun h => by omega) false 0 0 0 0 false
  have z0 := d1.cell 0
  have z1 := d1.cell 1
  have z2 := d1.cell 2
  have z3 := d1.cell 3
  have z4 := d1.cell 4
  have z5 := d1.cell 5
  simp only [List.getElem?_toArray] at z0 z1 z2 z3 z4 z5
  exact bodyPost_ret (v := .tuple #[.agg (fc false 0 0 0 0 false), .int .i64 9]) (by simp [results, Tryz.results81, go_sem, z0, z1, z2, z3, z4, z5]) rfl ⟨rfl, k1⟩

set_option maxRecDepth 100000 in
set_option maxHeartbeats 4000000 in
theorem refdec_ten_err (bb bo cap : Nat) (x0 x1 x2 x3 x4 x5 x6 x7 x8 x9 : Nat) (w : World) (hrow : Row w bb bo [x0, x1, x2, x3, x4, x5, x6, x7, x8, x9]) (hbb : bb < w.heap.size) (hcap : 10 ≤ cap) (hb : ∀ x ∈ [x0, x1, x2, x3, x4, x5, x6, x7, x8, x9], x < 256)
    (herr : encErr true ((x1 : Int) * 256 + (x2 : Int)) (x3 : Int) (x4 : Int) ((x6 : Int) * 256 + (x7 : Int)) (x5 == 1) ≠ 0) :
    Calls Tryz.prog 81 #[.slice (some ⟨bb, bo, none⟩) 10 cap] w fun e w' => e = .returned (.tuple #[.agg (fc false 0 0 0 0 false), .int .i64 9]) ∧ Keep nil w w' := by
  have HO : Unit → encErr true ((x1 : Int) * 256 + (x2 : Int)) (x3 : Int) (x4 : Int) ((x6 : Int) * 256 + (x7 : Int)) (x5 == 1) ≠ 0 := fun _ => herr
  clear herr
  have h1 : x1 < 256 := hb x1 (by simp)
  have h2 : x2 < 256 := hb x2 (by simp)
  have h3 : x3 < 256 := hb x3 (by simp)
  have h4 : x4 < 256 := hb x4 (by simp)
  have h6 : x6 < 256 := hb x6 (by simp)
  have h7 : x7 < 256 := hb x7 (by simp)
  have h5 : ((x5 : Int) == 1) = (x5 == 1) := by rw [Bool.eq_iff_iff, beq_iff_eq, beq_iff_eq]; omega
  have q1 := hrow 1 (by simp)
  have q2 := hrow 2 (by simp)
  have q3 := hrow 3 (by simp)
  have q4 := hrow 4 (by simp)
  have q5 := hrow 5 (by simp)
  have q6 := hrow 6 (by simp)
  have q7 := hrow 7 (by simp)
  simp at q1 q2 q3 q4 q5 q6 q7
  have HB : Unit → ∀ x ∈ [x0, x1, x2, x3, x4, x5, x6, x7, x8, x9], x < 256 := fun _ => hb
  clear hb
  go_enter Tryz.func81, Tryz.ntmps81
  go_wp2
  go_region
  go_wp2
  go_region
  clear q1 q2 q3 q4 q5 q6 q7
  go_wp2_with fail
  have he := refenc_err true ((x1 : Int) * 256 + (x2 : Int)) (x3 : Int) (x4 : Int) ((x6 : Int) * 256 + (x7 : Int)) (x5 == 1) (HO ()) ((w.alloc (.cells (fc false 0 0 0 0 false) 78)).alloc (.cells (fc true ((x1 : Int) * 256 + (x2 : Int)) (x3 : Int) (x4 : Int) ((x6 : Int) * 256 + (x7 : Int)) (x5 == 1)) 78)).drew.drew
  refine he.mono ?_
  rintro e w2 ⟨rfl, hk2⟩
  clear he
  have hne : ((encErr true ((x1 : Int) * 256 + (x2 : Int)) (x3 : Int) (x4 : Int) ((x6 : Int) * 256 + (x7 : Int)) (x5 == 1)) != 0) = true := by have := HO (); simpa using this
  clear HO
  generalize encErr true ((x1 : Int) * 256 + (x2 : Int)) (x3 : Int) (x4 : Int) ((x6 : Int) * 256 + (x7 : Int)) (x5 == 1) = E at *
  have kk : Keep nil w w2 := (((((Keep.refl nil w).alloc _).alloc _).drew).drew).trans hk2
  have bF := (((Blk.new' (w.alloc (.cells (fc false 0 0 0 0 false) 78)) (fc true ((x1 : Int) * 256 + (x2 : Int)) (x3 : Int) (x4 : Int) ((x6 : Int) * 256 + (x7 : Int)) (x5 == 1)) 78 (w.heap.size + 1) (World.size_alloc _ _).symm)).drew.drew).keep hk2 (fun e => e)
  have bR := (((Blk.new w (fc false 0 0 0 0 false) 78).old (.cells (fc true ((x1 : Int) * 256 + (x2 : Int)) (x3 : Int) (x4 : Int) ((x6 : Int) * 256 + (x7 : Int)) (x5 == 1)) 78)).drew.drew).keep hk2 (fun e => e)
  have q0 := bF.cell 0
  have q1 := bF.cell 1
  have q2 := bF.cell 2
  have q3 := bF.cell 3
  have q4 := bF.cell 4
  have q5 := bF.cell 5
  have r0 := bR.cell 0
  have r1 := bR.cell 1
  have r2 := bR.cell 2
  have r3 := bR.cell 3
  have r4 := bR.cell 4
  have r5 := bR.cell 5
  have r6 := fun i => bR.frozen i
  simp at q0 q1 q2 q3 q4 q5 r0 r1 r2 r3 r4 r5
  clear hk2 hrow
  go_wp2
  have d1 := bR.put6 false 0 0 0 0 false
  have k1 : Keep nil w (put6 w2 w.heap.size false 0 0 0 0 false) := kk.put6 w.heap.size (fun h => by omega) false 0 0 0 0 false
  have z0 := d1.cell 0
  have z1 := d1.cell 1
  have z2 := d1.cell 2
  have z3 := d1.cell 3
  have z4 := d1.cell 4
  have z5 := d1.cell 5
  simp only [List.getElem?_toArray] at z0 z1 z2 z3 z4 z5
  exact bodyPost_ret (v := .tuple #[.agg (fc false 0 0 0 0 false), .int .i64 9]) (by simp [results, Tryz.results81, go_sem, z0, z1, z2, z3, z4, z5]) rfl ⟨rfl, k1⟩

end Go.Proofs.YtlfijfodklhplaaGreat
/- The document's Decode, at all bytes: the same frames as the program's. -/
namespace Go.Proofs.YtlfijfodklhplaaGreat
open Go.RowKit
set_option linter.unusedVariables false

theorem list5 (l : List Nat) (h : l.length = 5) : ∃ a b c d e, l = [a, b, c, d, e] := by
  match l, h with
  | [a, b, c, d, e], _ => exact ⟨a, b, c, d, e, rfl⟩
theorem list10 (l : List Nat) (h : l.length = 10) : ∃ a b c d e f g i j k, l = [a, b, c, d, e, f, g, i, j, k] := by
  match l, h with
  | [a, b, c, d, e, f, g, i, j, k], _ => exact ⟨a, b, c, d, e, f, g, i, j, k, rfl⟩

theorem frame_ten (x1 x2 x3 x4 x5 x6 x7 : Nat) (h1 : x1 < 256) (h2 : x2 < 256) (h3 : x3 < 256) (h4 : x4 < 256) (h6 : x6 < 256) (h7 : x7 < 256)
    (hm : may (x3 : Int) (x4 : Int) ((x6 : Int) * 256 + (x7 : Int)) (x5 == 1) = true) : FrOk ⟨true, x1 * 256 + x2, ⟨x3, x4, x6 * 256 + x7, x5 == 1⟩⟩ := by
  refine ⟨by show x1 * 256 + x2 < 65536; omega, Or.inl ⟨rfl, h3, h4, by show x6 * 256 + x7 < 65536; omega, ?_⟩⟩
  have e : ((x6 * 256 + x7 : Nat) : Int) = (x6 : Int) * 256 + (x7 : Int) := by omega
  show may (x3 : Int) (x4 : Int) ((x6 * 256 + x7 : Nat) : Int) (x5 == 1) = true
  rw [e]; exact hm

/-- What six values ReadOk tells is told by the bytes. -/
theorem read_six {l : List Nat} {x y : Six} (h : ReadOk l x) (k : ReadOk l y) : x = y := by
  obtain ⟨n, c1, c2, hB, _, _, _, hl⟩ := h
  obtain ⟨n', c1', c2', hB', _, _, _, hl'⟩ := k
  have hn : n' = n := by omega
  subst hn
  obtain ⟨s1, s2, e1, e2, ⟨e0, f0, rfl⟩ | ⟨e0, f0, y1, y2, y3, y4, y5, f1, f2, f3, f4, f5, f6, f7, rfl⟩⟩ := hB
  · obtain ⟨t1, t2, e1', e2', ⟨e0', _, rfl⟩ | ⟨e0', f0', _⟩⟩ := hB'
    · rw [e1] at e1'; rw [e2] at e2'; cases e1'; cases e2'; rfl
    · omega
  · obtain ⟨t1, t2, e1', e2', ⟨e0', f0', _⟩ | ⟨e0', f0', z1, z2, z3, z4, z5, g1, g2, g3, g4, g5, g6, g7, rfl⟩⟩ := hB'
    · omega
    · rw [e1] at e1'; rw [e2] at e2'; rw [f1] at g1; rw [f2] at g2; rw [f3] at g3; rw [f4] at g4; rw [f5] at g5
      cases e1'; cases e2'; cases g1; cases g2; cases g3; cases g4; cases g5; rfl

theorem six_five (x1 x2 : Nat) : six ⟨false, x1 * 256 + x2, Fr.none0⟩ = ⟨false, (x1 : Int) * 256 + (x2 : Int), 0, 0, 0, false⟩ := by
  simp [six, Fr.none0]
theorem six_ten (x1 x2 x3 x4 x5 x6 x7 : Nat) : six ⟨true, x1 * 256 + x2, ⟨x3, x4, x6 * 256 + x7, x5 == 1⟩⟩ = ⟨true, (x1 : Int) * 256 + (x2 : Int), (x3 : Int), (x4 : Int), (x6 : Int) * 256 + (x7 : Int), x5 == 1⟩ := by
  simp [six]

theorem refdec_yes (bb bo cap : Nat) (l : List Nat) (w : World) (hrow : Row w bb bo l) (hbb : bb < w.heap.size) (hcap : l.length ≤ cap) (hb : ∀ x ∈ l, x < 256) (x : Six) (hx : ReadOk l x) :
    Calls Tryz.prog 81 #[.slice (some ⟨bb, bo, none⟩) l.length cap] w fun e w' => e = .returned (.tuple #[.agg (fc x.d x.s x.k x.l x.n x.f), .int .i64 0]) ∧ Keep nil w w' := by
  rcases read_len l x hx with h | h
  · obtain ⟨x0, x1, x2, x3, x4, rfl⟩ := list5 l h
    have he := read5 x0 x1 x2 x3 x4 (hb _ (by simp)) (hb _ (by simp)) (hb _ (by simp)) (hb _ (by simp)) x hx
    have hok : FrOk ⟨false, x1 * 256 + x2, Fr.none0⟩ := ⟨by have := hb x1 (by simp); have := hb x2 (by simp); show x1 * 256 + x2 < 65536; omega, Or.inr ⟨rfl, rfl⟩⟩
    have hy := enc_read _ hok
    rw [he, six_five] at hy
    rw [read_six hx hy]
    exact refdec_five_yes bb bo cap x0 x1 x2 x3 x4 w hrow hbb hcap hb he
  · obtain ⟨x0, x1, x2, x3, x4, x5, x6, x7, x8, x9, rfl⟩ := list10 l h
    obtain ⟨hm, he⟩ := read10 x0 x1 x2 x3 x4 x5 x6 x7 x8 x9 (hb _ (by simp)) (hb _ (by simp)) (hb _ (by simp)) (hb _ (by simp)) (hb _ (by simp)) (hb _ (by simp)) x hx
    have hok := frame_ten x1 x2 x3 x4 x5 x6 x7 (hb _ (by simp)) (hb _ (by simp)) (hb _ (by simp)) (hb _ (by simp)) (hb _ (by simp)) (hb _ (by simp)) hm
    have hy := enc_read _ hok
    rw [he, six_ten] at hy
    rw [read_six hx hy]
    exact refdec_ten_yes bb bo cap x0 x1 x2 x3 x4 x5 x6 x7 x8 x9 w hrow hbb hcap hb hok he

theorem refdec_no (bb bo cap : Nat) (l : List Nat) (w : World) (hrow : Row w bb bo l) (hbb : bb < w.heap.size) (hcap : l.length ≤ cap) (hb : ∀ x ∈ l, x < 256) (hno : ∀ x, ¬ ReadOk l x) :
    Calls Tryz.prog 81 #[.slice (some ⟨bb, bo, none⟩) l.length cap] w fun e w' => e = .returned (.tuple #[.agg (fc false 0 0 0 0 false), .int .i64 9]) ∧ Keep nil w w' := by
  by_cases h5 : l.length = 5
  · obtain ⟨x0, x1, x2, x3, x4, rfl⟩ := list5 l h5
    have hok : FrOk ⟨false, x1 * 256 + x2, Fr.none0⟩ := ⟨by have := hb x1 (by simp); have := hb x2 (by simp); show x1 * 256 + x2 < 65536; omega, Or.inr ⟨rfl, rfl⟩⟩
    refine refdec_five_no bb bo cap x0 x1 x2 x3 x4 w hrow hbb hcap hb (fun he => ?_)
    have hy := enc_read _ hok
    rw [he] at hy
    exact hno _ hy
  · by_cases h10 : l.length = 10
    · obtain ⟨x0, x1, x2, x3, x4, x5, x6, x7, x8, x9, rfl⟩ := list10 l h10
      have b1 := hb x1 (by simp)
      have b2 := hb x2 (by simp)
      by_cases hm : may (x3 : Int) (x4 : Int) ((x6 : Int) * 256 + (x7 : Int)) (x5 == 1) = true
      · have hok := frame_ten x1 x2 x3 x4 x5 x6 x7 b1 b2 (hb _ (by simp)) (hb _ (by simp)) (hb _ (by simp)) (hb _ (by simp)) hm
        refine refdec_ten_no bb bo cap x0 x1 x2 x3 x4 x5 x6 x7 x8 x9 w hrow hbb hcap hb hok (fun he => ?_)
        have hy := enc_read _ hok
        rw [he] at hy
        exact hno _ hy
      · refine refdec_ten_err bb bo cap x0 x1 x2 x3 x4 x5 x6 x7 x8 x9 w hrow hbb hcap hb ?_
        rw [encErr_ten (by omega) (by rintro (⟨_, h⟩ | ⟨h, _⟩); exact hm h; cases h)]
        omega
    · exact refdec_len _ _ _ w (by rw [bne_iff_ne]; omega) (by rw [bne_iff_ne]; omega)
end Go.Proofs.YtlfijfodklhplaaGreat
/- Walk of sign: what the owner of a list writes. -/
namespace Go.Proofs.YtlfijfodklhplaaGreat
open Go.RowKit
set_option linter.unusedVariables false

def sgn (i k : Nat) : Nat := if k % 3 = 0 then i % 256 else if k % 3 = 1 then i / 256 % 256 else 201
theorem sgn_lt (i k : Nat) : sgn i k < 256 := by unfold sgn; split; omega; split <;> omega

set_option maxRecDepth 100000 in
set_option maxHeartbeats 1000000 in
theorem sign_any (i k : Nat) (hi : (i : Int) < 4611686018427387904) (hk : (k : Int) < 4611686018427387904) (w : World) :
    Calls Tryz.prog 47 #[.int .i64 (i : Int), .int .i64 (k : Int)] w fun e w' => e = .returned (.int .u8 ((sgn i k : Nat) : Int)) ∧ w = w' := by
  have h3 : k % 3 = 0 ∨ k % 3 = 1 ∨ k % 3 = 2 := by omega
  rcases h3 with h | h | h
  · have HS : Hid (IntKind.u8.wrap (i : Int) = ((sgn i k : Nat) : Int)) := by
      show IntKind.u8.wrap (i : Int) = _
      rw [IntKind.wrap_u8', sgn, if_pos h]; omega
    have h0 : (((k : Int) % 3) == 0) = true := by rw [beq_iff_eq]; omega
    clear h
    go_enter Tryz.func47, Tryz.ntmps47
    go_wp2
    go_ret
    exact ⟨ret_int HS.out, rfl⟩
  · have HS : Hid (IntKind.u8.wrap ((i : Int) / 256) = ((sgn i k : Nat) : Int)) := by
      show IntKind.u8.wrap ((i : Int) / 256) = _
      rw [IntKind.wrap_u8', sgn, if_neg (by omega), if_pos h]; omega
    have h0 : (((k : Int) % 3) == 0) = false := by rw [beq_eq_false_iff_ne]; omega
    have h1 : (((k : Int) % 3) == 1) = true := by rw [beq_iff_eq]; omega
    clear h
    go_enter Tryz.func47, Tryz.ntmps47
    go_wp2
    go_ret
    exact ⟨ret_int HS.out, rfl⟩
  · have HS : Hid ((201 : Int) = ((sgn i k : Nat) : Int)) := by
      show (201 : Int) = _
      rw [sgn, if_neg (by omega), if_neg (by omega)]; rfl
    have h0 : (((k : Int) % 3) == 0) = false := by rw [beq_eq_false_iff_ne]; omega
    have h1 : (((k : Int) % 3) == 1) = false := by rw [beq_eq_false_iff_ne]; omega
    clear h
    go_enter Tryz.func47, Tryz.ntmps47
    go_wp2
    go_ret
    exact ⟨ret_int HS.out, rfl⟩
end Go.Proofs.YtlfijfodklhplaaGreat
