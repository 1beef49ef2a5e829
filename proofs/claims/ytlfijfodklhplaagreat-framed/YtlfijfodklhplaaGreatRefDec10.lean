/- Walk of the document's Decode, at ten bytes. -/
import Derived.Test.YtlfijfodklhplaaGreatRefDec
import Derived.BigRegion
namespace Go.Proofs.YtlfijfodklhplaaGreat
open Go.RowKit
set_option linter.unusedVariables false

set_option maxRecDepth 100000 in
set_option maxHeartbeats 4000000 in
theorem refdec_ten_yes (bb bo cap : Nat) (x0 x1 x2 x3 x4 x5 x6 x7 x8 x9 : Nat) (w : World) (hrow : Row w bb bo [x0, x1, x2, x3, x4, x5, x6, x7, x8, x9]) (hbb : bb < w.heap.size) (hcap : 10 ≤ cap) (hb : ∀ x ∈ [x0, x1, x2, x3, x4, x5, x6, x7, x8, x9], x < 256)
    (hok : FrOk ⟨true, x1 * 256 + x2, ⟨x3, x4, x6 * 256 + x7, x5 == 1⟩⟩) (heq : Fr.enc ⟨true, x1 * 256 + x2, ⟨x3, x4, x6 * 256 + x7, x5 == 1⟩⟩ = [x0, x1, x2, x3, x4, x5, x6, x7, x8, x9]) :
    Calls Tryz.prog 81 #[.slice (some ⟨bb, bo, none⟩) 10 cap] w fun e w' => e = .returned (.tuple #[.agg (fc true ((x1 : Int) * 256 + (x2 : Int)) (x3 : Int) (x4 : Int) ((x6 : Int) * 256 + (x7 : Int)) (x5 == 1)), .int .i64 0]) ∧ Keep nil w w' := by
  have HO : Unit → FrOk ⟨true, x1 * 256 + x2, ⟨x3, x4, x6 * 256 + x7, x5 == 1⟩⟩ := fun _ => hok
  have HQ : Unit → Fr.enc ⟨true, x1 * 256 + x2, ⟨x3, x4, x6 * 256 + x7, x5 == 1⟩⟩ = [x0, x1, x2, x3, x4, x5, x6, x7, x8, x9] := fun _ => heq
  clear hok heq
  have h1 : x1 < 256 := hb x1 (by simp)
  have h2 : x2 < 256 := hb x2 (by simp)
  have h3 : x3 < 256 := hb x3 (by simp)
  have h4 : x4 < 256 := hb x4 (by simp)
  have h6 : x6 < 256 := hb x6 (by simp)
  have h7 : x7 < 256 := hb x7 (by simp)
  have h5 : ((x5 : Int) == 1) = (x5 == 1) := by rw [Bool.eq_iff_iff, beq_iff_eq, beq_iff_eq]; omega
  have q1 := hrow 1 (by simp)
  have q2 := hrow 2 (by simp)
  have q3 := hrow 3 (by simp)
  have q4 := hrow 4 (by simp)
  have q5 := hrow 5 (by simp)
  have q6 := hrow 6 (by simp)
  have q7 := hrow 7 (by simp)
  simp at q1 q2 q3 q4 q5 q6 q7
  have HB : Unit → ∀ x ∈ [x0, x1, x2, x3, x4, x5, x6, x7, x8, x9], x < 256 := fun _ => hb
  clear hb
  go_enter Tryz.func81, Tryz.ntmps81
  go_wp2
  go_region
  go_wp2
  go_region
  clear q1 q2 q3 q4 q5 q6 q7
  go_wp2_with fail
  have he := refenc_any ⟨true, x1 * 256 + x2, ⟨x3, x4, x6 * 256 + x7, x5 == 1⟩⟩ (HO ()) ((w.alloc (.cells (fc false 0 0 0 0 false) 78)).alloc (.cells (fc true ((x1 : Int) * 256 + (x2 : Int)) (x3 : Int) (x4 : Int) ((x6 : Int) * 256 + (x7 : Int)) (x5 == 1)) 78)).drew.drew
  refine he.mono ?_
  rintro e w2 ⟨g, c, rfl, hg, hc, hb2, hk2⟩
  clear he
  rw [show flen ⟨true, x1 * 256 + x2, ⟨x3, x4, x6 * 256 + x7, x5 == 1⟩⟩ = 10 from rfl]
  have kk : Keep nil w w2 := (((((Keep.refl nil w).alloc _).alloc _).drew).drew).trans hk2
  have bF := (((Blk.new' (w.alloc (.cells (fc false 0 0 0 0 false) 78)) (fc true ((x1 : Int) * 256 + (x2 : Int)) (x3 : Int) (x4 : Int) ((x6 : Int) * 256 + (x7 : Int)) (x5 == 1)) 78 (w.heap.size + 1) (World.size_alloc _ _).symm)).drew.drew).keep hk2 (fun e => e)
  have bR := (((Blk.new w (fc false 0 0 0 0 false) 78).old (.cells (fc true ((x1 : Int) * 256 + (x2 : Int)) (x3 : Int) (x4 : Int) ((x6 : Int) * 256 + (x7 : Int)) (x5 == 1)) 78)).drew.drew).keep hk2 (fun e => e)
  have r2 : Row w2 bb bo [x0, x1, x2, x3, x4, x5, x6, x7, x8, x9] := hrow.keep kk hbb (fun e => e)
  have s1 := conv_row w2 g 0 c (Fr.enc ⟨true, x1 * 256 + x2, ⟨x3, x4, x6 * 256 + x7, x5 == 1⟩⟩) (brow_row hb2)
  have s2 := conv_row w2 bb bo cap [x0, x1, x2, x3, x4, x5, x6, x7, x8, x9] r2
  rw [enc_len, show flen ⟨true, x1 * 256 + x2, ⟨x3, x4, x6 * 256 + x7, x5 == 1⟩⟩ = 10 from rfl] at s1
  rw [show [x0, x1, x2, x3, x4, x5, x6, x7, x8, x9].length = 10 from rfl] at s2
  have s3 := bstr_eq (Fr.enc ⟨true, x1 * 256 + x2, ⟨x3, x4, x6 * 256 + x7, x5 == 1⟩⟩) [x0, x1, x2, x3, x4, x5, x6, x7, x8, x9] (enc_byte _ (HO ())) (HB ())
  generalize bstr (Fr.enc ⟨true, x1 * 256 + x2, ⟨x3, x4, x6 * 256 + x7, x5 == 1⟩⟩) = t1 at *
  generalize bstr [x0, x1, x2, x3, x4, x5, x6, x7, x8, x9] = t2 at *
  have q0 := bF.cell 0
  have q1 := bF.cell 1
  have q2 := bF.cell 2
  have q3 := bF.cell 3
  have q4 := bF.cell 4
  have q5 := bF.cell 5
  have r0 := bR.cell 0
  have r1 := bR.cell 1
  have r2 := bR.cell 2
  have r3 := bR.cell 3
  have r4 := bR.cell 4
  have r5 := bR.cell 5
  have r6 := fun i => bR.frozen i
  simp at q0 q1 q2 q3 q4 q5 r0 r1 r2 r3 r4 r5
  clear hb2 hrow hk2 hg HO
  rw [decide_eq_true (HQ ())] at s3
  clear HQ
  go_wp2
  have d1 := bR.put6 true ((x1 : Int) * 256 + (x2 : Int)) (x3 : Int) (x4 : Int) ((x6 : Int) * 256 + (x7 : Int)) (x5 == 1)
  have k1 : Keep nil w (put6 w2 w.heap.size true ((x1 : Int) * 256 + (x2 : Int)) (x3 : Int) (x4 : Int) ((x6 : Int) * 256 + (x7 : Int)) (x5 == 1)) := kk.put6 w.heap.size (fun h => by omega) true ((x1 : Int) * 256 + (x2 : Int)) (x3 : Int) (x4 : Int) ((x6 : Int) * 256 + (x7 : Int)) (x5 == 1)
  have z0 := d1.cell 0
  have z1 := d1.cell 1
  have z2 := d1.cell 2
  have z3 := d1.cell 3
  have z4 := d1.cell 4
  have z5 := d1.cell 5
  simp only [List.getElem?_toArray] at z0 z1 z2 z3 z4 z5
  exact bodyPost_ret (v := .tuple #[.agg (fc true ((x1 : Int) * 256 + (x2 : Int)) (x3 : Int) (x4 : Int) ((x6 : Int) * 256 + (x7 : Int)) (x5 == 1)), .int .i64 0]) (by simp [results, Tryz.results81, go_sem, z0, z1, z2, z3, z4, z5]) rfl ⟨rfl, k1⟩

set_option maxRecDepth 100000 in
set_option maxHeartbeats 4000000 in
theorem refdec_ten_no (bb bo cap : Nat) (x0 x1 x2 x3 x4 x5 x6 x7 x8 x9 : Nat) (w : World) (hrow : Row w bb bo [x0, x1, x2, x3, x4, x5, x6, x7, x8, x9]) (hbb : bb < w.heap.size) (hcap : 10 ≤ cap) (hb : ∀ x ∈ [x0, x1, x2, x3, x4, x5, x6, x7, x8, x9], x < 256)
    (hok : FrOk ⟨true, x1 * 256 + x2, ⟨x3, x4, x6 * 256 + x7, x5 == 1⟩⟩) (heq : ¬ Fr.enc ⟨true, x1 * 256 + x2, ⟨x3, x4, x6 * 256 + x7, x5 == 1⟩⟩ = [x0, x1, x2, x3, x4, x5, x6, x7, x8, x9]) :
    Calls Tryz.prog 81 #[.slice (some ⟨bb, bo, none⟩) 10 cap] w fun e w' => e = .returned (.tuple #[.agg (fc false 0 0 0 0 false), .int .i64 9]) ∧ Keep nil w w' := by
  have HO : Unit → FrOk ⟨true, x1 * 256 + x2, ⟨x3, x4, x6 * 256 + x7, x5 == 1⟩⟩ := fun _ => hok
  have HQ : Unit → ¬ Fr.enc ⟨true, x1 * 256 + x2, ⟨x3, x4, x6 * 256 + x7, x5 == 1⟩⟩ = [x0, x1, x2, x3, x4, x5, x6, x7, x8, x9] := fun _ => heq
  clear hok heq
  have h1 : x1 < 256 := hb x1 (by simp)
  have h2 : x2 < 256 := hb x2 (by simp)
  have h3 : x3 < 256 := hb x3 (by simp)
  have h4 : x4 < 256 := hb x4 (by simp)
  have h6 : x6 < 256 := hb x6 (by simp)
  have h7 : x7 < 256 := hb x7 (by simp)
  have h5 : ((x5 : Int) == 1) = (x5 == 1) := by rw [Bool.eq_iff_iff, beq_iff_eq, beq_iff_eq]; omega
  have q1 := hrow 1 (by simp)
  have q2 := hrow 2 (by simp)
  have q3 := hrow 3 (by simp)
  have q4 := hrow 4 (by simp)
  have q5 := hrow 5 (by simp)
  have q6 := hrow 6 (by simp)
  have q7 := hrow 7 (by simp)
  simp at q1 q2 q3 q4 q5 q6 q7
  have HB : Unit → ∀ x ∈ [x0, x1, x2, x3, x4, x5, x6, x7, x8, x9], x < 256 := fun _ => hb
  clear hb
  go_enter Tryz.func81, Tryz.ntmps81
  go_wp2
  go_region
  go_wp2
  go_region
  clear q1 q2 q3 q4 q5 q6 q7
  go_wp2_with fail
  have he := refenc_any ⟨true, x1 * 256 + x2, ⟨x3, x4, x6 * 256 + x7, x5 == 1⟩⟩ (HO ()) ((w.alloc (.cells (fc false 0 0 0 0 false) 78)).alloc (.cells (fc true ((x1 : Int) * 256 + (x2 : Int)) (x3 : Int) (x4 : Int) ((x6 : Int) * 256 + (x7 : Int)) (x5 == 1)) 78)).drew.drew
  refine he.mono ?_
  rintro e w2 ⟨g, c, rfl, hg, hc, hb2, hk2⟩
  clear he
  rw [show flen ⟨true, x1 * 256 + x2, ⟨x3, x4, x6 * 256 + x7, x5 == 1⟩⟩ = 10 from rfl]
  have kk : Keep nil w w2 := (((((Keep.refl nil w).alloc _).alloc _).drew).drew).trans hk2
  have bF := (((Blk.new' (w.alloc (.cells (fc false 0 0 0 0 false) 78)) (fc true ((x1 : Int) * 256 + (x2 : Int)) (x3 : Int) (x4 : Int) ((x6 : Int) * 256 + (x7 : Int)) (x5 == 1)) 78 (w.heap.size + 1) (World.size_alloc _ _).symm)).drew.drew).keep hk2 (fun e => e)
  have bR := (((Blk.new w (fc false 0 0 0 0 false) 78).old (.cells (fc true ((x1 : Int) * 256 + (x2 : Int)) (x3 : Int) (x4 : Int) ((x6 : Int) * 256 + (x7 : Int)) (x5 == 1)) 78)).drew.drew).keep hk2 (fun e => e)
  have r2 : Row w2 bb bo [x0, x1, x2, x3, x4, x5, x6, x7, x8, x9] := hrow.keep kk hbb (fun e => e)
  have s1 := conv_row w2 g 0 c (Fr.enc ⟨true, x1 * 256 + x2, ⟨x3, x4, x6 * 256 + x7, x5 == 1⟩⟩) (brow_row hb2)
  have s2 := conv_row w2 bb bo cap [x0, x1, x2, x3, x4, x5, x6, x7, x8, x9] r2
  rw [enc_len, show flen ⟨true, x1 * 256 + x2, ⟨x3, x4, x6 * 256 + x7, x5 == 1⟩⟩ = 10 from rfl] at s1
  rw [show [x0, x1, x2, x3, x4, x5, x6, x7, x8, x9].length = 10 from rfl] at s2
  have s3 := bstr_eq (Fr.enc ⟨true, x1 * 256 + x2, ⟨x3, x4, x6 * 256 + x7, x5 == 1⟩⟩) [x0, x1, x2, x3, x4, x5, x6, x7, x8, x9] (enc_byte _ (HO ())) (HB ())
  generalize bstr (Fr.enc ⟨true, x1 * 256 + x2, ⟨x3, x4, x6 * 256 + x7, x5 == 1⟩⟩) = t1 at *
  generalize bstr [x0, x1, x2, x3, x4, x5, x6, x7, x8, x9] = t2 at *
  have q0 := bF.cell 0
  have q1 := bF.cell 1
  have q2 := bF.cell 2
  have q3 := bF.cell 3
  have q4 := bF.cell 4
  have q5 := bF.cell 5
  have r0 := bR.cell 0
  have r1 := bR.cell 1
  have r2 := bR.cell 2
  have r3 := bR.cell 3
  have r4 := bR.cell 4
  have r5 := bR.cell 5
  have r6 := fun i => bR.frozen i
  simp at q0 q1 q2 q3 q4 q5 r0 r1 r2 r3 r4 r5
  clear hb2 hrow hk2 hg HO
  rw [decide_eq_false (HQ ())] at s3
  clear HQ
  go_wp2
  have d1 := bR.put6 false 0 0 0 0 false
  have k1 : Keep nil w (put6 w2 w.heap.size false 0 0 0 0 false) := kk.put6 w.heap.size (fun h => by omega) false 0 0 0 0 false
  have z0 := d1.cell 0
  have z1 := d1.cell 1
  have z2 := d1.cell 2
  have z3 := d1.cell 3
  have z4 := d1.cell 4
  have z5 := d1.cell 5
  simp only [List.getElem?_toArray] at z0 z1 z2 z3 z4 z5
  exact bodyPost_ret (v := .tuple #[.agg (fc false 0 0 0 0 false), .int .i64 9]) (by simp [results, Tryz.results81, go_sem, z0, z1, z2, z3, z4, z5]) rfl ⟨rfl, k1⟩

set_option maxRecDepth 100000 in
set_option maxHeartbeats 4000000 in
theorem refdec_ten_err (bb bo cap : Nat) (x0 x1 x2 x3 x4 x5 x6 x7 x8 x9 : Nat) (w : World) (hrow : Row w bb bo [x0, x1, x2, x3, x4, x5, x6, x7, x8, x9]) (hbb : bb < w.heap.size) (hcap : 10 ≤ cap) (hb : ∀ x ∈ [x0, x1, x2, x3, x4, x5, x6, x7, x8, x9], x < 256)
    (herr : encErr true ((x1 : Int) * 256 + (x2 : Int)) (x3 : Int) (x4 : Int) ((x6 : Int) * 256 + (x7 : Int)) (x5 == 1) ≠ 0) :
    Calls Tryz.prog 81 #[.slice (some ⟨bb, bo, none⟩) 10 cap] w fun e w' => e = .returned (.tuple #[.agg (fc false 0 0 0 0 false), .int .i64 9]) ∧ Keep nil w w' := by
  have HO : Unit → encErr true ((x1 : Int) * 256 + (x2 : Int)) (x3 : Int) (x4 : Int) ((x6 : Int) * 256 + (x7 : Int)) (x5 == 1) ≠ 0 := fun _ => herr
  clear herr
  have h1 : x1 < 256 := hb x1 (by simp)
  have h2 : x2 < 256 := hb x2 (by simp)
  have h3 : x3 < 256 := hb x3 (by simp)
  have h4 : x4 < 256 := hb x4 (by simp)
  have h6 : x6 < 256 := hb x6 (by simp)
  have h7 : x7 < 256 := hb x7 (by simp)
  have h5 : ((x5 : Int) == 1) = (x5 == 1) := by rw [Bool.eq_iff_iff, beq_iff_eq, beq_iff_eq]; omega
  have q1 := hrow 1 (by simp)
  have q2 := hrow 2 (by simp)
  have q3 := hrow 3 (by simp)
  have q4 := hrow 4 (by simp)
  have q5 := hrow 5 (by simp)
  have q6 := hrow 6 (by simp)
  have q7 := hrow 7 (by simp)
  simp at q1 q2 q3 q4 q5 q6 q7
  have HB : Unit → ∀ x ∈ [x0, x1, x2, x3, x4, x5, x6, x7, x8, x9], x < 256 := fun _ => hb
  clear hb
  go_enter Tryz.func81, Tryz.ntmps81
  go_wp2
  go_region
  go_wp2
  go_region
  clear q1 q2 q3 q4 q5 q6 q7
  go_wp2_with fail
  have he := refenc_err true ((x1 : Int) * 256 + (x2 : Int)) (x3 : Int) (x4 : Int) ((x6 : Int) * 256 + (x7 : Int)) (x5 == 1) (HO ()) ((w.alloc (.cells (fc false 0 0 0 0 false) 78)).alloc (.cells (fc true ((x1 : Int) * 256 + (x2 : Int)) (x3 : Int) (x4 : Int) ((x6 : Int) * 256 + (x7 : Int)) (x5 == 1)) 78)).drew.drew
  refine he.mono ?_
  rintro e w2 ⟨rfl, hk2⟩
  clear he
  have hne : ((encErr true ((x1 : Int) * 256 + (x2 : Int)) (x3 : Int) (x4 : Int) ((x6 : Int) * 256 + (x7 : Int)) (x5 == 1)) != 0) = true := by have := HO (); simpa using this
  clear HO
  generalize encErr true ((x1 : Int) * 256 + (x2 : Int)) (x3 : Int) (x4 : Int) ((x6 : Int) * 256 + (x7 : Int)) (x5 == 1) = E at *
  have kk : Keep nil w w2 := (((((Keep.refl nil w).alloc _).alloc _).drew).drew).trans hk2
  have bF := (((Blk.new' (w.alloc (.cells (fc false 0 0 0 0 false) 78)) (fc true ((x1 : Int) * 256 + (x2 : Int)) (x3 : Int) (x4 : Int) ((x6 : Int) * 256 + (x7 : Int)) (x5 == 1)) 78 (w.heap.size + 1) (World.size_alloc _ _).symm)).drew.drew).keep hk2 (fun e => e)
  have bR := (((Blk.new w (fc false 0 0 0 0 false) 78).old (.cells (fc true ((x1 : Int) * 256 + (x2 : Int)) (x3 : Int) (x4 : Int) ((x6 : Int) * 256 + (x7 : Int)) (x5 == 1)) 78)).drew.drew).keep hk2 (fun e => e)
  have q0 := bF.cell 0
  have q1 := bF.cell 1
  have q2 := bF.cell 2
  have q3 := bF.cell 3
  have q4 := bF.cell 4
  have q5 := bF.cell 5
  have r0 := bR.cell 0
  have r1 := bR.cell 1
  have r2 := bR.cell 2
  have r3 := bR.cell 3
  have r4 := bR.cell 4
  have r5 := bR.cell 5
  have r6 := fun i => bR.frozen i
  simp at q0 q1 q2 q3 q4 q5 r0 r1 r2 r3 r4 r5
  clear hk2 hrow
  go_wp2
  have d1 := bR.put6 false 0 0 0 0 false
  have k1 : Keep nil w (put6 w2 w.heap.size false 0 0 0 0 false) := kk.put6 w.heap.size (fun h => by omega) false 0 0 0 0 false
  have z0 := d1.cell 0
  have z1 := d1.cell 1
  have z2 := d1.cell 2
  have z3 := d1.cell 3
  have z4 := d1.cell 4
  have z5 := d1.cell 5
  simp only [List.getElem?_toArray] at z0 z1 z2 z3 z4 z5
  exact bodyPost_ret (v := .tuple #[.agg (fc false 0 0 0 0 false), .int .i64 9]) (by simp [results, Tryz.results81, go_sem, z0, z1, z2, z3, z4, z5]) rfl ⟨rfl, k1⟩

end Go.Proofs.YtlfijfodklhplaaGreat
