/- Walk of the document's Decode. -/
import Derived.Test.YtlfijfodklhplaaGreatRefDecP
import Derived.Test.YtlfijfodklhplaaGreatStr
namespace Go.Proofs.YtlfijfodklhplaaGreat
open Go.RowKit
set_option linter.unusedVariables false

set_option maxRecDepth 100000 in
set_option maxHeartbeats 1000000 in
theorem refdec_len (a : Option Addr) (n c : Nat) (w : World) (h5 : ((n : Int) != 5) = true) (h10 : ((n : Int) != 10) = true) :
    Calls Tryz.prog 81 #[.slice a n c] w fun e w' => e = .returned (.tuple #[.agg (fc false 0 0 0 0 false), .int .i64 9]) ∧ Keep nil w w' := by
  go_enter Tryz.func81, Tryz.ntmps81
  go_wp2
  exact bodyPost_ret (v := .tuple #[.agg (fc false 0 0 0 0 false), .int .i64 9]) (by simp [results, Tryz.results81, go_sem]) rfl ⟨rfl, (Keep.refl _ _).alloc _⟩

set_option maxRecDepth 100000 in
set_option maxHeartbeats 2000000 in
theorem refdec_five_yes (bb bo cap : Nat) (x0 x1 x2 x3 x4 : Nat) (w : World) (hrow : Row w bb bo [x0, x1, x2, x3, x4]) (hbb : bb < w.heap.size) (hcap : 5 ≤ cap) (hb : ∀ x ∈ [x0, x1, x2, x3, x4], x < 256) (heq : Fr.enc ⟨false, x1 * 256 + x2, Fr.none0⟩ = [x0, x1, x2, x3, x4]) :
    Calls Tryz.prog 81 #[.slice (some ⟨bb, bo, none⟩) 5 cap] w fun e w' =>
      e = .returned (.tuple #[.agg (fc false ((x1 : Int) * 256 + (x2 : Int)) 0 0 0 false), .int .i64 0]) ∧ Keep nil w w' := by
  have HQ : Unit → Fr.enc ⟨false, x1 * 256 + x2, Fr.none0⟩ = [x0, x1, x2, x3, x4] := fun _ => heq
  clear heq
  have h1 : x1 < 256 := hb x1 (by simp)
  have h2 : x2 < 256 := hb x2 (by simp)
  have q1 := hrow 1 (by simp)
  have q2 := hrow 2 (by simp)
  simp at q1 q2
  go_enter Tryz.func81, Tryz.ntmps81
  go_wp2
  go_region
  have hok : FrOk ⟨false, x1 * 256 + x2, Fr.none0⟩ := ⟨by show x1 * 256 + x2 < 65536; omega, Or.inr ⟨rfl, rfl⟩⟩
  have HO : Unit → FrOk ⟨false, x1 * 256 + x2, Fr.none0⟩ := fun _ => hok
  clear hok q1 q2
  go_wp2_with fail
  have he := refenc_any ⟨false, x1 * 256 + x2, Fr.none0⟩ (HO ()) ((w.alloc (.cells (fc false 0 0 0 0 false) 78)).alloc (.cells (fc false ((x1 : Int) * 256 + (x2 : Int)) 0 0 0 false) 78)).drew
  refine he.mono ?_
  rintro e w2 ⟨g, c, rfl, hg, hc, hb2, hk2⟩
  clear he
  rw [show flen ⟨false, x1 * 256 + x2, Fr.none0⟩ = 5 from rfl]
  have kk : Keep nil w w2 := ((((Keep.refl nil w).alloc _).alloc _).drew).trans hk2
  have bF := (((Blk.new' (w.alloc (.cells (fc false 0 0 0 0 false) 78)) (fc false ((x1 : Int) * 256 + (x2 : Int)) 0 0 0 false) 78 (w.heap.size + 1) (World.size_alloc _ _).symm)).drew).keep hk2 (fun e => e)
  have bR := (((Blk.new w (fc false 0 0 0 0 false) 78).old (.cells (fc false ((x1 : Int) * 256 + (x2 : Int)) 0 0 0 false) 78)).drew).keep hk2 (fun e => e)
  have r2 : Row w2 bb bo [x0, x1, x2, x3, x4] := hrow.keep kk hbb (fun e => e)
  have s1 := conv_row w2 g 0 c (Fr.enc ⟨false, x1 * 256 + x2, Fr.none0⟩) (brow_row hb2)
  have s2 := conv_row w2 bb bo cap [x0, x1, x2, x3, x4] r2
  rw [enc_len, show flen ⟨false, x1 * 256 + x2, Fr.none0⟩ = 5 from rfl] at s1
  rw [show [x0, x1, x2, x3, x4].length = 5 from rfl] at s2
  have s3 := bstr_eq (Fr.enc ⟨false, x1 * 256 + x2, Fr.none0⟩) [x0, x1, x2, x3, x4] (enc_byte _ (HO ())) hb
  generalize bstr (Fr.enc ⟨false, x1 * 256 + x2, Fr.none0⟩) = t1 at *
  generalize bstr [x0, x1, x2, x3, x4] = t2 at *
  have q0 := bF.cell 0
  have q1 := bF.cell 1
  have q2 := bF.cell 2
  have q3 := bF.cell 3
  have q4 := bF.cell 4
  have q5 := bF.cell 5
  have r0 := bR.cell 0
  have r1 := bR.cell 1
  have r2 := bR.cell 2
  have r3 := bR.cell 3
  have r4 := bR.cell 4
  have r5 := bR.cell 5
  have r6 := fun i => bR.frozen i
  simp at q0 q1 q2 q3 q4 q5 r0 r1 r2 r3 r4 r5
  clear hb2 hrow hb hk2 hg
  rw [decide_eq_true (HQ ())] at s3
  go_wp2
  have d1 := bR.put6 false ((x1 : Int) * 256 + (x2 : Int)) 0 0 0 false
  have k1 : Keep nil w (put6 w2 w.heap.size false ((x1 : Int) * 256 + (x2 : Int)) 0 0 0 false) := kk.put6 w.heap.size (fun h => by omega) false ((x1 : Int) * 256 + (x2 : Int)) 0 0 0 false
  have z0 := d1.cell 0
  have z1 := d1.cell 1
  have z2 := d1.cell 2
  have z3 := d1.cell 3
  have z4 := d1.cell 4
  have z5 := d1.cell 5
  simp only [List.getElem?_toArray] at z0 z1 z2 z3 z4 z5
  exact bodyPost_ret (v := .tuple #[.agg (fc false ((x1 : Int) * 256 + (x2 : Int)) 0 0 0 false), .int .i64 0]) (by simp [results, Tryz.results81, go_sem, z0, z1, z2, z3, z4, z5]) rfl ⟨rfl, k1⟩

set_option maxRecDepth 100000 in
set_option maxHeartbeats 2000000 in
theorem refdec_five_no (bb bo cap : Nat) (x0 x1 x2 x3 x4 : Nat) (w : World) (hrow : Row w bb bo [x0, x1, x2, x3, x4]) (hbb : bb < w.heap.size) (hcap : 5 ≤ cap) (hb : ∀ x ∈ [x0, x1, x2, x3, x4], x < 256) (heq : ¬ Fr.enc ⟨false, x1 * 256 + x2, Fr.none0⟩ = [x0, x1, x2, x3, x4]) :
    Calls Tryz.prog 81 #[.slice (some ⟨bb, bo, none⟩) 5 cap] w fun e w' =>
      e = .returned (.tuple #[.agg (fc false 0 0 0 0 false), .int .i64 9]) ∧ Keep nil w w' := by
  have HQ : Unit → ¬ Fr.enc ⟨false, x1 * 256 + x2, Fr.none0⟩ = [x0, x1, x2, x3, x4] := fun _ => heq
  clear heq
  have h1 : x1 < 256 := hb x1 (by simp)
  have h2 : x2 < 256 := hb x2 (by simp)
  have q1 := hrow 1 (by simp)
  have q2 := hrow 2 (by simp)
  simp at q1 q2
  go_enter Tryz.func81, Tryz.ntmps81
  go_wp2
  go_region
  have hok : FrOk ⟨false, x1 * 256 + x2, Fr.none0⟩ := ⟨by show x1 * 256 + x2 < 65536; omega, Or.inr ⟨rfl, rfl⟩⟩
  have HO : Unit → FrOk ⟨false, x1 * 256 + x2, Fr.none0⟩ := fun _ => hok
  clear hok q1 q2
  go_wp2_with fail
  have he := refenc_any ⟨false, x1 * 256 + x2, Fr.none0⟩ (HO ()) ((w.alloc (.cells (fc false 0 0 0 0 false) 78)).alloc (.cells (fc false ((x1 : Int) * 256 + (x2 : Int)) 0 0 0 false) 78)).drew
  refine he.mono ?_
  rintro e w2 ⟨g, c, rfl, hg, hc, hb2, hk2⟩
  clear he
  rw [show flen ⟨false, x1 * 256 + x2, Fr.none0⟩ = 5 from rfl]
  have kk : Keep nil w w2 := ((((Keep.refl nil w).alloc _).alloc _).drew).trans hk2
  have bF := (((Blk.new' (w.alloc (.cells (fc false 0 0 0 0 false) 78)) (fc false ((x1 : Int) * 256 + (x2 : Int)) 0 0 0 false) 78 (w.heap.size + 1) (World.size_alloc _ _).symm)).drew).keep hk2 (fun e => e)
  have bR := (((Blk.new w (fc false 0 0 0 0 false) 78).old (.cells (fc false ((x1 : Int) * 256 + (x2 : Int)) 0 0 0 false) 78)).drew).keep hk2 (fun e => e)
  have r2 : Row w2 bb bo [x0, x1, x2, x3, x4] := hrow.keep kk hbb (fun e => e)
  have s1 := conv_row w2 g 0 c (Fr.enc ⟨false, x1 * 256 + x2, Fr.none0⟩) (brow_row hb2)
  have s2 := conv_row w2 bb bo cap [x0, x1, x2, x3, x4] r2
  rw [enc_len, show flen ⟨false, x1 * 256 + x2, Fr.none0⟩ = 5 from rfl] at s1
  rw [show [x0, x1, x2, x3, x4].length = 5 from rfl] at s2
  have s3 := bstr_eq (Fr.enc ⟨false, x1 * 256 + x2, Fr.none0⟩) [x0, x1, x2, x3, x4] (enc_byte _ (HO ())) hb
  generalize bstr (Fr.enc ⟨false, x1 * 256 + x2, Fr.none0⟩) = t1 at *
  generalize bstr [x0, x1, x2, x3, x4] = t2 at *
  have q0 := bF.cell 0
  have q1 := bF.cell 1
  have q2 := bF.cell 2
  have q3 := bF.cell 3
  have q4 := bF.cell 4
  have q5 := bF.cell 5
  have r0 := bR.cell 0
  have r1 := bR.cell 1
  have r2 := bR.cell 2
  have r3 := bR.cell 3
  have r4 := bR.cell 4
  have r5 := bR.cell 5
  have r6 := fun i => bR.frozen i
  simp at q0 q1 q2 q3 q4 q5 r0 r1 r2 r3 r4 r5
  clear hb2 hrow hb hk2 hg
  rw [decide_eq_false (HQ ())] at s3
  go_wp2
  have d1 := bR.put6 false 0 0 0 0 false
  have k1 : Keep nil w (put6 w2 w.heap.size false 0 0 0 0 false) := kk.put6 w.heap.size (fun h => by omega) false 0 0 0 0 false
  have z0 := d1.cell 0
  have z1 := d1.cell 1
  have z2 := d1.cell 2
  have z3 := d1.cell 3
  have z4 := d1.cell 4
  have z5 := d1.cell 5
  simp only [List.getElem?_toArray] at z0 z1 z2 z3 z4 z5
  exact bodyPost_ret (v := .tuple #[.agg (fc false 0 0 0 0 false), .int .i64 9]) (by simp [results, Tryz.results81, go_sem, z0, z1, z2, z3, z4, z5]) rfl ⟨rfl, k1⟩

end Go.Proofs.YtlfijfodklhplaaGreat
