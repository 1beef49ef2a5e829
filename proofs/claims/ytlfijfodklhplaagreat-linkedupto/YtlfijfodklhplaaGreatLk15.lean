import Derived.Test.YtlfijfodklhplaaGreatLk14
import Derived.Test.YtlfijfodklhplaaGreatLk08
import Derived.Test.YtlfijfodklhplaaGreatLk09
/- Walk of the document's Encode where it refuses. -/
namespace Go.Proofs.YtlfijfodklhplaaGreat
open Go.RowKit
set_option linter.unusedVariables false

set_option maxRecDepth 100000 in
set_option maxHeartbeats 2000000 in
theorem refenc_nine (d : Bool) (s k l n : Int) (f : Bool) (h : s < 0 ∨ 65535 < s) (w : World) :
    Calls Tryz.prog 77 #[.agg (fc d s k l n f)] w fun e w' => e = .returned (.tuple #[.slice none 0 0, .int .i64 9]) ∧ Keep nil w w' := by
  rcases h with h | h
  · go_enter Tryz.func77, Tryz.ntmps77
    go_wp2
    go_ret2
    exact ⟨rfl, (Keep.refl _ _).alloc _⟩
  · have h' : ¬ s < 0 := by omega
    have h2 : 65536 ≤ s := by omega
    clear h
    go_enter Tryz.func77, Tryz.ntmps77
    go_wp2
    go_ret2
    exact ⟨rfl, (Keep.refl _ _).alloc _⟩

theorem msg_ways (k l n : Int) (f : Bool) : ((k == 0) = false ∧ Hid (noMsg k l n f = false)) ∨ (k = 0 ∧ (l == 0) = false ∧ Hid (noMsg 0 l n f = false)) ∨ (k = 0 ∧ l = 0 ∧ (n == 0) = false ∧ Hid (noMsg 0 0 n f = false)) ∨ (k = 0 ∧ l = 0 ∧ n = 0) := by
  by_cases h1 : k = 0
  · subst h1
    by_cases h2 : l = 0
    · subst h2
      by_cases h3 : n = 0
      · exact Or.inr (Or.inr (Or.inr ⟨rfl, rfl, h3⟩))
      · exact Or.inr (Or.inr (Or.inl ⟨rfl, rfl, by simpa using h3, by show noMsg 0 0 n f = false; simp [noMsg, h3]⟩))
    · exact Or.inr (Or.inl ⟨rfl, by simpa using h2, by show noMsg 0 l n f = false; simp [noMsg, h2]⟩)
  · exact Or.inl ⟨by simpa using h1, by show noMsg k l n f = false; simp [noMsg, h1]⟩

set_option maxRecDepth 100000 in
set_option maxHeartbeats 4000000 in
theorem refenc_ten_data (s k l n : Int) (f : Bool) (h0 : 0 ≤ s) (h1 : s < 65536) (hm : may k l n f = false) (w : World) :
    Calls Tryz.prog 77 #[.agg (fc true s k l n f)] w fun e w' => e = .returned (.tuple #[.slice none 0 0, .int .i64 10]) ∧ Keep nil w w' := by
  rcases msg_ways k l n f with ⟨g1, _⟩ | ⟨rfl, g1, _⟩ | ⟨rfl, rfl, g1, _⟩ | ⟨rfl, rfl, rfl⟩
  all_goals
    go_enter Tryz.func77, Tryz.ntmps77
    go_wp2_with fail
    refine (refmay_any _ _ _ f _).mono ?_
    rintro e w1 ⟨rfl, hkp1⟩
    have hz : w.heap.size < w1.heap.size := by have := hkp1.size; simp at this; omega
    have c0 := fun i => hkp1.cell w.heap.size i (by simp) (fun e => e)
    simp only [World.cell?_alloc_new] at c0
    go_wp2
    go_ret2
    exact ⟨rfl, ((Keep.refl _ _).alloc _).trans hkp1⟩

set_option maxRecDepth 100000 in
set_option maxHeartbeats 4000000 in
theorem refenc_ten_ack (s k l n : Int) (f : Bool) (h0 : 0 ≤ s) (h1 : s < 65536) (hm : noMsg k l n f = false) (w : World) :
    Calls Tryz.prog 77 #[.agg (fc false s k l n f)] w fun e w' => e = .returned (.tuple #[.slice none 0 0, .int .i64 10]) ∧ Keep nil w w' := by
  rcases msg_ways k l n f with ⟨g1, _⟩ | ⟨rfl, g1, _⟩ | ⟨rfl, rfl, g1, _⟩ | ⟨rfl, rfl, rfl⟩
  · clear hm
    go_enter Tryz.func77, Tryz.ntmps77
    go_wp2_with fail
    refine (refmay_any _ _ _ f _).mono ?_
    rintro e w1 ⟨rfl, hkp1⟩
    have hz : w.heap.size < w1.heap.size := by have := hkp1.size; simp at this; omega
    have c0 := fun i => hkp1.cell w.heap.size i (by simp) (fun e => e)
    simp only [World.cell?_alloc_new] at c0
    go_wp2
    go_ret2
    exact ⟨rfl, ((Keep.refl _ _).alloc _).trans hkp1⟩
  · clear hm
    go_enter Tryz.func77, Tryz.ntmps77
    go_wp2_with fail
    refine (refmay_any _ _ _ f _).mono ?_
    rintro e w1 ⟨rfl, hkp1⟩
    have hz : w.heap.size < w1.heap.size := by have := hkp1.size; simp at this; omega
    have c0 := fun i => hkp1.cell w.heap.size i (by simp) (fun e => e)
    simp only [World.cell?_alloc_new] at c0
    go_wp2
    go_ret2
    exact ⟨rfl, ((Keep.refl _ _).alloc _).trans hkp1⟩
  · clear hm
    go_enter Tryz.func77, Tryz.ntmps77
    go_wp2_with fail
    refine (refmay_any _ _ _ f _).mono ?_
    rintro e w1 ⟨rfl, hkp1⟩
    have hz : w.heap.size < w1.heap.size := by have := hkp1.size; simp at this; omega
    have c0 := fun i => hkp1.cell w.heap.size i (by simp) (fun e => e)
    simp only [World.cell?_alloc_new] at c0
    go_wp2
    go_ret2
    exact ⟨rfl, ((Keep.refl _ _).alloc _).trans hkp1⟩
  · have hf : f = true := by cases f; simp [noMsg] at hm; rfl
    subst hf
    clear hm
    go_enter Tryz.func77, Tryz.ntmps77
    go_wp2_with fail
    refine (refmay_any _ _ _ true _).mono ?_
    rintro e w1 ⟨rfl, hkp1⟩
    have hz : w.heap.size < w1.heap.size := by have := hkp1.size; simp at this; omega
    have c0 := fun i => hkp1.cell w.heap.size i (by simp) (fun e => e)
    simp only [World.cell?_alloc_new] at c0
    go_wp2
    go_ret2
    exact ⟨rfl, ((Keep.refl _ _).alloc _).trans hkp1⟩

theorem refenc_err (d : Bool) (s k l n : Int) (f : Bool) (h : encErr d s k l n f ≠ 0) (w : World) :
    Calls Tryz.prog 77 #[.agg (fc d s k l n f)] w fun e w' => e = .returned (.tuple #[.slice none 0 0, .int .i64 (encErr d s k l n f)]) ∧ Keep nil w w' := by
  by_cases h1 : s < 0 ∨ 65535 < s
  · rw [encErr_nine h1]; exact refenc_nine d s k l n f h1 w
  · by_cases h2 : (d = true ∧ may k l n f = true) ∨ (d = false ∧ noMsg k l n f = true)
    · exact absurd (by unfold encErr; rw [if_neg h1, if_pos h2]) h
    · rw [encErr_ten h1 h2]
      have a0 : 0 ≤ s := by omega
      have a1 : s < 65536 := by omega
      cases d
      · exact refenc_ten_ack s k l n f a0 a1 (by cases hh : noMsg k l n f; rfl; exact absurd (Or.inr ⟨rfl, hh⟩) h2) w
      · exact refenc_ten_data s k l n f a0 a1 (by cases hh : may k l n f; rfl; exact absurd (Or.inl ⟨rfl, hh⟩) h2) w
end Go.Proofs.YtlfijfodklhplaaGreat
/- Which bytes are a frame's: five or ten of them, each told by the frame that is encoded so. -/
namespace Go.Proofs.YtlfijfodklhplaaGreat
set_option linter.unusedVariables false

theorem hi_of (a b : Nat) (h : b < 256) : (a * 256 + b) / 256 = a := by omega
theorem lo_of (a b : Nat) (h : b < 256) : (a * 256 + b) % 256 = b := by omega

theorem read5 (x0 x1 x2 x3 x4 : Nat) (h1 : x1 < 256) (h2 : x2 < 256) (h3 : x3 < 256) (h4 : x4 < 256) (x : Six) (h : ReadOk [x0, x1, x2, x3, x4] x) :
    Fr.enc ⟨false, x1 * 256 + x2, Fr.none0⟩ = [x0, x1, x2, x3, x4] := by
  obtain ⟨k, c1, c2, hB, g1, g2, hc, hl⟩ := h
  have hk : k = 3 := by simp at hl; omega
  subst hk
  obtain ⟨s1, s2, e1, e2, ⟨e0, _, _⟩ | ⟨_, e, _⟩⟩ := hB
  · simp at e0 e1 e2 g1 g2 hc
    subst e0 e1 e2 g1 g2
    have e : Fr.enc ⟨false, x1 * 256 + x2, Fr.none0⟩ = [2, (x1 * 256 + x2) / 256, (x1 * 256 + x2) % 256, Fr.crc [2, (x1 * 256 + x2) / 256, (x1 * 256 + x2) % 256] / 256, Fr.crc [2, (x1 * 256 + x2) / 256, (x1 * 256 + x2) % 256] % 256] := by simp [Fr.enc, Fr.sealed, Fr.body]
    have a1 := hi_of x1 x2 h2
    have a2 := lo_of x1 x2 h2
    rw [e, a1, a2, ← hc]
    have b1 := hi_of x3 x4 h4
    have b2 := lo_of x3 x4 h4
    rw [b1, b2]
  · omega

theorem read10 (x0 x1 x2 x3 x4 x5 x6 x7 x8 x9 : Nat) (h1 : x1 < 256) (h2 : x2 < 256) (h6 : x6 < 256) (h7 : x7 < 256) (h8 : x8 < 256) (h9 : x9 < 256) (x : Six) (h : ReadOk [x0, x1, x2, x3, x4, x5, x6, x7, x8, x9] x) :
    may (x3 : Int) (x4 : Int) ((x6 : Int) * 256 + (x7 : Int)) (x5 == 1) = true ∧ Fr.enc ⟨true, x1 * 256 + x2, ⟨x3, x4, x6 * 256 + x7, x5 == 1⟩⟩ = [x0, x1, x2, x3, x4, x5, x6, x7, x8, x9] := by
  obtain ⟨k, c1, c2, hB, g1, g2, hc, hl⟩ := h
  have hk : k = 8 := by simp at hl; omega
  subst hk
  obtain ⟨s1, s2, e1, e2, ⟨_, e, _⟩ | ⟨e0, _, y1, y2, y3, y4, y5, f1, f2, f3, f4, f5, f6, f7, _⟩⟩ := hB
  · omega
  · simp at e0 e1 e2 f1 f2 f3 f4 f5 g1 g2 hc
    subst e0 e1 e2 f1 f2 f3 f4 f5 g1 g2
    refine ⟨f7, ?_⟩
    have a1 := hi_of x1 x2 h2
    have a2 := lo_of x1 x2 h2
    have a3 := hi_of x6 x7 h7
    have a4 := lo_of x6 x7 h7
    have a5 : (x5 == 1).toNat = x5 := by
      have : x5 = 0 ∨ x5 = 1 := by omega
      rcases this with rfl | rfl <;> rfl
    have eb : Fr.body ⟨true, x1 * 256 + x2, ⟨x3, x4, x6 * 256 + x7, x5 == 1⟩⟩ = [1, x1, x2, x3, x4, x5, x6, x7] := by
      simp only [Fr.body, if_true, a1, a2, a3, a4, a5]
    have e : Fr.enc ⟨true, x1 * 256 + x2, ⟨x3, x4, x6 * 256 + x7, x5 == 1⟩⟩ = [1, x1, x2, x3, x4, x5, x6, x7] ++ [Fr.crc [1, x1, x2, x3, x4, x5, x6, x7] / 256, Fr.crc [1, x1, x2, x3, x4, x5, x6, x7] % 256] := by
      simp only [Fr.enc, Fr.sealed, eb]
    rw [e, ← hc]
    have b1 := hi_of x8 x9 h9
    have b2 := lo_of x8 x9 h9
    rw [b1, b2]
    rfl

theorem read_len (l : List Nat) (x : Six) (h : ReadOk l x) : l.length = 5 ∨ l.length = 10 := by
  obtain ⟨k, c1, c2, hB, g1, g2, hc, hl⟩ := h
  have := hB.len
  omega
end Go.Proofs.YtlfijfodklhplaaGreat
/- Walk of the document's Decode. -/
namespace Go.Proofs.YtlfijfodklhplaaGreat
open Go.RowKit
set_option linter.unusedVariables false

set_option maxRecDepth 100000 in
set_option maxHeartbeats 1000000 in
theorem refdec_len (a : Option Addr) (n c : Nat) (w : World) (h5 : ((n : Int) != 5) = true) (h10 : ((n : Int) != 10) = true) :
    Calls Tryz.prog 81 #[.slice a n c] w fun e w' => e = .returned (.tuple #[.agg (fc false 0 0 0 0 false), .int .i64 9]) ∧ Keep nil w w' := by
  go_enter Tryz.func81, Tryz.ntmps81
  go_wp2
  exact bodyPost_ret (v := .tuple #[.agg (fc false 0 0 0 0 false), .int .i64 9]) (by simp [results, Tryz.results81, go_sem]) rfl ⟨rfl, (Keep.refl _ _).alloc _⟩

set_option maxRecDepth 100000 in
set_option maxHeartbeats 2000000 in
theorem refdec_five_yes (bb bo cap : Nat) (x0 x1 x2 x3 x4 : Nat) (w : World) (hrow : Row w bb bo [x0, x1, x2, x3, x4]) (hbb : bb < w.heap.size) (hcap : 5 ≤ cap) (hb : ∀ x ∈ [x0, x1, x2, x3, x4], x < 256) (heq : Fr.enc ⟨false, x1 * 256 + x2, Fr.none0⟩ = [x0, x1, x2, x3, x4]) :
    Calls Tryz.prog 81 #[.slice (some ⟨bb, bo, none⟩) 5 cap] w fun e w' =>
      e = .returned (.tuple #[.agg (fc false ((x1 : Int) * 256 + (x2 : Int)) 0 0 0 false), .int .i64 0]) ∧ Keep nil w w' := by
  have HQ : Unit → Fr.enc ⟨false, x1 * 256 + x2, Fr.none0⟩ = [x0, x1, x2, x3, x4] := fun _ => heq
  clear heq
  have h1 : x1 < 256 := hb x1 (by simp)
  have h2 : x2 < 256 := hb x2 (by simp)
  have q1 := hrow 1 (by simp)
  have q2 := hrow 2 (by simp)
  simp at q1 q2
  go_enter Tryz.func81, Tryz.ntmps81
  go_wp2
  go_region
  have hok : FrOk ⟨false, x1 * 256 + x2, Fr.none0⟩ := ⟨by show x1 * 256 + x2 < 65536; omega, Or.inr ⟨rfl, rfl⟩⟩
  have HO : Unit → FrOk ⟨false, x1 * 256 + x2, Fr.none0⟩ := fun _ => hok
  clear hok q1 q2
  go_wp2_with fail
  have he := refenc_any ⟨false, x1 * 256 + x2, Fr.none0⟩ (HO ()) ((w.alloc (.cells (fc false 0 0 0 0 false) 78)).alloc (.cells (fc false ((x1 : Int) * 256 + (x2 : Int)) 0 0 0 false) 78)).drew
  refine he.mono ?_
  rintro e w2 ⟨g, c, rfl, hg, hc, hb2, hk2⟩
  clear he
  rw [show flen ⟨false, x1 * 256 + x2, Fr.none0⟩ = 5 from rfl]
  have kk : Keep nil w w2 := ((((Keep.refl nil w).alloc _).alloc _).drew).trans hk2
  have bF := (((Blk.new' (w.alloc (.cells (fc false 0 0 0 0 false) 78)) (fc false ((x1 : Int) * 256 + (x2 : Int)) 0 0 0 false) 78 (w.heap.size + 1) (World.size_alloc _ _).symm)).drew).keep hk2 (fun e => e)
  have bR := (((Blk.new w (fc false 0 0 0 0 false) 78).old (.cells (fc false ((x1 : Int) * 256 + (x2 : Int)) 0 0 0 false) 78)).drew).keep hk2 (fun e => e)
  have r2 : Row w2 bb bo [x0, x1, x2, x3, x4] := hrow.keep kk hbb (fun e => e)
  have s1 := conv_row w2 g 0 c (Fr.enc ⟨false, x1 * 256 + x2, Fr.none0⟩) (brow_row hb2)
  have s2 := conv_row w2 bb bo cap [x0, x1, x2, x3, x4] r2
  rw [enc_len, show flen ⟨false, x1 * 256 + x2, Fr.none0⟩ = 5 from rfl] at s1
  rw [show [x0, x1, x2, x3, x4].length = 5 from rfl] at s2
  have s3 := bstr_eq (Fr.enc ⟨false, x1 * 256 + x2, Fr.none0⟩) [x0, x1, x2, x3, x4] (enc_byte _ (HO ())) hb
  generalize bstr (Fr.enc ⟨false, x1 * 256 + x2, Fr.none0⟩) = t1 at *
  generalize bstr [x0, x1, x2, x3, x4] = t2 at *
  have q0 := bF.cell 0
  have q1 := bF.cell 1
  have q2 := bF.cell 2
  have q3 := bF.cell 3
  have q4 := bF.cell 4
  have q5 := bF.cell 5
  have r0 := bR.cell 0
  have r1 := bR.cell 1
  have r2 := bR.cell 2
  have r3 := bR.cell 3
  have r4 := bR.cell 4
  have r5 := bR.cell 5
  have r6 := fun i => bR.frozen i
  simp at q0 q1 q2 q3 q4 q5 r0 r1 r2 r3 r4 r5
  clear hb2 hrow hb hk2 hg
  rw [decide_eq_true (HQ ())] at s3
  go_wp2
  have d1 := bR.put6 false ((x1 : Int) * 256 + (x2 : Int)) 0 0 0 false
  have k1 : Keep nil w (put6 w2 w.heap.size false ((x1 : Int) * 256 + (x2 : Int)) 0 0 0 false) := kk.put6 w.heap.size (fun h => by omega) false ((x1 : Int) * 256 + (x2 : Int)) 0 0 0 false
  have z0 := d1.cell 0
  have z1 := d1.cell 1
  have z2 := d1.cell 2
  have z3 := d1.cell 3
  have z4 := d1.cell 4
  have z5 := d1.cell 5
  simp only [List.getElem?_toArray] at z0 z1 z2 z3 z4 z5
  exact bodyPost_ret (v := .tuple #[.agg (fc false ((x1 : Int) * 256 + (x2 : Int)) 0 0 0 false), .int .i64 0]) (by simp [results, Tryz.results81, go_sem, z0, z1, z2, z3, z4, z5]) rfl ⟨rfl, k1⟩

set_option maxRecDepth 100000 in
set_option maxHeartbeats 2000000 in
theorem refdec_five_no (bb bo cap : Nat) (x0 x1 x2 x3 x4 : Nat) (w : World) (hrow : Row w bb bo [x0, x1, x2, x3, x4]) (hbb : bb < w.heap.size) (hcap : 5 ≤ cap) (hb : ∀ x ∈ [x0, x1, x2, x3, x4], x < 256) (heq : ¬ Fr.enc ⟨false, x1 * 256 + x2, Fr.none0⟩ = [x0, x1, x2, x3, x4]) :
    Calls Tryz.prog 81 #[.slice (some ⟨bb, bo, none⟩) 5 cap] w fun e w' =>
      e = .returned (.tuple #[.agg (fc false 0 0 0 0 false), .int .i64 9]) ∧ Keep nil w w' := by
  have HQ : Unit → ¬ Fr.enc ⟨false, x1 * 256 + x2, Fr.none0⟩ = [x0, x1, x2, x3, x4] := fun _ => heq
  clear heq
  have h1 : x1 < 256 := hb x1 (by simp)
  have h2 : x2 < 256 := hb x2 (by simp)
  have q1 := hrow 1 (by simp)
  have q2 := hrow 2 (by simp)
  simp at q1 q2
  go_enter Tryz.func81, Tryz.ntmps81
  go_wp2
  go_region
  have hok : FrOk ⟨false, x1 * 256 + x2, Fr.none0⟩ := ⟨by show x1 * 256 + x2 < 65536; omega, Or.inr ⟨rfl, rfl⟩⟩
  have HO : Unit → FrOk ⟨false, x1 * 256 + x2, Fr.none0⟩ := fun _ => hok
  clear hok q1 q2
  go_wp2_with fail
  have he := refenc_any ⟨false, x1 * 256 + x2, Fr.none0⟩ (HO ()) ((w.alloc (.cells (fc false 0 0 0 0 false) 78)).alloc (.cells (fc false ((x1 : Int) * 256 + (x2 : Int)) 0 0 0 false) 78)).drew
  refine he.mono ?_
  rintro e w2 ⟨g, c, rfl, hg, hc, hb2, hk2⟩
  clear he
  rw [show flen ⟨false, x1 * 256 + x2, Fr.none0⟩ = 5 from rfl]
  have kk : Keep nil w w2 := ((((Keep.refl nil w).alloc _).alloc _).drew).trans hk2
  have bF := (((Blk.new' (w.alloc (.cells (fc false 0 0 0 0 false) 78)) (fc false ((x1 : Int) * 256 + (x2 : Int)) 0 0 0 false) 78 (w.heap.size + 1) (World.size_alloc _ _).symm)).drew).keep hk2 (fun e => e)
  have bR := (((Blk.new w (fc false 0 0 0 0 false) 78).old (.cells (fc false ((x1 : Int) * 256 + (x2 : Int)) 0 0 0 false) 78)).drew).keep hk2 (fun e => e)
  have r2 : Row w2 bb bo [x0, x1, x2, x3, x4] := hrow.keep kk hbb (fun e => e)
  have s1 := conv_row w2 g 0 c (Fr.enc ⟨false, x1 * 256 + x2, Fr.none0⟩) (brow_row hb2)
  have s2 := conv_row w2 bb bo cap [x0, x1, x2, x3, x4] r2
  rw [enc_len, show flen ⟨false, x1 * 256 + x2, Fr.none0⟩ = 5 from rfl] at s1
  rw [show [x0, x1, x2, x3, x4].length = 5 from rfl] at s2
  have s3 := bstr_eq (Fr.enc ⟨false, x1 * 256 + x2, Fr.none0⟩) [x0, x1, x2, x3, x4] (enc_byte _ (HO ())) hb
  generalize bstr (Fr.enc ⟨false, x1 * 256 + x2, Fr.none0⟩) = t1 at *
  generalize bstr [x0, x1, x2, x3, x4] = t2 at *
  have q0 := bF.cell 0
  have q1 := bF.cell 1
  have q2 := bF.cell 2
  have q3 := bF.cell 3
  have q4 := bF.cell 4
  have q5 := bF.cell 5
  have r0 := bR.cell 0
  have r1 := bR.cell 1
  have r2 := bR.cell 2
  have r3 := bR.cell 3
  have r4 := bR.cell 4
  have r5 := bR.cell 5
  have r6 := fun i => bR.frozen i
  simp at q0 q1 q2 q3 q4 q5 r0 r1 r2 r3 r4 r5
  clear hb2 hrow hb hk2 hg
  rw [decide_eq_false (HQ ())] at s3
  go_wp2
  have d1 := bR.put6 false 0 0 0 0 false
  have k1 : Keep nil w (put6 w2 w.heap.size false 0 0 0 0 false) := kk.put6 w.heap.size (fun h => by omega) false 0 0 0 0 false
  have z0 := d1.cell 0
  have z1 := d1.cell 1
  have z2 := d1.cell 2
  have z3 := d1.cell 3
  have z4 := d1.cell 4
  have z5 := d1.cell 5
  simp only [List.getElem?_toArray] at z0 z1 z2 z3 z4 z5
  exact bodyPost_ret (v := .tuple #[.agg (fc false 0 0 0 0 false), .int .i64 9]) (by simp [results, Tryz.results81, go_sem, z0, z1, z2, z3, z4, z5]) rfl ⟨rfl, k1⟩

end Go.Proofs.YtlfijfodklhplaaGreat
