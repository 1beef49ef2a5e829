import Derived.Test.YtlfijfodklhplaaGreatLk11
import Derived.Test.YtlfijfodklhplaaGreatLk12
import Derived.Test.YtlfijfodklhplaaGreatLk13
import Derived.Test.YtlfijfodklhplaaGreatLk10
import Derived.Test.YtlfijfodklhplaaGreatLk09
import Derived.Test.YtlfijfodklhplaaGreatLk08
/- The document's 'may a message be', at every kind. -/
namespace Go.Proofs.YtlfijfodklhplaaGreat
open Go.RowKit
set_option linter.unusedVariables false

set_option maxRecDepth 100000 in
set_option maxHeartbeats 2000000 in
theorem refmay_out (k l n : Int) (f : Bool) (hk : k < 1 ∨ 7 < k) (w : World) :
    Calls Tryz.prog 125 #[.agg #[.int .i64 k, .int .i64 l, .int .i64 n, .bool f]] w fun e w' => e = .returned (.bool false) ∧ Keep nil w w' := by
  have h1 : (k == 1) = false := beq_eq_false_iff_ne.2 (by omega)
  have h2 : (k == 2) = false := beq_eq_false_iff_ne.2 (by omega)
  have h3 : (k == 3) = false := beq_eq_false_iff_ne.2 (by omega)
  have h6 : (k == 6) = false := beq_eq_false_iff_ne.2 (by omega)
  rcases hk with hk | hk
  · go_enter Tryz.func125, Tryz.ntmps125
    go_wp2
    go_ret
    exact ⟨rfl, (Keep.refl _ _).alloc _⟩
  · have h1' : ¬ k < 1 := by omega
    go_enter Tryz.func125, Tryz.ntmps125
    go_wp2
    go_ret
    exact ⟨rfl, (Keep.refl _ _).alloc _⟩

theorem refmay_any (k l n : Int) (f : Bool) (w : World) :
    Calls Tryz.prog 125 #[.agg #[.int .i64 k, .int .i64 l, .int .i64 n, .bool f]] w fun e w' => e = .returned (.bool (may k l n f)) ∧ Keep nil w w' := by
  by_cases hk : 1 ≤ k ∧ k ≤ 7
  · by_cases h2 : k = 2
    · subst h2; exact refmay_two l n f w
    · by_cases h4 : k ≤ 4
      · exact refmay_a k l n f (by omega) w
      · exact refmay_b k l n f (by omega) w
  · have hm : may k l n f = false := by simp only [may, decide_eq_false_iff_not]; exact fun h => hk h.1
    rw [hm]
    exact refmay_out k l n f (by omega) w
end Go.Proofs.YtlfijfodklhplaaGreat
/- Walk of the document's Encode. -/
namespace Go.Proofs.YtlfijfodklhplaaGreat
open Go.RowKit
set_option linter.unusedVariables false

set_option maxRecDepth 100000 in
set_option maxHeartbeats 4000000 in
theorem refenc_ack (s : Nat) (hs : s < 65536) (w : World) :
    Calls Tryz.prog 77 #[.agg (fc false (s : Int) 0 0 0 false)] w fun e w' =>
      ∃ g c, e = .returned (.tuple #[.slice (some ⟨g, 0, none⟩) 5 c, .int .i64 0]) ∧ w.heap.size ≤ g ∧ 5 ≤ c ∧ BRow w' g (Fr.enc ⟨false, s, Fr.none0⟩) c ∧ Keep nil w w' := by
  have h1 : (s : Int) < 65536 := by omega
  have h0 : 0 ≤ (s : Int) := by omega
  have e1 : IntKind.u8.wrap ((s : Int) / 256) = ((s / 256 : Nat) : Int) := by rw [IntKind.wrap_u8']; omega
  have e2 : IntKind.u8.wrap ((s : Int) % 256) = ((s % 256 : Nat) : Int) := by rw [IntKind.wrap_u8']; omega
  have e3 : (s : Int) / 256 = ((s / 256 : Nat) : Int) := by omega
  have e4 : (s : Int) % 256 = ((s % 256 : Nat) : Int) := by omega
  have hq1 : s / 256 < 256 := by omega
  have hq2 : s % 256 < 256 := by omega
  have hbt : ∀ x ∈ [2, s / 256, s % 256], x < 256 := by intro x hx; simp at hx; omega
  have HB : Hid (∀ x ∈ [2, s / 256, s % 256], x < 256) := hbt
  have hq := Fr.crc_lt [2, s / 256, s % 256] hbt
  have HE : Hid (Fr.enc ⟨false, s, Fr.none0⟩ = [2, s / 256, s % 256] ++ [Fr.crc [2, s / 256, s % 256] / 256, Fr.crc [2, s / 256, s % 256] % 256]) := by
    show Fr.enc ⟨false, s, Fr.none0⟩ = _
    simp [Fr.enc, Fr.sealed, Fr.body]
  have H3 : Hid ((s : Int) / 256 = ((s / 256 : Nat) : Int)) := e3
  have H4 : Hid ((s : Int) % 256 = ((s % 256 : Nat) : Int)) := e4
  have HQQ : Unit → Fr.crc [2, s / 256, s % 256] < 65536 := fun _ => hq
  clear hs hbt e1 e2 e3 e4 hq
  generalize s / 256 = a1 at *
  generalize s % 256 = a2 at *
  generalize (s : Int) = S at *
  go_enter Tryz.func77, Tryz.ntmps77
  go_wp2_with fail
  refine (refmay_any 0 0 0 false _).mono ?_
  rintro e w1 ⟨rfl, hk1⟩
  have hz : w.heap.size < w1.heap.size := by have := hk1.size; simp at this; omega
  have c0 := fun i => hk1.cell w.heap.size i (by simp) (fun e => e)
  simp only [World.cell?_alloc_new] at c0
  have hm : may 0 0 0 false = false := rfl
  go_wp2_with fail
  rw [H3.out, H4.out]
  have b1 : BRow (w1.alloc (.cells #[.int .u8 2, .int .u8 (a1 : Int), .int .u8 (a2 : Int)] 5)) w1.heap.size [2, a1, a2] 3 := ⟨[], Blk.new w1 _ _, rfl⟩
  have hq := HQQ ()
  have hn := refcheck_any w1.heap.size 0 3 [2, a1, a2] _ (brow_row b1) (by simp) HB.out
  clear HQQ
  generalize Fr.crc [2, a1, a2] = q at *
  refine Calls.mono hn ?_
  rintro e w2 ⟨rfl, rfl⟩
  have hq3 : (q : Int) < 65536 := by omega
  have hq0 : 0 ≤ (q : Int) := by omega
  have HQ1 : Hid ((q : Int) / 256 = ((q / 256 : Nat) : Int)) := by show (q : Int) / 256 = _; omega
  have HQ2 : Hid ((q : Int) % 256 = ((q % 256 : Nat) : Int)) := by show (q : Int) % 256 = _; omega
  clear hn hq c0 hm
  have hcl : ∀ (W : World) (n : Nat), n = W.heap.size → ∀ j u, ([q / 256, q % 256].map bv)[j]? = some u → (W.alloc (.cells #[.int .u8 ((q : Int) / 256), .int .u8 ((q : Int) % 256)] 5)).cell? ((⟨n, 0, none⟩ : Addr).add j) = some u := fun W n hn => by
    rw [HQ1.out, HQ2.out]; exact cells_list W ([q / 256, q % 256].map bv) 5 n hn
  have HCL : Hid _ := hcl
  clear hcl
  generalize (q : Int) = Q at *
  go_wp2_with (at_builtin; refine wpList_append_any _ rfl (.tmp 97) (.tmp 104) 56 rfl 5 (.int .u8 0) 1 1 Tryz.underlying56 u8_info rfl w1.heap.size 3 3 rfl ([2, a1, a2].map bv) rfl (b1.alloc _) ⟨w1.heap.size + 1, 0, none⟩ 2 2 rfl ([q / 256, q % 256].map bv) rfl (HCL.out _ _ (World.size_alloc _ _).symm) (bv_one _) (by omega) (by omega) ?_; intro g' c' w3 hb3 hc3 hd3 hk3)
  go_ret2
  refine ⟨g', c', rfl, ?_, hc3, ?_, ?_⟩
  · rcases hd3 with ⟨rfl, _⟩ | ⟨rfl, _⟩
    · omega
    · simp; omega
  · rw [HE.out]
    show VBuf _ _ _ _ (([2, a1, a2] ++ [q / 256, q % 256]).map bv) _
    rw [List.map_append]; exact hb3
  · exact ((((((Keep.refl nil w).alloc _).trans hk1).alloc _).alloc _).trans' hk3 (fun i hi e => by simp only [only] at e; omega))
end Go.Proofs.YtlfijfodklhplaaGreat
/- Walk of the document's Encode, at messages. -/
namespace Go.Proofs.YtlfijfodklhplaaGreat
open Go.RowKit
set_option linter.unusedVariables false

set_option maxRecDepth 100000 in
set_option maxHeartbeats 4000000 in
theorem refenc_msg_true (s : Nat) (hs : s < 65536) (k lv n : Nat) (hk : k < 256) (hlv : lv < 256) (hn : n < 65536) (hm : may (k : Int) (lv : Int) (n : Int) true = true) (w : World) :
    Calls Tryz.prog 77 #[.agg (fc true (s : Int) (k : Int) (lv : Int) (n : Int) true)] w fun e w' =>
      ∃ g c, e = .returned (.tuple #[.slice (some ⟨g, 0, none⟩) 10 c, .int .i64 0]) ∧ w.heap.size ≤ g ∧ 10 ≤ c ∧ BRow w' g (Fr.enc ⟨true, s, ⟨k, lv, n, true⟩⟩) c ∧ Keep nil w w' := by
  have hk1 : 1 ≤ (k : Int) := by simp only [may, decide_eq_true_eq] at hm; exact hm.1.1
  have h1 : (s : Int) < 65536 := by omega
  have h0 : 0 ≤ (s : Int) := by omega
  have hn1 : (n : Int) < 65536 := by omega
  have hn0 : 0 ≤ (n : Int) := by omega
  have hK : ((k : Int) == 0) = false := by rw [beq_eq_false_iff_ne]; omega
  have hKb : (k : Int) < 256 := by omega
  have hLb : (lv : Int) < 256 := by omega
  have hL0 : 0 ≤ (lv : Int) := by omega
  have H1 : Hid ((s : Int) / 256 = ((s / 256 : Nat) : Int)) := by show (s : Int) / 256 = _; omega
  have H2 : Hid ((s : Int) % 256 = ((s % 256 : Nat) : Int)) := by show (s : Int) % 256 = _; omega
  have H3 : Hid ((n : Int) / 256 = ((n / 256 : Nat) : Int)) := by show (n : Int) / 256 = _; omega
  have H4 : Hid ((n : Int) % 256 = ((n % 256 : Nat) : Int)) := by show (n : Int) % 256 = _; omega
  have hbt : ∀ x ∈ [1, s / 256, s % 256, k, lv, 1, n / 256, n % 256], x < 256 := by intro x hx; simp at hx; omega
  have HQQ : Unit → Fr.crc [1, s / 256, s % 256, k, lv, 1, n / 256, n % 256] < 65536 := fun _ => Fr.crc_lt _ hbt
  have HE : Unit → Fr.enc ⟨true, s, ⟨k, lv, n, true⟩⟩ = [1, s / 256, s % 256] ++ [k, lv, 1, n / 256, n % 256] ++ [Fr.crc [1, s / 256, s % 256, k, lv, 1, n / 256, n % 256] / 256, Fr.crc [1, s / 256, s % 256, k, lv, 1, n / 256, n % 256] % 256] := fun _ => by
    simp [Fr.enc, Fr.sealed, Fr.body]
  clear hs hk hlv hn
  generalize s / 256 = a1 at *
  generalize s % 256 = a2 at *
  generalize n / 256 = n1 at *
  generalize n % 256 = n2 at *
  have HB : Unit → ∀ x ∈ [1, a1, a2, k, lv, 1, n1, n2], x < 256 := fun _ => hbt
  clear hbt
  have HC5 : ∀ (W : World) (m : Nat), m = W.heap.size → ∀ j u, ([k, lv, 1, n1, n2].map bv)[j]? = some u → (W.alloc (.cells #[.int .u8 (k : Int), .int .u8 (lv : Int), .int .u8 1, .int .u8 ((n : Int) / 256), .int .u8 ((n : Int) % 256)] 5)).cell? ((⟨m, 0, none⟩ : Addr).add j) = some u := fun W m hm => by
    rw [H3.out, H4.out]; exact cells_list W ([k, lv, 1, n1, n2].map bv) 5 m hm
  have HCL : Hid _ := HC5
  clear HC5
  generalize (s : Int) = S at *
  generalize (n : Int) = N at *
  go_enter Tryz.func77, Tryz.ntmps77
  go_wp2_with fail
  refine (refmay_any (k : Int) (lv : Int) N true _).mono ?_
  rintro e w1 ⟨rfl, hkp1⟩
  have hz : w.heap.size < w1.heap.size := by have := hkp1.size; simp at this; omega
  have c0 := fun i => hkp1.cell w.heap.size i (by simp) (fun e => e)
  simp only [World.cell?_alloc_new] at c0
  have b1 : BRow (w1.alloc (.cells #[.int .u8 1, .int .u8 (a1 : Int), .int .u8 (a2 : Int)] 5)) w1.heap.size [1, a1, a2] 3 := ⟨[], Blk.new w1 _ _, rfl⟩
  rw [← H1.out, ← H2.out] at b1
  go_wp2_with (at_builtin; refine wpList_append_any _ rfl (.tmp 73) (.tmp 93) 56 rfl 5 (.int .u8 0) 1 1 Tryz.underlying56 u8_info rfl w1.heap.size 3 3 rfl ([1, a1, a2].map bv) rfl (b1.alloc _) ⟨w1.heap.size + 1, 0, none⟩ 5 5 rfl ([k, lv, 1, n1, n2].map bv) rfl (HCL.out _ _ (World.size_alloc _ _).symm) (bv_one _) (by omega) (by omega) ?_; intro g2 c2 w2 hb2 hc2 hd2 hk2)
  have L : Unit → [1, a1, a2] ++ [k, lv, 1, n1, n2] = [1, a1, a2, k, lv, 1, n1, n2] := fun _ => rfl
  have b2 : BRow w2 g2 [1, a1, a2, k, lv, 1, n1, n2] c2 := hb2
  have hq := HQQ ()
  have hn := refcheck_any g2 0 c2 [1, a1, a2, k, lv, 1, n1, n2] _ (brow_row b2) (by simp) (HB ())
  clear HQQ HCL hb2 c0 hm HB
  generalize Fr.crc [1, a1, a2, k, lv, 1, n1, n2] = q at *
  refine Calls.mono hn ?_
  rintro e w3 ⟨rfl, rfl⟩
  have hq3 : (q : Int) < 65536 := by omega
  have hq0 : 0 ≤ (q : Int) := by omega
  have HQ1 : Hid ((q : Int) / 256 = ((q / 256 : Nat) : Int)) := by show (q : Int) / 256 = _; omega
  have HQ2 : Hid ((q : Int) % 256 = ((q % 256 : Nat) : Int)) := by show (q : Int) % 256 = _; omega
  clear hn hq
  have hcl : ∀ (W : World) (n : Nat), n = W.heap.size → ∀ j u, ([q / 256, q % 256].map bv)[j]? = some u → (W.alloc (.cells #[.int .u8 ((q : Int) / 256), .int .u8 ((q : Int) % 256)] 5)).cell? ((⟨n, 0, none⟩ : Addr).add j) = some u := fun W n hn => by
    rw [HQ1.out, HQ2.out]; exact cells_list W ([q / 256, q % 256].map bv) 5 n hn
  have HCL : Hid _ := hcl
  clear hcl
  generalize (q : Int) = Q at *
  have hg2 := b2.lt
  go_wp2_with (at_builtin; refine wpList_append_any _ rfl (.tmp 97) (.tmp 104) 56 rfl 5 (.int .u8 0) 1 1 Tryz.underlying56 u8_info rfl g2 8 c2 rfl ([1, a1, a2, k, lv, 1, n1, n2].map bv) rfl (b2.alloc _) ⟨w2.heap.size, 0, none⟩ 2 2 rfl ([q / 256, q % 256].map bv) rfl (HCL.out _ _ rfl) (bv_one _) (by omega) (by omega) ?_; intro g' c' w4 hb4 hc4 hd4 hk4)
  go_ret2
  have hz2 := hk2.size
  simp only [World.size_alloc] at hz2
  have hg2' : w.heap.size ≤ g2 := by
    rcases hd2 with ⟨rfl, _⟩ | ⟨rfl, _⟩
    · omega
    · simp; omega
  refine ⟨g', c', rfl, ?_, hc4, ?_, ?_⟩
  · rcases hd4 with ⟨rfl, _⟩ | ⟨rfl, _⟩
    · omega
    · simp; omega
  · rw [HE ()]
    show VBuf _ _ _ _ (([1, a1, a2, k, lv, 1, n1, n2] ++ [q / 256, q % 256]).map bv) _
    rw [List.map_append]; exact hb4
  · exact (((((((Keep.refl nil w).alloc _).trans hkp1).alloc _).alloc _).trans' hk2 (fun i hi e => by simp only [only] at e; omega)).alloc _).trans' hk4 (fun i hi e => by simp only [only] at e; omega)

set_option maxRecDepth 100000 in
set_option maxHeartbeats 4000000 in
theorem refenc_msg_false (s : Nat) (hs : s < 65536) (k lv n : Nat) (hk : k < 256) (hlv : lv < 256) (hn : n < 65536) (hm : may (k : Int) (lv : Int) (n : Int) false = true) (w : World) :
    Calls Tryz.prog 77 #[.agg (fc true (s : Int) (k : Int) (lv : Int) (n : Int) false)] w fun e w' =>
      ∃ g c, e = .returned (.tuple #[.slice (some ⟨g, 0, none⟩) 10 c, .int .i64 0]) ∧ w.heap.size ≤ g ∧ 10 ≤ c ∧ BRow w' g (Fr.enc ⟨true, s, ⟨k, lv, n, false⟩⟩) c ∧ Keep nil w w' := by
  have hk1 : 1 ≤ (k : Int) := by simp only [may, decide_eq_true_eq] at hm; exact hm.1.1
  have h1 : (s : Int) < 65536 := by omega
  have h0 : 0 ≤ (s : Int) := by omega
  have hn1 : (n : Int) < 65536 := by omega
  have hn0 : 0 ≤ (n : Int) := by omega
  have hK : ((k : Int) == 0) = false := by rw [beq_eq_false_iff_ne]; omega
  have hKb : (k : Int) < 256 := by omega
  have hLb : (lv : Int) < 256 := by omega
  have hL0 : 0 ≤ (lv : Int) := by omega
  have H1 : Hid ((s : Int) / 256 = ((s / 256 : Nat) : Int)) := by show (s : Int) / 256 = _; omega
  have H2 : Hid ((s : Int) % 256 = ((s % 256 : Nat) : Int)) := by show (s : Int) % 256 = _; omega
  have H3 : Hid ((n : Int) / 256 = ((n / 256 : Nat) : Int)) := by show (n : Int) / 256 = _; omega
  have H4 : Hid ((n : Int) % 256 = ((n % 256 : Nat) : Int)) := by show (n : Int) % 256 = _; omega
  have hbt : ∀ x ∈ [1, s / 256, s % 256, k, lv, 0, n / 256, n % 256], x < 256 := by intro x hx; simp at hx; omega
  have HQQ : Unit → Fr.crc [1, s / 256, s % 256, k, lv, 0, n / 256, n % 256] < 65536 := fun _ => Fr.crc_lt _ hbt
  have HE : Unit → Fr.enc ⟨true, s, ⟨k, lv, n, false⟩⟩ = [1, s / 256, s % 256] ++ [k, lv, 0, n / 256, n % 256] ++ [Fr.crc [1, s / 256, s % 256, k, lv, 0, n / 256, n % 256] / 256, Fr.crc [1, s / 256, s % 256, k, lv, 0, n / 256, n % 256] % 256] := fun _ => by
    simp [Fr.enc, Fr.sealed, Fr.body]
  clear hs hk hlv hn
  generalize s / 256 = a1 at *
  generalize s % 256 = a2 at *
  generalize n / 256 = n1 at *
  generalize n % 256 = n2 at *
  have HB : Unit → ∀ x ∈ [1, a1, a2, k, lv, 0, n1, n2], x < 256 := fun _ => hbt
  clear hbt
  have HC5 : ∀ (W : World) (m : Nat), m = W.heap.size → ∀ j u, ([k, lv, 0, n1, n2].map bv)[j]? = some u → (W.alloc (.cells #[.int .u8 (k : Int), .int .u8 (lv : Int), .int .u8 0, .int .u8 ((n : Int) / 256), .int .u8 ((n : Int) % 256)] 5)).cell? ((⟨m, 0, none⟩ : Addr).add j) = some u := fun W m hm => by
    rw [H3.out, H4.out]; exact cells_list W ([k, lv, 0, n1, n2].map bv) 5 m hm
  have HCL : Hid _ := HC5
  clear HC5
  generalize (s : Int) = S at *
  generalize (n : Int) = N at *
  go_enter Tryz.func77, Tryz.ntmps77
  go_wp2_with fail
  refine (refmay_any (k : Int) (lv : Int) N false _).mono ?_
  rintro e w1 ⟨rfl, hkp1⟩
  have hz : w.heap.size < w1.heap.size := by have := hkp1.size; simp at this; omega
  have c0 := fun i => hkp1.cell w.heap.size i (by simp) (fun e => e)
  simp only [World.cell?_alloc_new] at c0
  have b1 : BRow (w1.alloc (.cells #[.int .u8 1, .int .u8 (a1 : Int), .int .u8 (a2 : Int)] 5)) w1.heap.size [1, a1, a2] 3 := ⟨[], Blk.new w1 _ _, rfl⟩
  rw [← H1.out, ← H2.out] at b1
  go_wp2_with (at_builtin; refine wpList_append_any _ rfl (.tmp 73) (.tmp 93) 56 rfl 5 (.int .u8 0) 1 1 Tryz.underlying56 u8_info rfl w1.heap.size 3 3 rfl ([1, a1, a2].map bv) rfl (b1.alloc _) ⟨w1.heap.size + 1, 0, none⟩ 5 5 rfl ([k, lv, 0, n1, n2].map bv) rfl (HCL.out _ _ (World.size_alloc _ _).symm) (bv_one _) (by omega) (by omega) ?_; intro g2 c2 w2 hb2 hc2 hd2 hk2)
  have L : Unit → [1, a1, a2] ++ [k, lv, 0, n1, n2] = [1, a1, a2, k, lv, 0, n1, n2] := fun _ => rfl
  have b2 : BRow w2 g2 [1, a1, a2, k, lv, 0, n1, n2] c2 := hb2
  have hq := HQQ ()
  have hn := refcheck_any g2 0 c2 [1, a1, a2, k, lv, 0, n1, n2] _ (brow_row b2) (by simp) (HB ())
  clear HQQ HCL hb2 c0 hm HB
  generalize Fr.crc [1, a1, a2, k, lv, 0, n1, n2] = q at *
  refine Calls.mono hn ?_
  rintro e w3 ⟨rfl, rfl⟩
  have hq3 : (q : Int) < 65536 := by omega
  have hq0 : 0 ≤ (q : Int) := by omega
  have HQ1 : Hid ((q : Int) / 256 = ((q / 256 : Nat) : Int)) := by show (q : Int) / 256 = _; omega
  have HQ2 : Hid ((q : Int) % 256 = ((q % 256 : Nat) : Int)) := by show (q : Int) % 256 = _; omega
  clear hn hq
  have hcl : ∀ (W : World) (n : Nat), n = W.heap.size → ∀ j u, ([q / 256, q % 256].map bv)[j]? = some u → (W.alloc (.cells #[.int .u8 ((q : Int) / 256), .int .u8 ((q : Int) % 256)] 5)).cell? ((⟨n, 0, none⟩ : Addr).add j) = some u := fun W n hn => by
    rw [HQ1.out, HQ2.out]; exact cells_list W ([q / 256, q % 256].map bv) 5 n hn
  have HCL : Hid _ := hcl
  clear hcl
  generalize (q : Int) = Q at *
  have hg2 := b2.lt
  go_wp2_with (at_builtin; refine wpList_append_any _ rfl (.tmp 97) (.tmp 104) 56 rfl 5 (.int .u8 0) 1 1 Tryz.underlying56 u8_info rfl g2 8 c2 rfl ([1, a1, a2, k, lv, 0, n1, n2].map bv) rfl (b2.alloc _) ⟨w2.heap.size, 0, none⟩ 2 2 rfl ([q / 256, q % 256].map bv) rfl (HCL.out _ _ rfl) (bv_one _) (by omega) (by omega) ?_; intro g' c' w4 hb4 hc4 hd4 hk4)
  go_ret2
  have hz2 := hk2.size
  simp only [World.size_alloc] at hz2
  have hg2' : w.heap.size ≤ g2 := by
    rcases hd2 with ⟨rfl, _⟩ | ⟨rfl, _⟩
    · omega
    · simp; omega
  refine ⟨g', c', rfl, ?_, hc4, ?_, ?_⟩
  · rcases hd4 with ⟨rfl, _⟩ | ⟨rfl, _⟩
    · omega
    · simp; omega
  · rw [HE ()]
    show VBuf _ _ _ _ (([1, a1, a2, k, lv, 0, n1, n2] ++ [q / 256, q % 256]).map bv) _
    rw [List.map_append]; exact hb4
  · exact (((((((Keep.refl nil w).alloc _).trans hkp1).alloc _).alloc _).trans' hk2 (fun i hi e => by simp only [only] at e; omega)).alloc _).trans' hk4 (fun i hi e => by simp only [only] at e; omega)

/-- What the document's Encode tells of a frame that may be. -/
theorem refenc_any (f : Fr.Frm) (hf : FrOk f) (w : World) :
    Calls Tryz.prog 77 #[.agg (fv f)] w fun e w' =>
      ∃ g c, e = .returned (.tuple #[.slice (some ⟨g, 0, none⟩) (flen f) c, .int .i64 0]) ∧ w.heap.size ≤ g ∧ flen f ≤ c ∧ BRow w' g (Fr.enc f) c ∧ Keep nil w w' := by
  obtain ⟨d, s, k, lv, n, fb⟩ := f
  obtain ⟨h0, ⟨h1, h2, h3, h4, h5⟩ | ⟨h1, h2⟩⟩ := hf
  · simp only at h0 h1 h2 h3 h4 h5
    subst h1
    cases fb
    · exact refenc_msg_false s h0 k lv n h2 h3 h4 h5 w
    · exact refenc_msg_true s h0 k lv n h2 h3 h4 h5 w
  · simp only at h0 h1 h2
    obtain ⟨rfl, rfl, rfl, rfl⟩ : k = 0 ∧ lv = 0 ∧ n = 0 ∧ fb = false := by simpa [Fr.none0] using h2
    subst h1
    exact refenc_ack s h0 w
end Go.Proofs.YtlfijfodklhplaaGreat
