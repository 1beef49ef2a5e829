/- Walk of the document's Encode. -/
import Derived.Test.YtlfijfodklhplaaGreatRefMayAny
import Derived.Test.YtlfijfodklhplaaGreatRefCrc
import Derived.Test.YtlfijfodklhplaaGreatBytes
import Derived.Test.YtlfijfodklhplaaGreatSeen
namespace Go.Proofs.YtlfijfodklhplaaGreat
open Go.RowKit
set_option linter.unusedVariables false

set_option maxRecDepth 100000 in
set_option maxHeartbeats 4000000 in
theorem refenc_ack (s : Nat) (hs : s < 65536) (w : World) :
    Calls Tryz.prog 77 #[.agg (fc false (s : Int) 0 0 0 false)] w fun e w' =>
      ∃ g c, e = .returned (.tuple #[.slice (some ⟨g, 0, none⟩) 5 c, .int .i64 0]) ∧ w.heap.size ≤ g ∧ 5 ≤ c ∧ BRow w' g (Fr.enc ⟨false, s, Fr.none0⟩) c ∧ Keep nil w w' := by
  have h1 : (s : Int) < 65536 := by omega
  have h0 : 0 ≤ (s : Int) := by omega
  have e1 : IntKind.u8.wrap ((s : Int) / 256) = ((s / 256 : Nat) : Int) := by rw [IntKind.wrap_u8']; omega
  have e2 : IntKind.u8.wrap ((s : Int) % 256) = ((s % 256 : Nat) : Int) := by rw [IntKind.wrap_u8']; omega
  have e3 : (s : Int) / 256 = ((s / 256 : Nat) : Int) := by omega
  have e4 : (s : Int) % 256 = ((s % 256 : Nat) : Int) := by omega
  have hq1 : s / 256 < 256 := by omega
  have hq2 : s % 256 < 256 := by omega
  have hbt : ∀ x ∈ [2, s / 256, s % 256], x < 256 := by intro x hx; simp at hx; omega
  have HB : Hid (∀ x ∈ [2, s / 256, s % 256], x < 256) := hbt
  have hq := Fr.crc_lt [2, s / 256, s % 256] hbt
  have HE : Hid (Fr.enc ⟨false, s, Fr.none0⟩ = [2, s / 256, s % 256] ++ [Fr.crc [2, s / 256, s % 256] / 256, Fr.crc [2, s / 256, s % 256] % 256]) := by
    show Fr.enc ⟨false, s, Fr.none0⟩ = _
    simp [Fr.enc, Fr.sealed, Fr.body]
  have H3 : Hid ((s : Int) / 256 = ((s / 256 : Nat) : Int)) := e3
  have H4 : Hid ((s : Int) % 256 = ((s % 256 : Nat) : Int)) := e4
  have HQQ : Unit → Fr.crc [2, s / 256, s % 256] < 65536 := fun _ => hq
  clear hs hbt e1 e2 e3 e4 hq
  generalize s / 256 = a1 at *
  generalize s % 256 = a2 at *
  generalize (s : Int) = S at *
  go_enter Tryz.func77, Tryz.ntmps77
  go_wp2_with fail
  refine (refmay_any 0 0 0 false _).mono ?_
  rintro e w1 ⟨rfl, hk1⟩
  have hz : w.heap.size < w1.heap.size := by have := hk1.size; simp at this; omega
  have c0 := fun i => hk1.cell w.heap.size i (by simp) (fun e => e)
  simp only [World.cell?_alloc_new] at c0
  have hm : may 0 0 0 false = false := rfl
  go_wp2_with fail
  rw [H3.out, H4.out]
  have b1 : BRow (w1.alloc (.cells #[.int .u8 2, .int .u8 (a1 : Int), .int .u8 (a2 : Int)] 5)) w1.heap.size [2, a1, a2] 3 := ⟨[], Blk.new w1 _ _, rfl⟩
  have hq := HQQ ()
  have hn := refcheck_any w1.heap.size 0 3 [2, a1, a2] _ (brow_row b1) (by simp) HB.out
  clear HQQ
  generalize Fr.crc [2, a1, a2] = q at *
  refine Calls.mono hn ?_
  rintro e w2 ⟨rfl, rfl⟩
  have hq3 : (q : Int) < 65536 := by omega
  have hq0 : 0 ≤ (q : Int) := by omega
  have HQ1 : Hid ((q : Int) / 256 = ((q / 256 : Nat) : Int)) := by show (q : Int) / 256 = _; omega
  have HQ2 : Hid ((q : Int) % 256 = ((q % 256 : Nat) : Int)) := by show (q : Int) % 256 = _; omega
  clear hn hq c0 hm
  have hcl : ∀ (W : World) (n : Nat), n = W.heap.size → ∀ j u, ([q / 256, q % 256].map bv)[j]? = some u → (W.alloc (.cells #[.int .u8 ((q : Int) / 256), .int .u8 ((q : Int) % 256)] 5)).cell? ((⟨n, 0, none⟩ : Addr).add j) = some u := fun W n hn => by
    rw [HQ1.out, HQ2.out]; exact cells_list W ([q / 256, q % 256].map bv) 5 n hn
  have HCL : Hid _ := hcl
  clear hcl
  generalize (q : Int) = Q at *
  go_wp2_with (at_builtin; refine wpList_append_any _ rfl (.tmp 97) (.tmp 104) 56 rfl 5 (.int .u8 0) 1 1 Tryz.underlying56 u8_info rfl w1.heap.size 3 3 rfl ([2, a1, a2].map bv) rfl (b1.alloc _) ⟨w1.heap.size + 1, 0, none⟩ 2 2 rfl ([q / 256, q % 256].map bv) rfl (HCL.out _ _ (World.size_alloc _ _).symm) (bv_one _) (by omega) (by omega) ?_; intro g' c' w3 hb3 hc3 hd3 hk3)
  go_ret2
  refine ⟨g', c', rfl, ?_, hc3, ?_, ?_⟩
  · rcases hd3 with ⟨rfl, _⟩ | ⟨rfl, _⟩
    · omega
    · simp; omega
  · rw [HE.out]
    show VBuf _ _ _ _ (([2, a1, a2] ++ [q / 256, q % 256]).map bv) _
    rw [List.map_append]; exact hb3
  · exact ((((((Keep.refl nil w).alloc _).trans hk1).alloc _).alloc _).trans' hk3 (fun i hi e => by simp only [only] at e; omega))
end Go.Proofs.YtlfijfodklhplaaGreat
