/- Walks of Written, at messages of kind 3. The texts are alike, made by program out of the acknowledgement's. -/
import Derived.Test.YtlfijfodklhplaaWAck
namespace Go.Proofs.Ytlfijfodklhplaa
open Go.RowKit
set_option linter.unusedVariables false

set_option maxRecDepth 100000 in
set_option maxHeartbeats 4000000 in
theorem written_3 (a1 a2 a3 a4 : Int) (a5 : Bool) (a6 a7 : Int) (w1 : (Lit.int .i64 a1).wf = true) (w3 : (Lit.int .i64 a3).wf = true) (w4 : (Lit.int .i64 a4).wf = true) (w6 : (Lit.int .i64 a6).wf = true) (w7 : (Lit.int .i64 a7).wf = true) (w : World)
    (hp2 : ∀ w, Calls Try.prog 5 #[.int .i64 a2, .int .i64 7] w fun e w' => e = .returned (.int .i64 2) ∧ w = w') :
    Calls Try.prog 3 #[.bool true, .int .i64 a1, .int .i64 a2, .int .i64 a3, .int .i64 a4, .bool a5, .int .i64 a6, .int .i64 a7] w fun e w' => e = .returned (.bool true) ∧ Keep nil w w' := by
  obtain ⟨b1, b1'⟩ := i64_bounds w1
  obtain ⟨b3, b3'⟩ := i64_bounds w3
  obtain ⟨b4, b4'⟩ := i64_bounds w4
  obtain ⟨b6, b6'⟩ := i64_bounds w6
  obtain ⟨b7, b7'⟩ := i64_bounds w7
  have HP : Hid _ := hp2
  clear w1 w3 w4 w6 w7 hp2
  go_enter Try.func3, Try.ntmps3
  go_wp2_with fail
  refine (pick_any a1 65536 b1 b1' (by omega) (by omega) _).mono ?_
  rintro e w' ⟨s, rfl, hs, rfl⟩
  go_wp2_with fail
  refine Calls.mono (HP.out _) ?_
  rintro e w' ⟨rfl, rfl⟩
  go_wp2_with fail
  refine (pick_any a3 10 b3 b3' (by omega) (by omega) _).mono ?_
  rintro e w' ⟨lv, rfl, hlv, rfl⟩
  go_wp2_with fail
  refine (pick_any a4 1001 b4 b4' (by omega) (by omega) _).mono ?_
  rintro e w' ⟨n, rfl, hn, rfl⟩
  go_wp2_with fail
  have hok : FrOk ⟨true, s, ⟨3, lv, n, false⟩⟩ := ⟨by show s < 65536; omega, Or.inl ⟨rfl, by show (3 : Nat) < 256; omega, by show (lv : Nat) < 256; omega, by show (n : Nat) < 65536; omega, by simp [may, bL, bm, bM]; omega⟩⟩
  have he := arborEncode_any ⟨true, s, ⟨3, lv, n, false⟩⟩ hok (w.alloc (.cells (fc true (s : Int) 3 (lv : Int) (n : Int) false) 26))
  refine he.mono ?_
  rintro e w2 ⟨g, rfl, hg, hb, hk2⟩
  clear he
  rw [show flen ⟨true, s, ⟨3, lv, n, false⟩⟩ = 10 from rfl]
  have bF := (Blk.new w (fc true (s : Int) 3 (lv : Int) (n : Int) false) 26).keep hk2 (fun e => e)
  have hz2 := bF.lt
  have hgw : w.heap.size < g := by simp at hg; omega
  have hlt := hb.lt
  go_wp2_with fail
  have hd : Calls Try.prog 7 #[.slice (some ⟨g, 0, none⟩) (Fr.enc ⟨true, s, ⟨3, lv, n, false⟩⟩).length 10] w2 fun e w' => e = .returned (.tuple #[.agg (fc true (s : Int) 3 (lv : Int) (n : Int) false), .int .i64 0]) ∧ Keep nil w2 w' := arborDecode_yes g 0 10 (Fr.enc ⟨true, s, ⟨3, lv, n, false⟩⟩) w2 hb.row hb.lt hb.len (by rw [enc_len]; show 10 < 140737488355328; omega) (enc_byte _ hok) (six ⟨true, s, ⟨3, lv, n, false⟩⟩) (enc_read _ hok)
  rw [enc_len, show flen ⟨true, s, ⟨3, lv, n, false⟩⟩ = 10 from rfl] at hd
  refine hd.mono ?_
  clear hd
  rintro e w3 ⟨rfl, hk3⟩
  have bF3 := bF.keep hk3 (fun e => e)
  have hz3 := hk3.size
  have hb3 := hb.keep hk3 (fun e => e)
  have q0 := bF3.cell 0
  have q1 := bF3.cell 1
  have q2 := bF3.cell 2
  have q3 := bF3.cell 3
  have q4 := bF3.cell 4
  have q5 := bF3.cell 5
  simp at q0 q1 q2 q3 q4 q5
  have hz4 : w.heap.size < w3.heap.size := by omega
  have HB : Hid (Buf w3 g (Fr.enc ⟨true, s, ⟨3, lv, n, false⟩⟩) 10) := hb3
  have HK : Hid (Keep nil w w3) := (((Keep.refl nil w).alloc _).trans hk2).trans hk3
  have HG : Hid (w.heap.size < g ∧ g < w3.heap.size) := ⟨hgw, by omega⟩
  have HO : Hid (FrOk ⟨true, s, ⟨3, lv, n, false⟩⟩) := hok
  clear hb3 hb bF bF3 hk2 hk3 hg hs hz3 hz2 hgw hlt hok
  go_wp2_with fail
  refine (pick_any a6 10 b6 b6' (by omega) (by omega) _).mono ?_
  rintro e w4 ⟨z, rfl, hz, rfl⟩
  obtain ⟨x, hx⟩ : ∃ x, (Fr.enc ⟨true, s, ⟨3, lv, n, false⟩⟩)[z]? = some x := ⟨_, List.getElem?_eq_getElem (by rw [enc_len]; show z < 10; omega)⟩
  have hcell : w3.cell? ⟨g, z, none⟩ = some (.int .u8 (x : Int)) := by
    obtain ⟨h, e⟩ := List.getElem?_eq_some_iff.1 hx
    have := HB.out.row z h
    rw [Nat.zero_add, e] at this
    exact this
  have hfro : w3.frozen? ⟨g, z, none⟩ = false := by
    obtain ⟨sp, hb, _⟩ := HB.out
    exact hb.frozen z
  have hx8 : x < 256 := enc_byte _ HO.out x (List.mem_of_getElem? hx)
  have HX : Hid ((Fr.enc ⟨true, s, ⟨3, lv, n, false⟩⟩)[z]? = some x) := hx
  have hg2 : g < w3.heap.size := HG.out.2
  have hg1 : ¬ g = w.heap.size := by have := HG.out.1; omega
  clear hx
  go_wp2_with fail
  go_region_with (go_at_call 5; refine (pick_any a7 255 b7 b7' (by omega) (by omega) _).mono ?_; rintro e w5 ⟨p, rfl, hp, rfl⟩)
  all_goals
    obtain ⟨y, hy, hy8, hyx⟩ := xor_other x p hx8 (by omega)
    rw [hy]
    clear hy
    have bu := (HB.out.put z y (by rw [enc_len]; show z < 10; omega)).alloc (.cells (fc true (s : Int) 3 (lv : Int) (n : Int) false) 26)
    have hseen := enc_seen _ HO.out z y (by show z < 10; omega) hy8 (by rw [HX.out]; intro e; cases e; exact hyx rfl)
    have hby : ∀ t ∈ (Fr.enc ⟨true, s, ⟨3, lv, n, false⟩⟩).set z y, t < 256 := fun t ht => by
      rcases List.mem_or_eq_of_mem_set ht with h | h
      · exact enc_byte _ HO.out t h
      · omega
    have hd := arborDecode_no g 0 10 ((Fr.enc ⟨true, s, ⟨3, lv, n, false⟩⟩).set z y) _ bu.drew.row bu.lt bu.len (by rw [List.length_set, enc_len]; show 10 < 140737488355328; omega) hby hseen
    rw [List.length_set, enc_len, show flen ⟨true, s, ⟨3, lv, n, false⟩⟩ = 10 from rfl] at hd
    have HD : Hid _ := hd
    clear hd hseen hby bu hcell hfro hx8 hp hyx hy8 q0 q1 q2 q3 q4 q5
    go_wp2_with fail
    refine Calls.mono HD.out ?_
    clear HD
    rintro e w6 ⟨rfl, hk6⟩
    have hz6 := hk6.size
    go_wp2
    go_ret
    exact ⟨rfl, (((((HK.out.setCell (p := ⟨g, z, none⟩) (fun h => by simp only at h; have := HG.out.1; omega) _).alloc _).drew).trans hk6).alloc _)⟩
end Go.Proofs.Ytlfijfodklhplaa
