/- Walk of Written, at an acknowledgement. -/
import Derived.Test.YtlfijfodklhplaaSeen
namespace Go.Proofs.Ytlfijfodklhplaa
open Go.RowKit
set_option linter.unusedVariables false

theorem i64_bounds {a : Int} (h : (Lit.int .i64 a).wf = true) : -9223372036854775808 ≤ a ∧ a ≤ 9223372036854775807 := by
  simp [Lit.wf, IntKind.min, IntKind.max, IntKind.bits, IntKind.signed] at h
  omega

/-- One byte of a buffer is written over. -/
theorem Buf.put {w : World} {g : Nat} {l : List Nat} {c : Nat} (h : Buf w g l c) (z y : Nat) (hz : z < l.length) : Buf (w.setCell ⟨g, z, none⟩ (.int .u8 (y : Int))) g (l.set z y) c := by
  obtain ⟨sp, hb, hc⟩ := h
  refine ⟨sp, ?_, by simpa using hc⟩
  have := hb.set z (.int .u8 (y : Int))
  have e : (l.map bv ++ sp).toArray.setIfInBounds z (.int .u8 (y : Int)) = ((l.set z y).map bv ++ sp).toArray := by
    simp [hz, List.map_set, bv]
  rw [e] at this
  exact this

theorem xor_other (x p : Nat) (hx : x < 256) (hp : p < 255) : ∃ y : Nat, bits .xor .u8 (x : Int) (IntKind.u8.wrap (IntKind.i64.wrap (1 + (p : Int)))) = (y : Int) ∧ y < 256 ∧ y ≠ x := by
  refine ⟨x ^^^ (1 + p), ?_, ?_, ?_⟩
  · have e : IntKind.u8.wrap (IntKind.i64.wrap ((1 : Int) + (p : Int))) = ((1 + p : Nat) : Int) := by rw [IntKind.wrap_u8', IntKind.wrap_i64]; omega
    rw [e]; exact u8_xor_nat x (1 + p) hx (by omega)
  · exact Nat.xor_lt_two_pow (n := 8) hx (by omega)
  · intro h
    have h2 := congrArg (· ^^^ x) h
    simp only [Nat.xor_self] at h2
    rw [Nat.xor_comm x, Nat.xor_assoc, Nat.xor_self, Nat.xor_zero] at h2
    omega

set_option maxRecDepth 100000 in
set_option maxHeartbeats 2000000 in
theorem written_ack (a1 a2 a3 a4 : Int) (a5 : Bool) (a6 a7 : Int) (w1 : (Lit.int .i64 a1).wf = true) (w6 : (Lit.int .i64 a6).wf = true) (w7 : (Lit.int .i64 a7).wf = true) (w : World) :
    Calls Try.prog 3 #[.bool false, .int .i64 a1, .int .i64 a2, .int .i64 a3, .int .i64 a4, .bool a5, .int .i64 a6, .int .i64 a7] w fun e w' => e = .returned (.bool true) ∧ Keep nil w w' := by
  obtain ⟨b1, b1'⟩ := i64_bounds w1
  obtain ⟨b6, b6'⟩ := i64_bounds w6
  obtain ⟨b7, b7'⟩ := i64_bounds w7
  clear w1 w6 w7
  go_enter Try.func3, Try.ntmps3
  go_wp2_with fail
  refine (pick_any a1 65536 b1 b1' (by omega) (by omega) _).mono ?_
  rintro e w' ⟨s, rfl, hs, rfl⟩
  go_wp2_with fail
  have hok : FrOk ⟨false, s, Fr.none0⟩ := ⟨by show s < 65536; omega, Or.inr ⟨rfl, rfl⟩⟩
  have he := arborEncode_any ⟨false, s, Fr.none0⟩ hok (w.alloc (.cells (fc false (s : Int) 0 0 0 false) 26))
  refine he.mono ?_
  rintro e w2 ⟨g, rfl, hg, hb, hk2⟩
  clear he
  rw [show flen ⟨false, s, Fr.none0⟩ = 5 from rfl]
  have bF := (Blk.new w (fc false (s : Int) 0 0 0 false) 26).keep hk2 (fun e => e)
  have hz2 := bF.lt
  have hgw : w.heap.size < g := by simp at hg; omega
  have hlt := hb.lt
  go_wp2_with fail
  have hd : Calls Try.prog 7 #[.slice (some ⟨g, 0, none⟩) (Fr.enc ⟨false, s, Fr.none0⟩).length 10] w2 fun e w' => e = .returned (.tuple #[.agg (fc false (s : Int) 0 0 0 false), .int .i64 0]) ∧ Keep nil w2 w' := arborDecode_yes g 0 10 (Fr.enc ⟨false, s, Fr.none0⟩) w2 hb.row hb.lt hb.len (by rw [enc_len]; show 5 < 140737488355328; omega) (enc_byte _ hok) (six ⟨false, s, Fr.none0⟩) (enc_read _ hok)
  rw [enc_len, show flen ⟨false, s, Fr.none0⟩ = 5 from rfl] at hd
  refine hd.mono ?_
  clear hd
  rintro e w3 ⟨rfl, hk3⟩
  have bF3 := bF.keep hk3 (fun e => e)
  have hz3 := hk3.size
  have hb3 := hb.keep hk3 (fun e => e)
  have q0 := bF3.cell 0
  have q1 := bF3.cell 1
  have q2 := bF3.cell 2
  have q3 := bF3.cell 3
  have q4 := bF3.cell 4
  have q5 := bF3.cell 5
  simp at q0 q1 q2 q3 q4 q5
  have hz4 : w.heap.size < w3.heap.size := by omega
  have HB : Hid (Buf w3 g (Fr.enc ⟨false, s, Fr.none0⟩) 10) := hb3
  have HK : Hid (Keep nil w w3) := (((Keep.refl nil w).alloc _).trans hk2).trans hk3
  have HG : Hid (w.heap.size < g ∧ g < w3.heap.size) := ⟨hgw, by omega⟩
  have HO : Hid (FrOk ⟨false, s, Fr.none0⟩) := hok
  clear hb3 hb bF bF3 hk2 hk3 hg hs hz3 hz2 hgw hlt hok
  go_wp2_with fail
  refine (pick_any a6 5 b6 b6' (by omega) (by omega) _).mono ?_
  rintro e w4 ⟨z, rfl, hz, rfl⟩
  obtain ⟨x, hx⟩ : ∃ x, (Fr.enc ⟨false, s, Fr.none0⟩)[z]? = some x := ⟨_, List.getElem?_eq_getElem (by rw [enc_len]; show z < 5; omega)⟩
  have hcell : w3.cell? ⟨g, z, none⟩ = some (.int .u8 (x : Int)) := by
    obtain ⟨h, e⟩ := List.getElem?_eq_some_iff.1 hx
    have := HB.out.row z h
    rw [Nat.zero_add, e] at this
    exact this
  have hfro : w3.frozen? ⟨g, z, none⟩ = false := by
    obtain ⟨sp, hb, _⟩ := HB.out
    exact hb.frozen z
  have hx8 : x < 256 := enc_byte _ HO.out x (List.mem_of_getElem? hx)
  have HX : Hid ((Fr.enc ⟨false, s, Fr.none0⟩)[z]? = some x) := hx
  have hg2 : g < w3.heap.size := HG.out.2
  have hg1 : ¬ g = w.heap.size := by have := HG.out.1; omega
  clear hx
  go_wp2_with fail
  go_region_with (go_at_call 5; refine (pick_any a7 255 b7 b7' (by omega) (by omega) _).mono ?_; rintro e w5 ⟨p, rfl, hp, rfl⟩)
  all_goals
    obtain ⟨y, hy, hy8, hyx⟩ := xor_other x p hx8 (by omega)
    rw [hy]
    clear hy
    have bu := (HB.out.put z y (by rw [enc_len]; show z < 5; omega)).alloc (.cells (fc false (s : Int) 0 0 0 false) 26)
    have hseen := enc_seen _ HO.out z y (by show z < 5; omega) hy8 (by rw [HX.out]; intro e; cases e; exact hyx rfl)
    have hby : ∀ t ∈ (Fr.enc ⟨false, s, Fr.none0⟩).set z y, t < 256 := fun t ht => by
      rcases List.mem_or_eq_of_mem_set ht with h | h
      · exact enc_byte _ HO.out t h
      · omega
    have hd := arborDecode_no g 0 10 ((Fr.enc ⟨false, s, Fr.none0⟩).set z y) _ bu.drew.row bu.lt bu.len (by rw [List.length_set, enc_len]; show 5 < 140737488355328; omega) hby hseen
    rw [List.length_set, enc_len, show flen ⟨false, s, Fr.none0⟩ = 5 from rfl] at hd
    have HD : Hid _ := hd
    clear hd hseen hby bu hcell hfro hx8 hp hyx hy8 q0 q1 q2 q3 q4 q5
    go_wp2_with fail
    refine Calls.mono HD.out ?_
    clear HD
    rintro e w6 ⟨rfl, hk6⟩
    have hz6 := hk6.size
    go_wp2
    go_ret
    exact ⟨rfl, (((((HK.out.setCell (p := ⟨g, z, none⟩) (fun h => by simp only at h; have := HG.out.1; omega) _).alloc _).drew).trans hk6).alloc _)⟩
end Go.Proofs.Ytlfijfodklhplaa
