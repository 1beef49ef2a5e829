import Derived.Test.YtlfijfodklhplaaGreatLk07
/- What is written is read; a byte that is another one is seen. -/
namespace Go.Proofs.YtlfijfodklhplaaGreat
set_option linter.unusedVariables false

def six (f : Fr.Frm) : Six := ⟨f.data, (f.seq : Int), (f.m.kind : Int), (f.m.level : Int), (f.m.name : Int), f.m.finding⟩

theorem enc_len (f : Fr.Frm) : (Fr.enc f).length = flen f := by
  obtain ⟨d, s, m⟩ := f
  cases d <;> simp [Fr.enc, Fr.sealed, Fr.body, flen]
theorem body_len (f : Fr.Frm) : (Fr.body f).length = flen f - 2 := by
  obtain ⟨d, s, m⟩ := f
  cases d <;> simp [Fr.body, flen]
theorem flen_two (f : Fr.Frm) : flen f = 5 ∨ flen f = 10 := by
  unfold flen; cases f.data <;> simp
theorem toNat_lt (f : Bool) : f.toNat < 256 := by cases f <;> simp
theorem body_byte (f : Fr.Frm) (hf : FrOk f) : ∀ x ∈ Fr.body f, x < 256 := by
  obtain ⟨d, s, m⟩ := f
  obtain ⟨h0, ⟨h1, h2, h3, h4, h5⟩ | ⟨h1, h2⟩⟩ := hf
  · simp only at h0 h1 h2 h3 h4
    subst h1
    intro x hx
    simp only [Fr.body, if_true, List.mem_cons, List.not_mem_nil, or_false] at hx
    have := toNat_lt m.finding
    omega
  · simp only at h0 h1
    subst h1
    intro x hx
    simp [Fr.body] at hx
    omega
theorem enc_byte (f : Fr.Frm) (hf : FrOk f) : ∀ x ∈ Fr.enc f, x < 256 := by
  have hb := body_byte f hf
  have hc := Fr.crc_lt (Fr.body f) hb
  intro x hx
  simp only [Fr.enc, Fr.sealed, List.mem_append, List.mem_cons, List.not_mem_nil, or_false] at hx
  rcases hx with hx | hx | hx
  · exact hb x hx
  · omega
  · omega

theorem enc_read (f : Fr.Frm) (hf : FrOk f) : ReadOk (Fr.enc f) (six f) := by
  have hb := body_byte f hf
  have hc := Fr.crc_lt (Fr.body f) hb
  obtain ⟨d, s, m⟩ := f
  obtain ⟨h0, ⟨h1, h2, h3, h4, h5⟩ | ⟨h1, h2⟩⟩ := hf
  · simp only at h0 h1 h2 h3 h4 h5
    subst h1
    have e : Fr.enc ⟨true, s, m⟩ = [1, s / 256, s % 256, m.kind, m.level, m.finding.toNat, m.name / 256, m.name % 256] ++ [Fr.crc (Fr.body ⟨true, s, m⟩) / 256, Fr.crc (Fr.body ⟨true, s, m⟩) % 256] := by simp [Fr.enc, Fr.sealed, Fr.body]
    have e' : Fr.body ⟨true, s, m⟩ = [1, s / 256, s % 256, m.kind, m.level, m.finding.toNat, m.name / 256, m.name % 256] := by simp [Fr.body]
    rw [e]
    generalize hq : Fr.crc (Fr.body ⟨true, s, m⟩) = q at *
    rw [e'] at hq
    refine ⟨8, q / 256, q % 256, ⟨s / 256, s % 256, rfl, rfl, Or.inr ⟨rfl, rfl, m.kind, m.level, m.finding.toNat, m.name / 256, m.name % 256, rfl, rfl, rfl, rfl, rfl, ?_, ?_, ?_⟩⟩, rfl, rfl, ?_, rfl⟩
    · cases m.finding <;> simp
    · have e1 : ((m.name / 256 : Nat) : Int) * 256 + ((m.name % 256 : Nat) : Int) = (m.name : Int) := by omega
      have e2 : (m.finding.toNat == 1) = m.finding := by cases m.finding <;> rfl
      rw [e1, e2]; exact h5
    · have e1 : ((m.name / 256 : Nat) : Int) * 256 + ((m.name % 256 : Nat) : Int) = (m.name : Int) := by omega
      have e2 : (m.finding.toNat == 1) = m.finding := by cases m.finding <;> rfl
      have e3 : ((s / 256 : Nat) : Int) * 256 + ((s % 256 : Nat) : Int) = (s : Int) := by omega
      rw [e1, e2, e3]; rfl
    · show q / 256 * 256 + q % 256 = Fr.crc [1, s / 256, s % 256, m.kind, m.level, m.finding.toNat, m.name / 256, m.name % 256]
      rw [hq]; omega
  · simp only at h0 h1 h2
    subst h1 h2
    have e : Fr.enc ⟨false, s, Fr.none0⟩ = [2, s / 256, s % 256] ++ [Fr.crc (Fr.body ⟨false, s, Fr.none0⟩) / 256, Fr.crc (Fr.body ⟨false, s, Fr.none0⟩) % 256] := by simp [Fr.enc, Fr.sealed, Fr.body]
    have e' : Fr.body ⟨false, s, Fr.none0⟩ = [2, s / 256, s % 256] := by simp [Fr.body]
    rw [e]
    generalize hq : Fr.crc (Fr.body ⟨false, s, Fr.none0⟩) = q at *
    rw [e'] at hq
    refine ⟨3, q / 256, q % 256, ⟨s / 256, s % 256, rfl, rfl, Or.inl ⟨rfl, rfl, ?_⟩⟩, rfl, rfl, ?_, rfl⟩
    · have e3 : ((s / 256 : Nat) : Int) * 256 + ((s % 256 : Nat) : Int) = (s : Int) := by omega
      rw [e3]; rfl
    · show q / 256 * 256 + q % 256 = Fr.crc [2, s / 256, s % 256]
      rw [hq]; omega

theorem sealed_set (b : List Nat) (hb : ∀ x ∈ b, x < 256) (k : Nat) (hk : k < b.length + 2) (y : Nat) (hy : y < 256) (c1 c2 : Nat)
    (h1 : ((Fr.sealed b).set k y)[b.length]? = some c1) (h2 : ((Fr.sealed b).set k y)[b.length + 1]? = some c2) (hc : c1 * 256 + c2 = Fr.crc (((Fr.sealed b).set k y).take b.length)) : (Fr.sealed b)[k]? = some y := by
  have hq := Fr.crc_lt b hb
  by_cases hkb : k < b.length
  · have e1 : (Fr.sealed b).set k y = b.set k y ++ [Fr.crc b / 256, Fr.crc b % 256] := List.set_append_left _ _ hkb
    have e0 : (Fr.sealed b)[k]? = b[k]? := List.getElem?_append_left hkb
    rw [e1, List.getElem?_append_right (by simp)] at h1 h2
    rw [e1, List.take_left' (by simp)] at hc
    simp at h1 h2
    subst h1 h2
    have := Fr.crc_set b k hkb y hy hb (by omega)
    rw [e0, List.getElem?_eq_getElem hkb, this]
  · have e1 : (Fr.sealed b).set k y = b ++ ([Fr.crc b / 256, Fr.crc b % 256].set (k - b.length) y) := List.set_append_right _ _ (by omega)
    have e0 : (Fr.sealed b)[k]? = [Fr.crc b / 256, Fr.crc b % 256][k - b.length]? := List.getElem?_append_right (by omega)
    rw [e1, List.getElem?_append_right (by simp)] at h1 h2
    rw [e1, List.take_left' rfl] at hc
    rw [e0]
    generalize Fr.crc b = q at *
    have hkk : k - b.length = 0 ∨ k - b.length = 1 := by omega
    rcases hkk with e | e
    · rw [e] at h1 h2 ⊢
      simp at h1 h2 ⊢
      omega
    · rw [e] at h1 h2 ⊢
      simp at h1 h2 ⊢
      omega

/-- Bytes of a frame, one of them another one, are no frame's. -/
theorem enc_seen (f : Fr.Frm) (hf : FrOk f) (k y : Nat) (hk : k < flen f) (hy : y < 256) (hne : (Fr.enc f)[k]? ≠ some y) : ∀ x, ¬ ReadOk ((Fr.enc f).set k y) x := by
  rintro x ⟨kk, c1, c2, hB, h1, h2, hc, hl⟩
  have hlen : ((Fr.enc f).set k y).length = flen f := by rw [List.length_set, enc_len]
  have hbl := body_len f
  have ht := flen_two f
  have hkk : kk = (Fr.body f).length := by omega
  subst hkk
  exact hne (sealed_set (Fr.body f) (body_byte f hf) k (by omega) y hy c1 c2 h1 h2 hc)
end Go.Proofs.YtlfijfodklhplaaGreat
/- What Encode refuses; Decode of nil. -/
namespace Go.Proofs.YtlfijfodklhplaaGreat
open Go.RowKit
set_option linter.unusedVariables false

set_option maxRecDepth 100000 in
set_option maxHeartbeats 1000000 in
theorem encode_nine (d : Bool) (s k l n : Int) (f : Bool) (h : s < 0 ∨ 65535 < s) (w : World) :
    Calls Tryz.prog 124 #[.agg (fc d s k l n f)] w fun e w' => e = .returned (.tuple #[.slice none 0 0, .int .i64 9]) ∧ Keep nil w w' := by
  rcases h with h | h
  · go_enter Tryz.func124, Tryz.ntmps124
    go_wp2
    go_ret2
    exact ⟨rfl, (Keep.refl _ _).alloc _⟩
  · have h' : ¬ s < 0 := by omega
    go_enter Tryz.func124, Tryz.ntmps124
    go_wp2
    go_ret2
    exact ⟨rfl, (Keep.refl _ _).alloc _⟩

set_option maxRecDepth 100000 in
set_option maxHeartbeats 1000000 in
theorem encode_ten_data (s k l n : Int) (f : Bool) (h0 : 0 ≤ s) (h1 : s ≤ 65535) (hm : may k l n f = false) (w : World) :
    Calls Tryz.prog 124 #[.agg (fc true s k l n f)] w fun e w' => e = .returned (.tuple #[.slice none 0 0, .int .i64 10]) ∧ Keep nil w w' := by
  go_enter Tryz.func124, Tryz.ntmps124
  go_wp2_with fail
  refine (fits_data s k l n f _).mono ?_
  rintro e w1 ⟨rfl, hk1⟩
  go_wp2
  go_ret2
  exact ⟨rfl, ((Keep.refl _ _).alloc _).trans hk1⟩

set_option maxRecDepth 100000 in
set_option maxHeartbeats 1000000 in
theorem encode_ten_ack (s k l n : Int) (f : Bool) (h0 : 0 ≤ s) (h1 : s ≤ 65535) (hm : noMsg k l n f = false) (w : World) :
    Calls Tryz.prog 124 #[.agg (fc false s k l n f)] w fun e w' => e = .returned (.tuple #[.slice none 0 0, .int .i64 10]) ∧ Keep nil w w' := by
  go_enter Tryz.func124, Tryz.ntmps124
  go_wp2_with fail
  refine (fits_ack s k l n f _).mono ?_
  rintro e w1 ⟨rfl, hk1⟩
  go_wp2
  go_ret2
  exact ⟨rfl, ((Keep.refl _ _).alloc _).trans hk1⟩

/-- What Encode answers beside bytes. -/
def encErr (d : Bool) (s k l n : Int) (f : Bool) : Int := if s < 0 ∨ 65535 < s then 9 else if (d = true ∧ may k l n f = true) ∨ (d = false ∧ noMsg k l n f = true) then 0 else 10
theorem encErr_nine {d : Bool} {s k l n : Int} {f : Bool} (h : s < 0 ∨ 65535 < s) : encErr d s k l n f = 9 := by unfold encErr; rw [if_pos h]
theorem encErr_ten {d : Bool} {s k l n : Int} {f : Bool} (h : ¬ (s < 0 ∨ 65535 < s)) (h' : ¬ ((d = true ∧ may k l n f = true) ∨ (d = false ∧ noMsg k l n f = true))) : encErr d s k l n f = 10 := by unfold encErr; rw [if_neg h, if_neg h']

theorem encode_err (d : Bool) (s k l n : Int) (f : Bool) (h : encErr d s k l n f ≠ 0) (w : World) :
    Calls Tryz.prog 124 #[.agg (fc d s k l n f)] w fun e w' => e = .returned (.tuple #[.slice none 0 0, .int .i64 (encErr d s k l n f)]) ∧ Keep nil w w' := by
  by_cases h1 : s < 0 ∨ 65535 < s
  · rw [encErr_nine h1]; exact encode_nine d s k l n f h1 w
  · by_cases h2 : (d = true ∧ may k l n f = true) ∨ (d = false ∧ noMsg k l n f = true)
    · exact absurd (by unfold encErr; rw [if_neg h1, if_pos h2]) h
    · rw [encErr_ten h1 h2]
      have a0 : 0 ≤ s := by omega
      have a1 : s ≤ 65535 := by omega
      cases d
      · exact encode_ten_ack s k l n f a0 a1 (by cases hh : noMsg k l n f; rfl; exact absurd (Or.inr ⟨rfl, hh⟩) h2) w
      · exact encode_ten_data s k l n f a0 a1 (by cases hh : may k l n f; rfl; exact absurd (Or.inl ⟨rfl, hh⟩) h2) w

set_option maxHeartbeats 1000000 in
theorem arborEncode_err (d : Bool) (s k l n : Int) (f : Bool) (h : encErr d s k l n f ≠ 0) (w : World) :
    Calls Tryz.prog 76 #[.agg (fc d s k l n f)] w fun e w' => e = .returned (.tuple #[.slice none 0 0, .int .i64 (encErr d s k l n f)]) ∧ Keep nil w w' := by
  go_enter Tryz.func76, Tryz.ntmps76
  go_wp2_with fail
  refine (encode_err d s k l n f h _).mono ?_
  rintro e w1 ⟨rfl, hk⟩
  go_wp2
  go_ret2
  exact ⟨rfl, ((Keep.refl _ _).alloc _).trans hk⟩

/-- Where Encode refuses nothing, the frame is one that may be. -/
theorem frame_of {d : Bool} {s k l n : Int} {f : Bool} (h : encErr d s k l n f = 0) : ∃ fr : Fr.Frm, FrOk fr ∧ fv fr = fc d s k l n f := by
  unfold encErr at h
  by_cases h1 : s < 0 ∨ 65535 < s
  · rw [if_pos h1] at h; omega
  · rw [if_neg h1] at h
    by_cases h2 : (d = true ∧ may k l n f = true) ∨ (d = false ∧ noMsg k l n f = true)
    · obtain ⟨S, rfl⟩ := Int.eq_ofNat_of_zero_le (show 0 ≤ s by omega)
      rcases h2 with ⟨rfl, hm⟩ | ⟨rfl, hm⟩
      · have hm' := hm
        simp only [may, decide_eq_true_eq] at hm'
        obtain ⟨⟨a1, a2⟩, a3, a4, a5, a6, a7⟩ := hm'
        have bl : bL k ≤ 9 := by unfold bL; split <;> omega
        have b0 : 0 ≤ bm k := by unfold bm; split <;> omega
        have b1 : bM k ≤ 1000 := by unfold bM; split <;> omega
        obtain ⟨K, rfl⟩ := Int.eq_ofNat_of_zero_le (show 0 ≤ k by omega)
        obtain ⟨L, rfl⟩ := Int.eq_ofNat_of_zero_le (show 0 ≤ l by omega)
        obtain ⟨N, rfl⟩ := Int.eq_ofNat_of_zero_le (show 0 ≤ n by omega)
        exact ⟨⟨true, S, ⟨K, L, N, f⟩⟩, ⟨by show S < 65536; omega, Or.inl ⟨rfl, by show K < 256; omega, by show L < 256; omega, by show N < 65536; omega, hm⟩⟩, rfl⟩
      · simp only [noMsg, Bool.and_eq_true, beq_iff_eq] at hm
        obtain ⟨rfl, rfl, rfl, rfl⟩ := hm
        exact ⟨⟨false, S, Fr.none0⟩, ⟨by show S < 65536; omega, Or.inr ⟨rfl, rfl⟩⟩, rfl⟩
    · rw [if_neg h2] at h; omega
end Go.Proofs.YtlfijfodklhplaaGreat
/- Decode of nil. -/
namespace Go.Proofs.YtlfijfodklhplaaGreat
open Go.RowKit
set_option linter.unusedVariables false

set_option maxHeartbeats 400000 in
theorem one_nil (rb : Nat) (w : World) (hr : Blk w rb #[.slice none 0 0, .int .i64 0] 330) :
    Calls Tryz.prog 225 #[.pointer (some ⟨rb, 0, none⟩)] w fun e w' => e = .panicked noFrame ∧ Keep nil w w' := by
  have c0 := hr.cell 0
  have c1 := hr.cell 1
  simp at c0 c1
  go_enter Tryz.func225, Tryz.ntmps225
  go_wp2
  go_region_dies
  all_goals
    refine (must_no _).mono ?_
    rintro e w' ⟨rfl, rfl⟩
    exact ⟨rfl, rfl, (Keep.refl _ _).drew⟩

set_option maxHeartbeats 400000 in
theorem body_nil (rb : Nat) (w : World) (hr : Blk w rb #[.slice none 0 0, .int .i64 0] 330) :
    Calls Tryz.prog 209 #[.pointer (some ⟨rb, 0, none⟩)] w fun e w' => e = .panicked noFrame ∧ Keep nil w w' := by
  have hr1 := hr.old (.cells (fc false 0 0 0 0 false) 78)
  go_enter Tryz.func209, Tryz.ntmps209
  go_wp2_with fail
  refine (one_nil rb _ hr1).mono ?_
  rintro e w1 ⟨rfl, hk1⟩
  exact ⟨rfl, rfl, ((Keep.refl _ _).alloc _).trans hk1⟩

set_option maxHeartbeats 400000 in
theorem read_nil (w : World) :
    Calls Tryz.prog 181 #[.slice none 0 0] w fun e w' => e = .panicked noFrame ∧ Keep nil w w' := by
  have hr1 := Blk.new' (w.alloc (.cells (fc false 0 0 0 0 false) 78)) #[.slice none 0 0, .int .i64 0] 330 (w.heap.size + 1) (by simp)
  go_enter Tryz.func181, Tryz.ntmps181
  go_wp2_with fail
  refine (body_nil (w.heap.size + 1) _ hr1).mono ?_
  rintro e w1 ⟨rfl, hk1⟩
  exact ⟨rfl, rfl, (((Keep.refl _ _).alloc _).alloc _).trans hk1⟩

set_option maxHeartbeats 1000000 in
theorem decode_nil (w : World) :
    Calls Tryz.prog 128 #[.slice none 0 0] w fun e w' => e = .returned (.tuple #[.agg (fc false 0 0 0 0 false), .int .i64 9]) ∧ Keep nil w w' := by
  have hmf : ∀ (fn : Fn) (first cap : Array Value) (w : World), (Instr.makeFunc fn first cap).run Tryz.prog w = .ok (.func fn first cap) w := fun _ _ _ _ => rfl
  go_enter_defers Tryz.func128, Tryz.ntmps128
  go_wp2_with fail
  refine (read_nil _).mono ?_
  rintro e w1 ⟨rfl, hk1⟩
  have b1 := ((Blk.new w (fc false 0 0 0 0 false) 78).old (.cells #[.int .i64 0] 32)).keep hk1 (fun e => e)
  have b2 := (Blk.new' (w.alloc (.cells (fc false 0 0 0 0 false) 78)) #[.int .i64 0] 32 (w.heap.size + 1) (by simp)).keep hk1 (fun e => e)
  refine leaves_cons (f := 180) (args := #[.pointer (some ⟨w.heap.size, 0, none⟩), .pointer (some ⟨w.heap.size + 1, 0, none⟩)]) (by simp) (by simp [go_sem]) ?_
  refine (catch_panicking w.heap.size (w.heap.size + 1) Six.zero 0 _ b1 b2 (by omega) (by omega)).mono ?_
  rintro e u' w2 ⟨rfl, rfl, d1, d2, hk2⟩
  have z0 := d1.cell 0
  have z1 := d1.cell 1
  have z2 := d1.cell 2
  have z3 := d1.cell 3
  have z4 := d1.cell 4
  have z5 := d1.cell 5
  have z6 := d2.cell 0
  simp at z0 z1 z2 z3 z4 z5 z6
  refine ⟨.tuple #[.agg (fc false 0 0 0 0 false), .int .i64 9], ?_, rfl, ?_⟩
  · simp [results, Tryz.results128, go_sem, z0, z1, z2, z3, z4, z5, z6]
  · exact ((((Keep.refl nil w).alloc _).alloc _).trans hk1).trans' hk2 (fun i hi e => by rcases e with e | e <;> omega)

set_option maxHeartbeats 1000000 in
theorem arborDecode_nil (w : World) :
    Calls Tryz.prog 80 #[.slice none 0 0] w fun e w' => e = .returned (.tuple #[.agg (fc false 0 0 0 0 false), .int .i64 9]) ∧ Keep nil w w' := by
  go_enter Tryz.func80, Tryz.ntmps80
  go_wp2_with fail
  refine (decode_nil _).mono ?_
  rintro e w1 ⟨rfl, hk1⟩
  have b1 := (Blk.new w (fc false 0 0 0 0 false) 78).keep hk1 (fun e => e)
  have q0 := b1.cell 0
  have q1 := b1.cell 1
  have q2 := b1.cell 2
  have q3 := b1.cell 3
  have q4 := b1.cell 4
  have q5 := b1.cell 5
  have q6 := fun i => b1.frozen i
  simp at q0 q1 q2 q3 q4 q5
  go_wp2
  have d1 := b1.put6 false 0 0 0 0 false
  have kk : Keep nil w (put6 w1 w.heap.size false 0 0 0 0 false) := (((Keep.refl nil w).alloc _).trans hk1).put6 w.heap.size (fun h => by omega) false 0 0 0 0 false
  have z0 := d1.cell 0
  have z1 := d1.cell 1
  have z2 := d1.cell 2
  have z3 := d1.cell 3
  have z4 := d1.cell 4
  have z5 := d1.cell 5
  simp only [List.getElem?_toArray] at z0 z1 z2 z3 z4 z5
  exact bodyPost_ret (v := .tuple #[.agg (fc false 0 0 0 0 false), .int .i64 9]) (by simp [results, Tryz.results80, go_sem, z0, z1, z2, z3, z4, z5]) rfl ⟨rfl, kk⟩
end Go.Proofs.YtlfijfodklhplaaGreat
