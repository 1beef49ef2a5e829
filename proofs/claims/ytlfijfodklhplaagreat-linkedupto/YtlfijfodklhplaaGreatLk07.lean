import Derived.Test.YtlfijfodklhplaaGreatLk03
import Derived.Test.YtlfijfodklhplaaGreatLk06
import Derived.Test.YtlfijfodklhplaaGreatLk04
import Derived.Test.YtlfijfodklhplaaGreatLk05
/- Walk of fits. -/
namespace Go.Proofs.YtlfijfodklhplaaGreat
open Go.RowKit
set_option linter.unusedVariables false

/-- Is a message none? -/
def noMsg (k l n : Int) (f : Bool) : Bool := k == 0 && (l == 0 && (n == 0 && f == false))

set_option maxHeartbeats 1000000 in
theorem fits_data (s k l n : Int) (f : Bool) (w : World) :
    Calls Tryz.prog 176 #[.agg (fc true s k l n f)] w fun e w' => e = .returned (.bool (may k l n f)) ∧ Keep nil w w' := by
  go_enter Tryz.func176, Tryz.ntmps176
  go_wp2_with fail
  refine (mayBe_any k l n f _).mono ?_
  rintro e w1 ⟨rfl, hk1⟩
  go_wp2
  go_ret
  exact ⟨rfl, ((Keep.refl _ _).alloc _).trans hk1⟩

set_option maxHeartbeats 1000000 in
theorem fits_ack (s k l n : Int) (f : Bool) (w : World) :
    Calls Tryz.prog 176 #[.agg (fc false s k l n f)] w fun e w' => e = .returned (.bool (noMsg k l n f)) ∧ Keep nil w w' := by
  go_enter Tryz.func176, Tryz.ntmps176
  go_wp2
  all_goals
    go_ret
    exact ⟨ret_bool (by simp_all [noMsg]), (Keep.refl _ _).alloc _⟩
end Go.Proofs.YtlfijfodklhplaaGreat
/- Walk of frame.Encode. -/
namespace Go.Proofs.YtlfijfodklhplaaGreat
open Go.RowKit
set_option linter.unusedVariables false

theorem make_ten (w : World) : (Instr.makeSlice 56 (.int .i64 0) (.int .i64 10)).run Tryz.prog w = .ok (.slice (some ⟨w.heap.size, 0, none⟩) 0 10) (w.alloc (.cells #[.int .u8 0, .int .u8 0, .int .u8 0, .int .u8 0, .int .u8 0, .int .u8 0, .int .u8 0, .int .u8 0, .int .u8 0, .int .u8 0] 5)) := by kernel_rfl

theorem seq_neg (s : Int) (h : s < 0) (d : Bool) (k l n : Int) (f : Bool) (w : World) :
    Calls Tryz.prog 124 #[.agg (fc d s k l n f)] w fun e w' => e = .returned (.tuple #[.slice none 0 0, .int .i64 9]) ∧ Keep nil w w' := by
  go_enter Tryz.func124, Tryz.ntmps124
  go_wp2
  go_ret2
  exact ⟨rfl, (Keep.refl _ _).alloc _⟩

theorem cells_one (w : World) (x : Int) (a : Nat) (hx : x = (a : Int)) (t : TypeId) (n : Nat) (hn : n = w.heap.size) :
    ∀ j u, ([a].map bv)[j]? = some u → (w.alloc (.cells #[.int .u8 x] t)).drew.cell? ((⟨n, 0, none⟩ : Addr).add j) = some u := by
  intro j u hu
  subst hx hn
  rw [Addr.add_lit, Nat.zero_add, World.cell?_drew, World.cell?_alloc_new]
  match j, hu with
  | 0, hu => simpa [bv] using hu
abbrev ten : Array Value := #[.int .u8 0, .int .u8 0, .int .u8 0, .int .u8 0, .int .u8 0, .int .u8 0, .int .u8 0, .int .u8 0, .int .u8 0, .int .u8 0]
theorem buf_ten (w : World) : Buf (w.alloc (.cells ten 5)) w.heap.size [] 10 :=
  ⟨[.int .u8 0, .int .u8 0, .int .u8 0, .int .u8 0, .int .u8 0, .int .u8 0, .int .u8 0, .int .u8 0, .int .u8 0, .int .u8 0], Blk.new w _ _, rfl⟩

set_option maxRecDepth 100000 in
set_option maxHeartbeats 1000000 in
theorem encode_ack (s : Nat) (hs : s < 65536) (w : World) :
    Calls Tryz.prog 124 #[.agg (fc false (s : Int) 0 0 0 false)] w fun e w' =>
      ∃ g, e = .returned (.tuple #[.slice (some ⟨g, 0, none⟩) 5 10, .int .i64 0]) ∧ w.heap.size ≤ g ∧ Buf w' g (Fr.enc ⟨false, s, Fr.none0⟩) 10 ∧ Keep nil w w' := by
  have hmk := make_ten
  have h1 : (s : Int) ≤ 65535 := by omega
  have hs' : s / 256 < 256 := by omega
  have HS : Hid (s < 65536) := hs
  clear hs
  go_enter Tryz.func124, Tryz.ntmps124
  go_wp2_with fail
  refine (fits_ack (s : Int) 0 0 0 false _).mono ?_
  rintro e w1 ⟨rfl, hk1⟩
  have hz : w.heap.size < w1.heap.size := by have := hk1.size; simp at this; omega
  have c0 := fun i => hk1.cell w.heap.size i (by simp) (fun e => e)
  simp only [World.cell?_alloc_new] at c0
  have e0 : noMsg 0 0 0 false = true := rfl
  have hbuf := buf_ten w1
  go_wp2_with fail
  go_region_law (first | (refine step_append_buf rfl (.tmp 29) (.tmp 30) rfl w1.heap.size 10 [] 0 rfl rfl (hbuf.alloc _).drew ⟨w1.heap.size + 1, 0, none⟩ 1 1 rfl [2] rfl (cells_one (w1.alloc (.cells ten 5)) 2 2 rfl 5 (w1.heap.size + 1) (World.size_alloc _ _).symm) (by omega) ?_; intro w2 hb2 hk2; have q2 := hk2.cell w.heap.size 1 (by simp only [World.size_alloc, World.size_drew]; omega) (by simp only [only]; omega)) | (go_simp; refine (appendTwo_at w1.heap.size 10 ([] ++ [2]) 1 rfl s _ hb2 (by omega) HS.out).mono ?_; rintro e w3 ⟨rfl, hb3, hk3⟩))
  all_goals
    have hbt : ∀ x ∈ [2, s / 256, s % 256], x < 256 := by intro x hx; simp at hx; omega
    have hq := Fr.crc_lt [2, s / 256, s % 256] hbt
    have hn := checkNumber_any w1.heap.size 0 10 [2, s / 256, s % 256] _ hb3.row (by simp) hbt
    generalize hC : Fr.crc [2, s / 256, s % 256] = q at *
    have HC : Hid (Fr.crc [2, s / 256, s % 256] = q) := hC
    clear hC hbuf q2 c0 e0
    go_wp2_with fail
    refine hn.mono ?_
    rintro e w4 ⟨rfl, rfl⟩
    clear hn
    go_wp2_with fail
    refine (appendTwo_at w1.heap.size 10 ([] ++ [2] ++ [s / 256, s % 256]) 3 rfl q _ hb3 (by omega) hq).mono ?_
    rintro e w5 ⟨rfl, hb5, hk5⟩
    go_wp2
    go_ret2
    have hb6 : Buf w5 w1.heap.size (Fr.enc ⟨false, s, Fr.none0⟩) 10 := by
      have e : Fr.enc ⟨false, s, Fr.none0⟩ = [] ++ [2] ++ [s / 256, s % 256] ++ [q / 256, q % 256] := by
        rw [← HC.out]; simp [Fr.enc, Fr.sealed, Fr.body]
      rw [e]; exact hb5
    have up : ∀ {a b : World}, Keep nil w a → Keep (only w1.heap.size) a b → Keep nil w b := fun k1 k2 => k1.trans' k2 (fun i hi e => by simp only [only] at e; omega)
    exact ⟨w1.heap.size, rfl, by omega, hb6, up (up (up (((((Keep.refl nil w).alloc _).trans hk1).alloc _).alloc _).drew hk2) hk3) hk5⟩

set_option maxRecDepth 100000 in
set_option maxHeartbeats 1000000 in
theorem encode_msg (s : Nat) (hs : s < 65536) (m : Fr.Msg) (h1 : m.kind < 256) (h2 : m.level < 256) (h3 : m.name < 65536) (hm : may (m.kind : Int) (m.level : Int) (m.name : Int) m.finding = true) (w : World) :
    Calls Tryz.prog 124 #[.agg (fc true (s : Int) (m.kind : Int) (m.level : Int) (m.name : Int) m.finding)] w fun e w' =>
      ∃ g, e = .returned (.tuple #[.slice (some ⟨g, 0, none⟩) 10 10, .int .i64 0]) ∧ w.heap.size ≤ g ∧ Buf w' g (Fr.enc ⟨true, s, m⟩) 10 ∧ Keep nil w w' := by
  obtain ⟨k, lv, n, f⟩ := m
  simp only at h1 h2 h3 hm ⊢
  have hmk := make_ten
  have hs1 : (s : Int) ≤ 65535 := by omega
  have HS : Hid (s < 65536) := hs
  have H1 : Hid (k < 256) := h1
  have H2 : Hid (lv < 256) := h2
  have H3 : Hid (n < 65536) := h3
  clear hs h1 h2 h3
  go_enter Tryz.func124, Tryz.ntmps124
  go_wp2_with fail
  refine (fits_data (s : Int) (k : Int) (lv : Int) (n : Int) f _).mono ?_
  rintro e w1 ⟨rfl, hk1⟩
  have hz : w.heap.size < w1.heap.size := by have := hk1.size; simp at this; omega
  have c0 := fun i => hk1.cell w.heap.size i (by simp) (fun e => e)
  simp only [World.cell?_alloc_new] at c0
  have hbuf := buf_ten w1
  go_wp2_with fail
  go_region_law (first | (refine step_append_buf rfl (.tmp 19) (.tmp 20) rfl w1.heap.size 10 [] 0 rfl rfl (hbuf.alloc _).drew ⟨w1.heap.size + 1, 0, none⟩ 1 1 rfl [1] rfl (cells_one (w1.alloc (.cells ten 5)) 1 1 rfl 5 (w1.heap.size + 1) (World.size_alloc _ _).symm) (by omega) ?_; intro w2 hb2 hk2; have q2 := hk2.cell w.heap.size 1 (by simp only [World.size_alloc, World.size_drew]; omega) (by simp only [only]; omega)) | (go_simp; refine (appendTwo_at w1.heap.size 10 ([] ++ [1]) 1 rfl s _ hb2 (by omega) HS.out).mono ?_; rintro e w3 ⟨rfl, hb3, hk3⟩))
  all_goals
    have d0 : ∀ i, w3.cell? ⟨w.heap.size, i, none⟩ = w1.cell? ⟨w.heap.size, i, none⟩ := fun i => by
      rw [hk3.cell w.heap.size i (by have := hk2.size; simp at this; omega) (by simp only [only]; omega), hk2.cell w.heap.size i (by simp; omega) (by simp only [only]; omega), World.cell?_drew, World.cell?_alloc_lt _ _ _ (by simp; omega), World.cell?_alloc_lt _ _ _ (by simp; omega)]
    clear q2
    have d2 := (d0 2).trans (c0 2)
    have d3 := (d0 3).trans (c0 3)
    have d4 := (d0 4).trans (c0 4)
    have d5 := (d0 5).trans (c0 5)
    simp at d2 d3 d4 d5
    clear d0 c0
    go_wp2_with fail
    refine (appendMessage_any w1.heap.size 10 ([] ++ [1] ++ [s / 256, s % 256]) 3 rfl k lv n f _ hb3 (by omega) H1.out H2.out H3.out).mono ?_
    rintro e w4 ⟨rfl, hb4, hk4⟩
    have hbt : ∀ x ∈ [1, s / 256, s % 256, k, lv, f.toNat, n / 256, n % 256], x < 256 := by
      have t1 := HS.out
      have t2 := H1.out
      have t3 := H2.out
      have t4 := H3.out
      have t5 : f.toNat < 256 := by cases f <;> simp
      intro x hx; simp at hx; omega
    have hq := Fr.crc_lt [1, s / 256, s % 256, k, lv, f.toNat, n / 256, n % 256] hbt
    have hn := checkNumber_any w1.heap.size 0 10 [1, s / 256, s % 256, k, lv, f.toNat, n / 256, n % 256] _ hb4.row (by simp) hbt
    generalize hC : Fr.crc [1, s / 256, s % 256, k, lv, f.toNat, n / 256, n % 256] = q at *
    have HC : Hid (Fr.crc [1, s / 256, s % 256, k, lv, f.toNat, n / 256, n % 256] = q) := hC
    clear hC hbuf d2 d3 d4 d5
    go_wp2_with fail
    refine hn.mono ?_
    rintro e w5 ⟨rfl, rfl⟩
    clear hn
    go_wp2_with fail
    refine (appendTwo_at w1.heap.size 10 ([] ++ [1] ++ [s / 256, s % 256] ++ [k, lv, f.toNat] ++ [n / 256, n % 256]) 8 rfl q _ hb4 (by omega) hq).mono ?_
    rintro e w6 ⟨rfl, hb6, hk6⟩
    go_wp2
    go_ret2
    have hb7 : Buf w6 w1.heap.size (Fr.enc ⟨true, s, ⟨k, lv, n, f⟩⟩) 10 := by
      have e : Fr.enc ⟨true, s, ⟨k, lv, n, f⟩⟩ = [] ++ [1] ++ [s / 256, s % 256] ++ [k, lv, f.toNat] ++ [n / 256, n % 256] ++ [q / 256, q % 256] := by
        rw [← HC.out]; simp [Fr.enc, Fr.sealed, Fr.body]
      rw [e]; exact hb6
    have up : ∀ {a b : World}, Keep nil w a → Keep (only w1.heap.size) a b → Keep nil w b := fun k1 k2 => k1.trans' k2 (fun i hi e => by simp only [only] at e; omega)
    exact ⟨w1.heap.size, rfl, by omega, hb7, up (up (up (up (((((Keep.refl nil w).alloc _).trans hk1).alloc _).alloc _).drew hk2) hk3) hk4) hk6⟩
end Go.Proofs.YtlfijfodklhplaaGreat
/- Walks of arbor.Encode and arbor.Decode. -/
namespace Go.Proofs.YtlfijfodklhplaaGreat
open Go.RowKit
set_option linter.unusedVariables false

/-- A frame as it lies in cells. -/
abbrev fv (f : Fr.Frm) : Array Value := fc f.data (f.seq : Int) (f.m.kind : Int) (f.m.level : Int) (f.m.name : Int) f.m.finding
/-- A frame that may be. -/
def FrOk (f : Fr.Frm) : Prop := f.seq < 65536 ∧ ((f.data = true ∧ f.m.kind < 256 ∧ f.m.level < 256 ∧ f.m.name < 65536 ∧ may (f.m.kind : Int) (f.m.level : Int) (f.m.name : Int) f.m.finding = true) ∨ (f.data = false ∧ f.m = Fr.none0))
def flen (f : Fr.Frm) : Nat := if f.data then 10 else 5

theorem encode_any (f : Fr.Frm) (hf : FrOk f) (w : World) :
    Calls Tryz.prog 124 #[.agg (fv f)] w fun e w' =>
      ∃ g, e = .returned (.tuple #[.slice (some ⟨g, 0, none⟩) (flen f) 10, .int .i64 0]) ∧ w.heap.size ≤ g ∧ Buf w' g (Fr.enc f) 10 ∧ Keep nil w w' := by
  obtain ⟨d, s, m⟩ := f
  obtain ⟨h0, ⟨h1, h2, h3, h4, h5⟩ | ⟨h1, h2⟩⟩ := hf
  · simp only at h0 h1 h2 h3 h4 h5
    subst h1
    exact encode_msg s h0 m h2 h3 h4 h5 w
  · simp only at h0 h1 h2
    subst h1 h2
    exact encode_ack s h0 w

set_option maxHeartbeats 1000000 in
theorem arborEncode_any (f : Fr.Frm) (hf : FrOk f) (w : World) :
    Calls Tryz.prog 76 #[.agg (fv f)] w fun e w' =>
      ∃ g, e = .returned (.tuple #[.slice (some ⟨g, 0, none⟩) (flen f) 10, .int .i64 0]) ∧ w.heap.size ≤ g ∧ Buf w' g (Fr.enc f) 10 ∧ Keep nil w w' := by
  go_enter Tryz.func76, Tryz.ntmps76
  go_wp2_with fail
  refine (encode_any f hf _).mono ?_
  rintro e w1 ⟨g, rfl, hg, hb, hk⟩
  simp at hg
  go_wp2
  go_ret2
  exact ⟨g, rfl, by omega, hb, ((Keep.refl _ _).alloc _).trans hk⟩

set_option maxHeartbeats 1000000 in
theorem arborDecode_yes (bb bo cap : Nat) (l : List Nat) (w : World) (hrow : Row w bb bo l) (hbb : bb < w.heap.size) (hcap : l.length ≤ cap) (hlen : l.length < 140737488355328) (hb : ∀ x ∈ l, x < 256) (x : Six) (hx : ReadOk l x) :
    Calls Tryz.prog 80 #[.slice (some ⟨bb, bo, none⟩) l.length cap] w fun e w' => e = .returned (.tuple #[.agg (fc x.d x.s x.k x.l x.n x.f), .int .i64 0]) ∧ Keep nil w w' := by
  have r1 := hrow.keep ((Keep.refl nil w).alloc (.cells (fc false 0 0 0 0 false) 78)) hbb (fun e => e)
  go_enter Tryz.func80, Tryz.ntmps80
  go_wp2_with fail
  refine (decode_yes bb bo cap l _ r1 (by simp; omega) hcap hlen hb x hx).mono ?_
  rintro e w1 ⟨rfl, hk1⟩
  have b1 := (Blk.new w (fc false 0 0 0 0 false) 78).keep hk1 (fun e => e)
  have q0 := b1.cell 0
  have q1 := b1.cell 1
  have q2 := b1.cell 2
  have q3 := b1.cell 3
  have q4 := b1.cell 4
  have q5 := b1.cell 5
  have q6 := fun i => b1.frozen i
  simp at q0 q1 q2 q3 q4 q5
  clear hx hrow hb r1
  go_wp2
  have d1 := b1.put6 x.d x.s x.k x.l x.n x.f
  have kk : Keep nil w (put6 w1 w.heap.size x.d x.s x.k x.l x.n x.f) := (((Keep.refl nil w).alloc _).trans hk1).put6 w.heap.size (fun h => by omega) x.d x.s x.k x.l x.n x.f
  have z0 := d1.cell 0
  have z1 := d1.cell 1
  have z2 := d1.cell 2
  have z3 := d1.cell 3
  have z4 := d1.cell 4
  have z5 := d1.cell 5
  simp only [List.getElem?_toArray] at z0 z1 z2 z3 z4 z5
  exact bodyPost_ret (v := .tuple #[.agg (fc x.d x.s x.k x.l x.n x.f), .int .i64 0]) (by simp [results, Tryz.results80, go_sem, z0, z1, z2, z3, z4, z5]) rfl ⟨rfl, kk⟩

set_option maxHeartbeats 1000000 in
theorem arborDecode_no (bb bo cap : Nat) (l : List Nat) (w : World) (hrow : Row w bb bo l) (hbb : bb < w.heap.size) (hcap : l.length ≤ cap) (hlen : l.length < 140737488355328) (hb : ∀ x ∈ l, x < 256) (hno : ∀ x, ¬ ReadOk l x) :
    Calls Tryz.prog 80 #[.slice (some ⟨bb, bo, none⟩) l.length cap] w fun e w' => e = .returned (.tuple #[.agg (fc false 0 0 0 0 false), .int .i64 9]) ∧ Keep nil w w' := by
  have r1 := hrow.keep ((Keep.refl nil w).alloc (.cells (fc false 0 0 0 0 false) 78)) hbb (fun e => e)
  have HN : Hid (∀ x, ¬ ReadOk l x) := hno
  clear hno
  go_enter Tryz.func80, Tryz.ntmps80
  go_wp2_with fail
  refine (decode_no bb bo cap l _ r1 (by simp; omega) hcap hlen hb HN.out).mono ?_
  rintro e w1 ⟨rfl, hk1⟩
  have b1 := (Blk.new w (fc false 0 0 0 0 false) 78).keep hk1 (fun e => e)
  have q0 := b1.cell 0
  have q1 := b1.cell 1
  have q2 := b1.cell 2
  have q3 := b1.cell 3
  have q4 := b1.cell 4
  have q5 := b1.cell 5
  have q6 := fun i => b1.frozen i
  simp at q0 q1 q2 q3 q4 q5
  clear HN hrow hb r1
  go_wp2
  have d1 := b1.put6 false 0 0 0 0 false
  have kk : Keep nil w (put6 w1 w.heap.size false 0 0 0 0 false) := (((Keep.refl nil w).alloc _).trans hk1).put6 w.heap.size (fun h => by omega) false 0 0 0 0 false
  have z0 := d1.cell 0
  have z1 := d1.cell 1
  have z2 := d1.cell 2
  have z3 := d1.cell 3
  have z4 := d1.cell 4
  have z5 := d1.cell 5
  simp only [List.getElem?_toArray] at z0 z1 z2 z3 z4 z5
  exact bodyPost_ret (v := .tuple #[.agg (fc false 0 0 0 0 false), .int .i64 9]) (by simp [results, Tryz.results80, go_sem, z0, z1, z2, z3, z4, z5]) rfl ⟨rfl, kk⟩
end Go.Proofs.YtlfijfodklhplaaGreat
