import Derived.Test.YtlfijfodklhplaaGreatAk01
import Derived.Test.YtlfijfodklhplaaGreatRows
import Derived.Deep.RegionLaw
/- Walks of the small functions: checkStep, must, pick. -/
namespace Go.Proofs.YtlfijfodklhplaaGreat
open Go.RowKit
set_option linter.unusedVariables false

/-- What the reader panics with. -/
def noFrame : List PanicEntry := [{ v := .iface 279 (.agg #[]), recovered := false }]

theorem step_hi (n : Nat) (h : 32768 ≤ n) : bits .xor .u16 (IntKind.u16.wrap ((n : Int) * 2)) 4129 = ((Fr.step n : Nat) : Int) := by
  have e : IntKind.u16.wrap ((n : Int) * 2) = ((n * 2 % 65536 : Nat) : Int) := by rw [IntKind.wrap_u16]; omega
  rw [e]
  have := u16_xor_nat (n * 2 % 65536) 4129 (by omega) (by omega)
  simp only [Fr.step, if_pos h]
  exact this
theorem step_lo (n : Nat) (h : n < 32768) : (n : Int) * 2 = ((Fr.step n : Nat) : Int) := by
  simp only [Fr.step, if_neg (by omega : ¬ 32768 ≤ n)]; omega
theorem ret_bool {a b : Bool} (h : a = b) : Ending.returned (.bool a) = .returned (.bool b) := by rw [h]
theorem ret_int {k : IntKind} {a b : Int} (h : a = b) : Ending.returned (.int k a) = .returned (.int k b) := by rw [h]

set_option maxHeartbeats 400000 in
theorem checkStep_hi (n : Int) (h : 32768 ≤ n) (h1 : n < 65536) (w : World) :
    Calls Tryz.prog 208 #[.int .u16 n] w fun e w' => e = .returned (.int .u16 (bits .xor .u16 (IntKind.u16.wrap (n * 2)) 4129)) ∧ w' = w := by
  go_enter Tryz.func208, Tryz.ntmps208
  go_wp2
  go_ret
  exact ⟨rfl, rfl⟩
set_option maxHeartbeats 400000 in
theorem checkStep_lo (n : Int) (h0 : 0 ≤ n) (h : n < 32768) (w : World) :
    Calls Tryz.prog 208 #[.int .u16 n] w fun e w' => e = .returned (.int .u16 (n * 2)) ∧ w' = w := by
  go_enter Tryz.func208, Tryz.ntmps208
  go_wp2
  go_ret
  exact ⟨rfl, rfl⟩
theorem checkStep_any (n : Nat) (h1 : n < 65536) (w : World) :
    Calls Tryz.prog 208 #[.int .u16 (n : Int)] w fun e w' => e = .returned (.int .u16 ((Fr.step n : Nat) : Int)) ∧ w' = w := by
  by_cases h : 32768 ≤ n
  · rw [← step_hi n h]; exact checkStep_hi _ (by omega) (by omega) w
  · rw [← step_lo n (by omega)]; exact checkStep_lo _ (by omega) (by omega) w

theorem must_yes (w : World) :
    Calls Tryz.prog 210 #[.bool true] w fun e w' => e = .returned (.tuple #[]) ∧ w' = w := by
  go_enter Tryz.func210, Tryz.ntmps210
  go_wp2
  go_end0
  exact ⟨rfl, rfl⟩

theorem must_no (w : World) :
    Calls Tryz.prog 210 #[.bool false] w fun e w' => e = .panicked noFrame ∧ w' = w := by
  go_enter Tryz.func210, Tryz.ntmps210
  go_wp2
  exact ⟨rfl, rfl, rfl⟩

set_option maxHeartbeats 400000 in
theorem pick_any (c n : Int) (h0 : -9223372036854775808 ≤ c) (h1 : c ≤ 9223372036854775807) (h2 : 0 < n) (h3 : n < 4294967296) (w : World) :
    Calls Tryz.prog 12 #[.int .i64 c, .int .i64 n] w fun e w' => ∃ z : Nat, e = .returned (.int .i64 (z : Int)) ∧ (z : Int) < n ∧ w = w' := by
  by_cases hc : c < 0
  · go_enter Tryz.func12, Tryz.ntmps12
    go_wp2
    go_ret
    have e : (-(c + 1)).tmod n = (-(c + 1)) % n := Int.tmod_eq_emod_of_nonneg (by omega)
    have z0 := Int.emod_nonneg (-(c + 1)) (show n ≠ 0 by omega)
    have z1 := Int.emod_lt_of_pos (-(c + 1)) h2
    refine ⟨((-(c + 1)) % n).toNat, ret_int ?_, by omega, rfl⟩
    rw [← Int.neg_tmod, e]; omega
  · go_enter Tryz.func12, Tryz.ntmps12
    go_wp2
    go_ret
    have z0 := Int.emod_nonneg c (show n ≠ 0 by omega)
    have z1 := Int.emod_lt_of_pos c h2
    exact ⟨(c % n).toNat, ret_int (by omega), by omega, rfl⟩
end Go.Proofs.YtlfijfodklhplaaGreat
/- A buffer of bytes that is appended to within its capacity: laws, and the walk of appendTwo. -/
namespace Go.Proofs.YtlfijfodklhplaaGreat
open Go.RowKit
set_option linter.unusedVariables false

def bv (x : Nat) : Value := .int .u8 (x : Int)
/-- Block g holds the bytes l, and room up to c. -/
def Buf (w : World) (g : Nat) (l : List Nat) (c : Nat) : Prop := ∃ sp : List Value, Blk w g (l.map bv ++ sp).toArray 5 ∧ l.length + sp.length = c
theorem Buf.keep {ex : Nat → Prop} {w w' : World} {g : Nat} {l : List Nat} {c : Nat} (h : Buf w g l c) (k : Keep ex w w') (hn : ¬ ex g) : Buf w' g l c :=
  let ⟨sp, hb, hc⟩ := h; ⟨sp, hb.keep k hn, hc⟩
theorem Buf.lt {w : World} {g : Nat} {l : List Nat} {c : Nat} (h : Buf w g l c) : g < w.heap.size := let ⟨_, hb, _⟩ := h; hb.lt
theorem Buf.drew {w : World} {g : Nat} {l : List Nat} {c : Nat} (h : Buf w g l c) : Buf w.drew g l c := h
theorem Buf.alloc {w : World} {g : Nat} {l : List Nat} {c : Nat} (h : Buf w g l c) (o : Obj) : Buf (w.alloc o) g l c := h.keep ((Keep.refl nil w).alloc o) (fun e => e)
theorem Buf.row {w : World} {g : Nat} {l : List Nat} {c : Nat} (h : Buf w g l c) : Row w g 0 l := by
  obtain ⟨sp, hb, _⟩ := h
  intro i hi
  rw [Nat.zero_add, hb.cell, List.getElem?_toArray, List.getElem?_append_left (by simpa using hi)]
  simp [hi, bv]
theorem Buf.len {w : World} {g : Nat} {l : List Nat} {c : Nat} (h : Buf w g l c) : l.length ≤ c := by
  obtain ⟨sp, _, hc⟩ := h; omega

theorem bv_one (l : List Nat) : ∀ u ∈ l.map bv, u.oneCell' = true := by
  intro u hu
  obtain ⟨x, _, rfl⟩ := List.mem_map.1 hu
  rfl

theorem u8_info : (Tryz.prog.info? 5).map (fun i => (i.zero, i.size, i.bytes)) = some (some (.int .u8 0), 1, 1) := by kernel_rfl

/-- append of known bytes to a buffer with room. -/
theorem run_append_buf (w : World) (ty : TypeId) (g c : Nat) (l : List Nat) (hb : Buf w g l c) (ad : Addr) (m c' : Nat) (news : List Nat) (hm : news.length = m) (hc : ∀ j u, (news.map bv)[j]? = some u → w.cell? (ad.add j) = some u) (hroom : l.length + m ≤ c) :
    ∃ w', (Builtin.append_ #[56, 56] ty #[.slice (some ⟨g, 0, none⟩) l.length c, .slice (some ad) m c']).run Tryz.prog w = .ok (.slice (some ⟨g, 0, none⟩) (l.length + m) c) w' ∧ Buf w' g (l ++ news) c ∧ Keep (only g) w w' := by
  obtain ⟨i, hi, hz, hs, hby⟩ := info_parts u8_info
  obtain ⟨sp, hb, hl⟩ := hb
  have hr := run_append_room (P := Tryz.prog) w 56 ty 5 i Tryz.underlying56 hi g l.length c (l.map bv ++ sp).toArray hb ad m c' (news.map bv) (by simp [hs, hm]) hc (bv_one news) hroom (by simp [hs, hm]; omega)
  refine ⟨_, hr, ⟨sp.drop m, ?_, by simp; omega⟩, ?_⟩
  · unfold Blk at hb ⊢
    rw [setRow_heap w g _ _ _ _ hb]
    have e1 : (l.map bv ++ sp).take (l.length * i.size) = l.map bv := by rw [hs, Nat.mul_one]; exact List.take_left' (by simp)
    have e2 : (l.map bv ++ sp).drop (l.length * i.size + (news.map bv).length) = sp.drop m := by rw [hs, Nat.mul_one, List.length_map, hm, List.drop_append, List.drop_of_length_le (by simp)]; simp
    rw [e1, e2, List.map_append]
  · exact ⟨rfl, rfl, rfl, by simp [World.setRow], fun k hk hn => setRow_other w g k _ hn⟩

theorem wpList_append_buf (w : World) {ops : Array Oper} {rest : List Oper} {o : Oper} {a : Act} {Q : Exit → Act → World → Prop}
    (hg : o.guard = none) (s x : Operand) (hop : o.op = Op.call { callee := Callee.builtin Builtin.append, args := #[s, x], argTypes := #[56, 56] })
    (g c : Nat) (l : List Nat) (hs : a.eval s = .slice (some ⟨g, 0, none⟩) l.length c) (hb : Buf w g l c) (ad : Addr) (m c' : Nat) (hx : a.eval x = .slice (some ad) m c') (news : List Nat) (hm : news.length = m)
    (hc : ∀ j u, (news.map bv)[j]? = some u → w.cell? (ad.add j) = some u) (hroom : l.length + m ≤ c)
    (hK : ∀ w', Buf w' g (l ++ news) c → Keep (only g) w w' → wpList Tryz.prog ops Q rest (a.put o.dst (.slice (some ⟨g, 0, none⟩) (l.length + m) c)) w') :
    wpList Tryz.prog ops Q (o :: rest) a w := by
  refine wpList_plain hg fun K hK' => ?_
  obtain ⟨w', hrun, r1, r2⟩ := run_append_buf w o.type g c l hb ad m c' news hm hc hroom
  unfold Oper.wp
  simp [execOp, hop, resolve, invoke, builtin, hs, hx, hrun, Result.andThen]
  exact hK' _ _ (hK w' r1 r2)

theorem step_append_buf {ops : Array Oper} {o : Oper} {a : Act} {w : World} {K : Act → World → Prop} {Q : Exit → Act → World → Prop} {E : Prop}
    (hg : o.guard = none) (s x : Operand) (hop : o.op = Op.call { callee := Callee.builtin Builtin.append, args := #[s, x], argTypes := #[56, 56] })
    (g c : Nat) (l : List Nat) (k : Nat) (hl : l.length = k) (hs : a.eval s = .slice (some ⟨g, 0, none⟩) k c) (hb : Buf w g l c) (ad : Addr) (m c' : Nat) (hx : a.eval x = .slice (some ad) m c') (news : List Nat) (hm : news.length = m)
    (hc : ∀ j u, (news.map bv)[j]? = some u → w.cell? (ad.add j) = some u) (hroom : k + m ≤ c)
    (hK : ∀ w', Buf w' g (l ++ news) c → Keep (only g) w w' → K (a.put o.dst (.slice (some ⟨g, 0, none⟩) (k + m) c)) w') :
    if Region.wanted o (yielded ops a.tmps) = true then Oper.wp Tryz.prog o a w K Q else E := by
  subst hl
  have hw : Region.wanted o (yielded ops a.tmps) = true := by simp [Region.wanted, hg]
  rw [if_pos hw]
  obtain ⟨w', hrun, r1, r2⟩ := run_append_buf w o.type g c l hb ad m c' news hm hc hroom
  unfold Oper.wp
  simp [execOp, hop, resolve, invoke, builtin, hs, hx, hrun, Result.andThen]
  exact hK w' r1 r2

theorem hi_byte (v : Nat) (h : v < 65536) : IntKind.u8.wrap ((v : Int) / 256) = ((v / 256 : Nat) : Int) := by rw [IntKind.wrap_u8']; omega
theorem lo_byte (v : Nat) : IntKind.u8.wrap (v : Int) = ((v % 256 : Nat) : Int) := by rw [IntKind.wrap_u8']; omega

theorem cells_two (w : World) (x y : Int) (a b : Nat) (hx : x = (a : Int)) (hy : y = (b : Int)) (t : TypeId) :
    ∀ j u, ([a, b].map bv)[j]? = some u → (w.alloc (.cells #[.int .u8 x, .int .u8 y] t)).cell? ((⟨w.heap.size, 0, none⟩ : Addr).add j) = some u := by
  intro j u hu
  subst hx hy
  rw [Addr.add_lit, Nat.zero_add, World.cell?_alloc_new]
  match j, hu with
  | 0, hu => simpa [bv] using hu
  | 1, hu => simpa [bv] using hu

set_option maxHeartbeats 1000000 in
theorem appendTwo_any (g c : Nat) (l : List Nat) (v : Nat) (w : World) (hb : Buf w g l c) (hroom : l.length + 2 ≤ c) (hv : v < 65536) :
    Calls Tryz.prog 177 #[.slice (some ⟨g, 0, none⟩) l.length c, .int .i64 (v : Int)] w fun e w' => e = .returned (.slice (some ⟨g, 0, none⟩) (l.length + 2) c) ∧ Buf w' g (l ++ [v / 256, v % 256]) c ∧ Keep (only g) w w' := by
  go_enter Tryz.func177, Tryz.ntmps177
  go_wp2_with (at_builtin; refine wpList_append_buf _ rfl (.tmp 5) (.tmp 11) rfl g c l rfl (hb.alloc _) ⟨w.heap.size, 0, none⟩ 2 2 rfl [v / 256, v % 256] rfl (cells_two w _ _ _ _ (by omega) (by omega) _) hroom ?_; intro w1 hb1 hk1)
  go_ret
  exact ⟨rfl, hb1, ((Keep.refl _ _).alloc _).trans hk1⟩
theorem appendTwo_at (g c : Nat) (l : List Nat) (k : Nat) (hl : l.length = k) (v : Nat) (w : World) (hb : Buf w g l c) (hroom : k + 2 ≤ c) (hv : v < 65536) :
    Calls Tryz.prog 177 #[.slice (some ⟨g, 0, none⟩) k c, .int .i64 (v : Int)] w fun e w' => e = .returned (.slice (some ⟨g, 0, none⟩) (k + 2) c) ∧ Buf w' g (l ++ [v / 256, v % 256]) c ∧ Keep (only g) w w' := by
  subst hl
  exact appendTwo_any g c l v w hb hroom hv
end Go.Proofs.YtlfijfodklhplaaGreat
/- Rows of bytes: facts that the walks of lent, returned and the book share. -/
namespace Go.Proofs.YtlfijfodklhplaaGreat
open Go.RowKit
set_option linter.unusedVariables false

/-- A row of bytes, and room. -/
abbrev BRow (w : World) (g : Nat) (l : List Nat) (c : Nat) : Prop := VBuf w g 5 1 (l.map bv) c
theorem brow_row {w : World} {g : Nat} {l : List Nat} {c : Nat} (h : BRow w g l c) : Row w g 0 l := by
  intro i hi
  rw [Nat.zero_add]
  exact h.cell i _ (by simp [hi, bv])
theorem cells_list (w : World) (vs : List Value) (t : TypeId) (n : Nat) (hn : n = w.heap.size) : ∀ j u, vs[j]? = some u → (w.alloc (.cells vs.toArray t)).cell? ((⟨n, 0, none⟩ : Addr).add j) = some u := by
  intro j u hu
  subst hn
  rw [Addr.add_lit, Nat.zero_add, World.cell?_alloc_new, List.getElem?_toArray]
  exact hu
theorem cells_row {w : World} {b o : Nat} {l : List Nat} (h : Row w b o l) : ∀ j u, (l.map bv)[j]? = some u → w.cell? ((⟨b, o, none⟩ : Addr).add j) = some u := by
  intro j u hu
  rw [List.getElem?_map] at hu
  obtain ⟨x, hx, rfl⟩ := Option.map_eq_some_iff.1 hu
  obtain ⟨hj, rfl⟩ := List.getElem?_eq_some_iff.1 hx
  rw [Addr.add_lit]
  exact h j hj
end Go.Proofs.YtlfijfodklhplaaGreat
