import Derived.Test.YtlfijfodklhplaaGreatLk04
import Derived.Test.YtlfijfodklhplaaGreatLk01
import Derived.Deep.RegionLaw
/- Walk of frame.Decode. -/
namespace Go.Proofs.YtlfijfodklhplaaGreat
open Go.RowKit
set_option linter.unusedVariables false

theorem read_ok (bb bo cap : Nat) (l : List Nat) (w : World) (hrow : Row w bb bo l) (hbb : bb < w.heap.size) (hcap : l.length ≤ cap) (hlen : l.length < 140737488355328) (hb : ∀ x ∈ l, x < 256) (x : Six) (hx : ReadOk l x) :
    Calls Tryz.prog 181 #[.slice (some ⟨bb, bo, none⟩) l.length cap] w fun e w' => e = .returned (.agg (fc x.d x.s x.k x.l x.n x.f)) ∧ Keep nil w w' := by
  obtain ⟨k, c1, c2, hx, h1, h2, hc, hl⟩ := hx
  exact read_yes bb bo cap l w hrow hbb hcap hlen hb k x hx c1 c2 h1 h2 hc hl

set_option maxHeartbeats 1000000 in
theorem decode_yes (bb bo cap : Nat) (l : List Nat) (w : World) (hrow : Row w bb bo l) (hbb : bb < w.heap.size) (hcap : l.length ≤ cap) (hlen : l.length < 140737488355328) (hb : ∀ x ∈ l, x < 256) (x : Six) (hx : ReadOk l x) :
    Calls Tryz.prog 128 #[.slice (some ⟨bb, bo, none⟩) l.length cap] w fun e w' => e = .returned (.tuple #[.agg (fc x.d x.s x.k x.l x.n x.f), .int .i64 0]) ∧ Keep nil w w' := by
  have hmf : ∀ (fn : Fn) (first cap : Array Value) (w : World), (Instr.makeFunc fn first cap).run Tryz.prog w = .ok (.func fn first cap) w := fun _ _ _ _ => rfl
  go_enter_defers Tryz.func128, Tryz.ntmps128
  go_wp2_with fail
  have r1 := (hrow.keep ((Keep.refl nil w).alloc (.cells (fc false 0 0 0 0 false) 78)) hbb (fun e => e)).keep ((Keep.refl nil _).alloc (.cells #[.int .i64 0] 32)) (by simp; omega) (fun e => e)
  refine (read_ok bb bo cap l _ r1 (by simp; omega) hcap hlen hb x hx).mono ?_
  rintro e w1 ⟨rfl, hk1⟩
  have b1 := ((Blk.new w (fc false 0 0 0 0 false) 78).old (.cells #[.int .i64 0] 32)).keep hk1 (fun e => e)
  have b2 := (Blk.new' (w.alloc (.cells (fc false 0 0 0 0 false) 78)) #[.int .i64 0] 32 (w.heap.size + 1) (by simp)).keep hk1 (fun e => e)
  have q0 := b1.cell 0
  have q1 := b1.cell 1
  have q2 := b1.cell 2
  have q3 := b1.cell 3
  have q4 := b1.cell 4
  have q5 := b1.cell 5
  have q6 := fun i => b1.frozen i
  have q7 := b2.cell 0
  have q8 := fun i => b2.frozen i
  simp at q0 q1 q2 q3 q4 q5 q7
  clear hx hrow hb r1
  go_wp2
  have k1 : Keep (only w.heap.size) w1 (put6 w1 w.heap.size x.d x.s x.k x.l x.n x.f) := (Keep.refl (only w.heap.size) w1).put6 w.heap.size (fun _ => rfl) x.d x.s x.k x.l x.n x.f
  have k2 : Keep (only (w.heap.size + 1)) (put6 w1 w.heap.size x.d x.s x.k x.l x.n x.f) ((put6 w1 w.heap.size x.d x.s x.k x.l x.n x.f).setCell ⟨w.heap.size + 1, 0, none⟩ (.int .i64 0)) := (Keep.refl (only (w.heap.size + 1)) _).setCell (p := ⟨w.heap.size + 1, 0, none⟩) (fun _ => rfl) _
  have d1 := (b1.put6 x.d x.s x.k x.l x.n x.f).keep k2 (by simp only [only]; omega)
  have d2 : Blk _ (w.heap.size + 1) #[.int .i64 0] 32 := (b2.keep k1 (by simp only [only]; omega)).set 0 (.int .i64 0)
  have kk : Keep nil w ((put6 w1 w.heap.size x.d x.s x.k x.l x.n x.f).setCell ⟨w.heap.size + 1, 0, none⟩ (.int .i64 0)) :=
    (((((Keep.refl nil w).alloc _).alloc _).trans hk1).put6 w.heap.size (fun h => by omega) x.d x.s x.k x.l x.n x.f).setCell (p := ⟨w.heap.size + 1, 0, none⟩) (fun h => by simp only at h; omega) _
  have z0 := d1.cell 0
  have z1 := d1.cell 1
  have z2 := d1.cell 2
  have z3 := d1.cell 3
  have z4 := d1.cell 4
  have z5 := d1.cell 5
  have z6 := d2.cell 0
  simp only [List.getElem?_toArray] at z0 z1 z2 z3 z4 z5 z6
  clear q0 q1 q2 q3 q4 q5 q6 q7 q8 k1 k2 d1 d2 b1 b2 hk1
  refine leaves_cons (f := 180) (args := #[.pointer (some ⟨w.heap.size, 0, none⟩), .pointer (some ⟨w.heap.size + 1, 0, none⟩)]) (by simp) (by simp [go_sem]) ?_
  refine (catch_idle _ _ _).mono ?_
  rintro e u' w'' ⟨rfl, rfl, rfl⟩
  refine ⟨.tuple #[.agg (fc x.d x.s x.k x.l x.n x.f), .int .i64 0], ?_, rfl, kk⟩
  simp [results, Tryz.results128, go_sem, z0, z1, z2, z3, z4, z5, z6]

set_option maxHeartbeats 1000000 in
theorem decode_no (bb bo cap : Nat) (l : List Nat) (w : World) (hrow : Row w bb bo l) (hbb : bb < w.heap.size) (hcap : l.length ≤ cap) (hlen : l.length < 140737488355328) (hb : ∀ x ∈ l, x < 256) (hno : ∀ x, ¬ ReadOk l x) :
    Calls Tryz.prog 128 #[.slice (some ⟨bb, bo, none⟩) l.length cap] w fun e w' => e = .returned (.tuple #[.agg (fc false 0 0 0 0 false), .int .i64 9]) ∧ Keep nil w w' := by
  have hmf : ∀ (fn : Fn) (first cap : Array Value) (w : World), (Instr.makeFunc fn first cap).run Tryz.prog w = .ok (.func fn first cap) w := fun _ _ _ _ => rfl
  have HN : Hid (∀ x, ¬ ReadOk l x) := hno
  clear hno
  go_enter_defers Tryz.func128, Tryz.ntmps128
  go_wp2_with fail
  have r1 := (hrow.keep ((Keep.refl nil w).alloc (.cells (fc false 0 0 0 0 false) 78)) hbb (fun e => e)).keep ((Keep.refl nil _).alloc (.cells #[.int .i64 0] 32)) (by simp; omega) (fun e => e)
  refine (read_no bb bo cap l _ r1 (by simp; omega) hcap hlen hb HN.out).mono ?_
  rintro e w1 ⟨rfl, hk1⟩
  have b1 := ((Blk.new w (fc false 0 0 0 0 false) 78).old (.cells #[.int .i64 0] 32)).keep hk1 (fun e => e)
  have b2 := (Blk.new' (w.alloc (.cells (fc false 0 0 0 0 false) 78)) #[.int .i64 0] 32 (w.heap.size + 1) (by simp)).keep hk1 (fun e => e)
  clear HN hrow hb r1
  refine leaves_cons (f := 180) (args := #[.pointer (some ⟨w.heap.size, 0, none⟩), .pointer (some ⟨w.heap.size + 1, 0, none⟩)]) (by simp) (by simp [go_sem]) ?_
  refine (catch_panicking w.heap.size (w.heap.size + 1) Six.zero 0 _ b1 b2 (by omega) (by omega)).mono ?_
  rintro e u' w2 ⟨rfl, rfl, d1, d2, hk2⟩
  have z0 := d1.cell 0
  have z1 := d1.cell 1
  have z2 := d1.cell 2
  have z3 := d1.cell 3
  have z4 := d1.cell 4
  have z5 := d1.cell 5
  have z6 := d2.cell 0
  simp at z0 z1 z2 z3 z4 z5 z6
  refine ⟨.tuple #[.agg (fc false 0 0 0 0 false), .int .i64 9], ?_, rfl, ?_⟩
  · simp [results, Tryz.results128, go_sem, z0, z1, z2, z3, z4, z5, z6]
  · exact ((((Keep.refl nil w).alloc _).alloc _).trans hk1).trans' hk2 (fun i hi e => by rcases e with e | e <;> omega)
end Go.Proofs.YtlfijfodklhplaaGreat
/- A buffer of bytes that is appended to within its capacity: laws, and the walk of appendTwo. -/
namespace Go.Proofs.YtlfijfodklhplaaGreat
open Go.RowKit
set_option linter.unusedVariables false

def bv (x : Nat) : Value := .int .u8 (x : Int)
/-- Block g holds the bytes l, and room up to c. -/
def Buf (w : World) (g : Nat) (l : List Nat) (c : Nat) : Prop := ∃ sp : List Value, Blk w g (l.map bv ++ sp).toArray 5 ∧ l.length + sp.length = c
theorem Buf.keep {ex : Nat → Prop} {w w' : World} {g : Nat} {l : List Nat} {c : Nat} (h : Buf w g l c) (k : Keep ex w w') (hn : ¬ ex g) : Buf w' g l c :=
  let ⟨sp, hb, hc⟩ := h; ⟨sp, hb.keep k hn, hc⟩
theorem Buf.lt {w : World} {g : Nat} {l : List Nat} {c : Nat} (h : Buf w g l c) : g < w.heap.size := let ⟨_, hb, _⟩ := h; hb.lt
theorem Buf.drew {w : World} {g : Nat} {l : List Nat} {c : Nat} (h : Buf w g l c) : Buf w.drew g l c := h
theorem Buf.alloc {w : World} {g : Nat} {l : List Nat} {c : Nat} (h : Buf w g l c) (o : Obj) : Buf (w.alloc o) g l c := h.keep ((Keep.refl nil w).alloc o) (fun e => e)
theorem Buf.row {w : World} {g : Nat} {l : List Nat} {c : Nat} (h : Buf w g l c) : Row w g 0 l := by
  obtain ⟨sp, hb, _⟩ := h
  intro i hi
  rw [Nat.zero_add, hb.cell, List.getElem?_toArray, List.getElem?_append_left (by simpa using hi)]
  simp [hi, bv]
theorem Buf.len {w : World} {g : Nat} {l : List Nat} {c : Nat} (h : Buf w g l c) : l.length ≤ c := by
  obtain ⟨sp, _, hc⟩ := h; omega

theorem bv_one (l : List Nat) : ∀ u ∈ l.map bv, u.oneCell' = true := by
  intro u hu
  obtain ⟨x, _, rfl⟩ := List.mem_map.1 hu
  rfl

theorem u8_info : (Tryz.prog.info? 5).map (fun i => (i.zero, i.size, i.bytes)) = some (some (.int .u8 0), 1, 1) := by kernel_rfl

/-- append of known bytes to a buffer with room. -/
theorem run_append_buf (w : World) (ty : TypeId) (g c : Nat) (l : List Nat) (hb : Buf w g l c) (ad : Addr) (m c' : Nat) (news : List Nat) (hm : news.length = m) (hc : ∀ j u, (news.map bv)[j]? = some u → w.cell? (ad.add j) = some u) (hroom : l.length + m ≤ c) :
    ∃ w', (Builtin.append_ #[56, 56] ty #[.slice (some ⟨g, 0, none⟩) l.length c, .slice (some ad) m c']).run Tryz.prog w = .ok (.slice (some ⟨g, 0, none⟩) (l.length + m) c) w' ∧ Buf w' g (l ++ news) c ∧ Keep (only g) w w' := by
  obtain ⟨i, hi, hz, hs, hby⟩ := info_parts u8_info
  obtain ⟨sp, hb, hl⟩ := hb
  have hr := run_append_room (P := Tryz.prog) w 56 ty 5 i Tryz.underlying56 hi g l.length c (l.map bv ++ sp).toArray hb ad m c' (news.map bv) (by simp [hs, hm]) hc (bv_one news) hroom (by simp [hs, hm]; omega)
  refine ⟨_, hr, ⟨sp.drop m, ?_, by simp; omega⟩, ?_⟩
  · unfold Blk at hb ⊢
    rw [setRow_heap w g _ _ _ _ hb]
    have e1 : (l.map bv ++ sp).take (l.length * i.size) = l.map bv := by rw [hs, Nat.mul_one]; exact List.take_left' (by simp)
    have e2 : (l.map bv ++ sp).drop (l.length * i.size + (news.map bv).length) = sp.drop m := by rw [hs, Nat.mul_one, List.length_map, hm, List.drop_append, List.drop_of_length_le (by simp)]; simp
    rw [e1, e2, List.map_append]
  · exact ⟨rfl, rfl, rfl, by simp [World.setRow], fun k hk hn => setRow_other w g k _ hn⟩

theorem wpList_append_buf (w : World) {ops : Array Oper} {rest : List Oper} {o : Oper} {a : Act} {Q : Exit → Act → World → Prop}
    (hg : o.guard = none) (s x : Operand) (hop : o.op = Op.call { callee := Callee.builtin Builtin.append, args := #[s, x], argTypes := #[56, 56] })
    (g c : Nat) (l : List Nat) (hs : a.eval s = .slice (some ⟨g, 0, none⟩) l.length c) (hb : Buf w g l c) (ad : Addr) (m c' : Nat) (hx : a.eval x = .slice (some ad) m c') (news : List Nat) (hm : news.length = m)
    (hc : ∀ j u, (news.map bv)[j]? = some u → w.cell? (ad.add j) = some u) (hroom : l.length + m ≤ c)
    (hK : ∀ w', Buf w' g (l ++ news) c → Keep (only g) w w' → wpList Tryz.prog ops Q rest (a.put o.dst (.slice (some ⟨g, 0, none⟩) (l.length + m) c)) w') :
    wpList Tryz.prog ops Q (o :: rest) a w := by
  refine wpList_plain hg fun K hK' => ?_
  obtain ⟨w', hrun, r1, r2⟩ := run_append_buf w o.type g c l hb ad m c' news hm hc hroom
  unfold Oper.wp
  simp [execOp, hop, resolve, invoke, builtin, hs, hx, hrun, Result.andThen]
  exact hK' _ _ (hK w' r1 r2)

theorem step_append_buf {ops : Array Oper} {o : Oper} {a : Act} {w : World} {K : Act → World → Prop} {Q : Exit → Act → World → Prop} {E : Prop}
    (hg : o.guard = none) (s x : Operand) (hop : o.op = Op.call { callee := Callee.builtin Builtin.append, args := #[s, x], argTypes := #[56, 56] })
    (g c : Nat) (l : List Nat) (k : Nat) (hl : l.length = k) (hs : a.eval s = .slice (some ⟨g, 0, none⟩) k c) (hb : Buf w g l c) (ad : Addr) (m c' : Nat) (hx : a.eval x = .slice (some ad) m c') (news : List Nat) (hm : news.length = m)
    (hc : ∀ j u, (news.map bv)[j]? = some u → w.cell? (ad.add j) = some u) (hroom : k + m ≤ c)
    (hK : ∀ w', Buf w' g (l ++ news) c → Keep (only g) w w' → K (a.put o.dst (.slice (some ⟨g, 0, none⟩) (k + m) c)) w') :
    if Region.wanted o (yielded ops a.tmps) = true then Oper.wp Tryz.prog o a w K Q else E := by
  subst hl
  have hw : Region.wanted o (yielded ops a.tmps) = true := by simp [Region.wanted, hg]
  rw [if_pos hw]
  obtain ⟨w', hrun, r1, r2⟩ := run_append_buf w o.type g c l hb ad m c' news hm hc hroom
  unfold Oper.wp
  simp [execOp, hop, resolve, invoke, builtin, hs, hx, hrun, Result.andThen]
  exact hK w' r1 r2

theorem hi_byte (v : Nat) (h : v < 65536) : IntKind.u8.wrap ((v : Int) / 256) = ((v / 256 : Nat) : Int) := by rw [IntKind.wrap_u8']; omega
theorem lo_byte (v : Nat) : IntKind.u8.wrap (v : Int) = ((v % 256 : Nat) : Int) := by rw [IntKind.wrap_u8']; omega

theorem cells_two (w : World) (x y : Int) (a b : Nat) (hx : x = (a : Int)) (hy : y = (b : Int)) (t : TypeId) :
    ∀ j u, ([a, b].map bv)[j]? = some u → (w.alloc (.cells #[.int .u8 x, .int .u8 y] t)).cell? ((⟨w.heap.size, 0, none⟩ : Addr).add j) = some u := by
  intro j u hu
  subst hx hy
  rw [Addr.add_lit, Nat.zero_add, World.cell?_alloc_new]
  match j, hu with
  | 0, hu => simpa [bv] using hu
  | 1, hu => simpa [bv] using hu

set_option maxHeartbeats 1000000 in
theorem appendTwo_any (g c : Nat) (l : List Nat) (v : Nat) (w : World) (hb : Buf w g l c) (hroom : l.length + 2 ≤ c) (hv : v < 65536) :
    Calls Tryz.prog 177 #[.slice (some ⟨g, 0, none⟩) l.length c, .int .i64 (v : Int)] w fun e w' => e = .returned (.slice (some ⟨g, 0, none⟩) (l.length + 2) c) ∧ Buf w' g (l ++ [v / 256, v % 256]) c ∧ Keep (only g) w w' := by
  go_enter Tryz.func177, Tryz.ntmps177
  go_wp2_with (at_builtin; refine wpList_append_buf _ rfl (.tmp 5) (.tmp 11) rfl g c l rfl (hb.alloc _) ⟨w.heap.size, 0, none⟩ 2 2 rfl [v / 256, v % 256] rfl (cells_two w _ _ _ _ (by omega) (by omega) _) hroom ?_; intro w1 hb1 hk1)
  go_ret
  exact ⟨rfl, hb1, ((Keep.refl _ _).alloc _).trans hk1⟩
theorem appendTwo_at (g c : Nat) (l : List Nat) (k : Nat) (hl : l.length = k) (v : Nat) (w : World) (hb : Buf w g l c) (hroom : k + 2 ≤ c) (hv : v < 65536) :
    Calls Tryz.prog 177 #[.slice (some ⟨g, 0, none⟩) k c, .int .i64 (v : Int)] w fun e w' => e = .returned (.slice (some ⟨g, 0, none⟩) (k + 2) c) ∧ Buf w' g (l ++ [v / 256, v % 256]) c ∧ Keep (only g) w w' := by
  subst hl
  exact appendTwo_any g c l v w hb hroom hv
end Go.Proofs.YtlfijfodklhplaaGreat
