import Derived.Test.YtlfijfodklhplaaGreatAk07
import Derived.Defers
import Derived.Recover
import Derived.LaidEql
/- The deferred closure of frame.Decode: it catches the reader's panic, or finds none. -/
namespace Go.Proofs.YtlfijfodklhplaaGreat
open Go.RowKit
set_option linter.unusedVariables false

theorem assert_own (w : World) : (Instr.typeAssert (.iface 279 (.agg #[])) 20 279 true).run Tryz.prog w = .ok (.tuple #[.agg #[], .bool true]) w := by kernel_rfl
theorem frame_own (a b : Value) : #[a, b] ++ Array.replicate (Tryz.f180.ntmps - #[a, b].size) undef = #[a, b, undef, undef, undef, undef, undef, undef, undef, undef, undef, undef, undef, undef, undef, undef, undef] := by rw [Tryz.ntmps180]; rfl

set_option maxHeartbeats 400000 in
theorem catch_idle (pf pe : Addr) (w : World) :
    CallsD Tryz.prog 180 #[.pointer (some pf), .pointer (some pe)] .returning w fun e u' w' => e = .returned (.tuple #[]) ∧ u' = .returning ∧ w' = w := by
  refine callsD_of_wpS Tryz.func180 rfl fun c₀ cs hu => ?_
  rw [frame_own]
  apply wpS_seq
  apply wpS_region
  simp [wpOpsS, go_sem, recoverD, hu, Exit.thenS]
  refine wpS_of_wp ?_
  go_wp2
  exact ⟨rfl, _, by rw [← hu], .tuple #[], by simp [results, Tryz.results180, go_sem], rfl, rfl, rfl⟩

set_option maxHeartbeats 1000000 in
theorem catch_panicking (bf be : Nat) (x : Six) (n : Int) (w : World) (hf : Blk w bf (fc x.d x.s x.k x.l x.n x.f) 78) (he : Blk w be #[.int .i64 n] 32) (hne : ¬ be = bf) (hne' : ¬ bf = be) :
    CallsD Tryz.prog 180 #[.pointer (some ⟨bf, 0, none⟩), .pointer (some ⟨be, 0, none⟩)] (.panicking noFrame) w fun e u' w' =>
      e = .returned (.tuple #[]) ∧ u' = .panicking [{ v := .iface 279 (.agg #[]), recovered := true }] ∧ Blk w' bf (fc false 0 0 0 0 false) 78 ∧ Blk w' be #[.int .i64 9] 32 ∧ Keep (fun k => k = bf ∨ k = be) w w' := by
  unfold noFrame
  have hta := assert_own
  refine callsD_of_wpS Tryz.func180 rfl fun c₀ cs hu => ?_
  rw [frame_own]
  apply wpS_seq
  apply wpS_region
  simp [wpOpsS, go_sem, recoverD, hu, Exit.thenS]
  refine wpS_of_wp ?_
  clear hu
  have q0 := hf.cell 0
  have q1 := hf.cell 1
  have q2 := hf.cell 2
  have q3 := hf.cell 3
  have q4 := hf.cell 4
  have q5 := hf.cell 5
  have q6 := fun i => hf.frozen i
  have q7 := he.cell 0
  have q8 := fun i => he.frozen i
  have q9 := hf.lt
  have q10 := he.lt
  simp at q0 q1 q2 q3 q4 q5 q7
  go_wp2
  have k1 : Keep (only bf) w (put6 w bf false 0 0 0 0 false) := (Keep.refl (only bf) w).put6 bf (fun _ => rfl) false 0 0 0 0 false
  have k2 : Keep (only be) (put6 w bf false 0 0 0 0 false) ((put6 w bf false 0 0 0 0 false).setCell ⟨be, 0, none⟩ (.int .i64 9)) := (Keep.refl (only be) _).setCell (p := ⟨be, 0, none⟩) (fun _ => rfl) _
  have b1 : Blk _ be #[.int .i64 9] 32 := (he.keep k1 (fun e => hne e)).set 0 (.int .i64 9)
  have b2 := (hf.put6 false 0 0 0 0 false).keep k2 (fun e => hne' e)
  refine ⟨rfl, _, rfl, .tuple #[], by simp [results, Tryz.results180, go_sem], rfl, rfl, b2.old _, b1.old _, ?_⟩
  exact (((Keep.refl (fun k => k = bf ∨ k = be) w).put6 bf (fun _ => Or.inl rfl) false 0 0 0 0 false).setCell (p := ⟨be, 0, none⟩) (fun _ => Or.inr rfl) _).alloc _
end Go.Proofs.YtlfijfodklhplaaGreat
/- Walk of frame.Decode. -/
namespace Go.Proofs.YtlfijfodklhplaaGreat
open Go.RowKit
set_option linter.unusedVariables false

theorem read_ok (bb bo cap : Nat) (l : List Nat) (w : World) (hrow : Row w bb bo l) (hbb : bb < w.heap.size) (hcap : l.length ≤ cap) (hlen : l.length < 140737488355328) (hb : ∀ x ∈ l, x < 256) (x : Six) (hx : ReadOk l x) :
    Calls Tryz.prog 181 #[.slice (some ⟨bb, bo, none⟩) l.length cap] w fun e w' => e = .returned (.agg (fc x.d x.s x.k x.l x.n x.f)) ∧ Keep nil w w' := by
  obtain ⟨k, c1, c2, hx, h1, h2, hc, hl⟩ := hx
  exact read_yes bb bo cap l w hrow hbb hcap hlen hb k x hx c1 c2 h1 h2 hc hl

set_option maxHeartbeats 1000000 in
theorem decode_yes (bb bo cap : Nat) (l : List Nat) (w : World) (hrow : Row w bb bo l) (hbb : bb < w.heap.size) (hcap : l.length ≤ cap) (hlen : l.length < 140737488355328) (hb : ∀ x ∈ l, x < 256) (x : Six) (hx : ReadOk l x) :
    Calls Tryz.prog 128 #[.slice (some ⟨bb, bo, none⟩) l.length cap] w fun e w' => e = .returned (.tuple #[.agg (fc x.d x.s x.k x.l x.n x.f), .int .i64 0]) ∧ Keep nil w w' := by
  have hmf : ∀ (fn : Fn) (first cap : Array Value) (w : World), (Instr.makeFunc fn first cap).run Tryz.prog w = .ok (.func fn first cap) w := fun _ _ _ _ => rfl
  go_enter_defers Tryz.func128, Tryz.ntmps128
  go_wp2_with fail
  have r1 := (hrow.keep ((Keep.refl nil w).alloc (.cells (fc false 0 0 0 0 false) 78)) hbb (fun e => e)).keep ((Keep.refl nil _).alloc (.cells #[.int .i64 0] 32)) (by simp; omega) (fun e => e)
  refine (read_ok bb bo cap l _ r1 (by simp; omega) hcap hlen hb x hx).mono ?_
  rintro e w1 ⟨rfl, hk1⟩
  have b1 := ((Blk.new w (fc false 0 0 0 0 false) 78).old (.cells #[.int .i64 0] 32)).keep hk1 (fun e => e)
  have b2 := (Blk.new' (w.alloc (.cells (fc false 0 0 0 0 false) 78)) #[.int .i64 0] 32 (w.heap.size + 1) (by simp)).keep hk1 (fun e => e)
  have q0 := b1.cell 0
  have q1 := b1.cell 1
  have q2 := b1.cell 2
  have q3 := b1.cell 3
  have q4 := b1.cell 4
  have q5 := b1.cell 5
  have q6 := fun i => b1.frozen i
  have q7 := b2.cell 0
  have q8 := fun i => b2.frozen i
  simp at q0 q1 q2 q3 q4 q5 q7
  clear hx hrow hb r1
  go_wp2
  have k1 : Keep (only w.heap.size) w1 (put6 w1 w.heap.size x.d x.s x.k x.l x.n x.f) := (Keep.refl (only w.heap.size) w1).put6 w.heap.size (fun _ => rfl) x.d x.s x.k x.l x.n x.f
  have k2 : Keep (only (w.heap.size + 1)) (put6 w1 w.heap.size x.d x.s x.k x.l x.n x.f) ((put6 w1 w.heap.size x.d x.s x.k x.l x.n x.f).setCell ⟨w.heap.size + 1, 0, none⟩ (.int .i64 0)) := (Keep.refl (only (w.heap.size + 1)) _).setCell (p := ⟨w.heap.size + 1, 0, none⟩) (fun _ => rfl) _
  have d1 := (b1.put6 x.d x.s x.k x.l x.n x.f).keep k2 (by simp only [only]; omega)
  have d2 : Blk _ (w.heap.size + 1) #[.int .i64 0] 32 := (b2.keep k1 (by simp only [only]; omega)).set 0 (.int .i64 0)
  have kk : Keep nil w ((put6 w1 w.heap.size x.d x.s x.k x.l x.n x.f).setCell ⟨w.heap.size + 1, 0, none⟩ (.int .i64 0)) :=
    (((((Keep.refl nil w).alloc _).alloc _).trans hk1).put6 w.heap.size (fun h => by omega) x.d x.s x.k x.l x.n x.f).setCell (p := ⟨w.heap.size + 1, 0, none⟩) (fun h => by simp only at h; omega) _
  have z0 := d1.cell 0
  have z1 := d1.cell 1
  have z2 := d1.cell 2
  have z3 := d1.cell 3
  have z4 := d1.cell 4
  have z5 := d1.cell 5
  have z6 := d2.cell 0
  simp only [List.getElem?_toArray] at z0 z1 z2 z3 z4 z5 z6
  clear q0 q1 q2 q3 q4 q5 q6 q7 q8 k1 k2 d1 d2 b1 b2 hk1
  refine leaves_cons (f := 180) (args := #[.pointer (some ⟨w.heap.size, 0, none⟩), .pointer (some ⟨w.heap.size + 1, 0, none⟩)]) (by simp) (by simp [go_sem]) ?_
  refine (catch_idle _ _ _).mono ?_
  rintro e u' w'' ⟨rfl, rfl, rfl⟩
  refine ⟨.tuple #[.agg (fc x.d x.s x.k x.l x.n x.f), .int .i64 0], ?_, rfl, kk⟩
  simp [results, Tryz.results128, go_sem, z0, z1, z2, z3, z4, z5, z6]

set_option maxHeartbeats 1000000 in
theorem decode_no (bb bo cap : Nat) (l : List Nat) (w : World) (hrow : Row w bb bo l) (hbb : bb < w.heap.size) (hcap : l.length ≤ cap) (hlen : l.length < 140737488355328) (hb : ∀ x ∈ l, x < 256) (hno : ∀ x, ¬ ReadOk l x) :
    Calls Tryz.prog 128 #[.slice (some ⟨bb, bo, none⟩) l.length cap] w fun e w' => e = .returned (.tuple #[.agg (fc false 0 0 0 0 false), .int .i64 9]) ∧ Keep nil w w' := by
  have hmf : ∀ (fn : Fn) (first cap : Array Value) (w : World), (Instr.makeFunc fn first cap).run Tryz.prog w = .ok (.func fn first cap) w := fun _ _ _ _ => rfl
  have HN : Hid (∀ x, ¬ ReadOk l x) := hno
  clear hno
  go_enter_defers Tryz.func128, Tryz.ntmps128
  go_wp2_with fail
  have r1 := (hrow.keep ((Keep.refl nil w).alloc (.cells (fc false 0 0 0 0 false) 78)) hbb (fun e => e)).keep ((Keep.refl nil _).alloc (.cells #[.int .i64 0] 32)) (by simp; omega) (fun e => e)
  refine (read_no bb bo cap l _ r1 (by simp; omega) hcap hlen hb HN.out).mono ?_
  rintro e w1 ⟨rfl, hk1⟩
  have b1 := ((Blk.new w (fc false 0 0 0 0 false) 78).old (.cells #[.int .i64 0] 32)).keep hk1 (fun e => e)
  have b2 := (Blk.new' (w.alloc (.cells (fc false 0 0 0 0 false) 78)) #[.int .i64 0] 32 (w.heap.size + 1) (by simp)).keep hk1 (fun e => e)
  clear HN hrow hb r1
  refine leaves_cons (f := 180) (args := #[.pointer (some ⟨w.heap.size, 0, none⟩), .pointer (some ⟨w.heap.size + 1, 0, none⟩)]) (by simp) (by simp [go_sem]) ?_
  refine (catch_panicking w.heap.size (w.heap.size + 1) Six.zero 0 _ b1 b2 (by omega) (by omega)).mono ?_
  rintro e u' w2 ⟨rfl, rfl, d1, d2, hk2⟩
  have z0 := d1.cell 0
  have z1 := d1.cell 1
  have z2 := d1.cell 2
  have z3 := d1.cell 3
  have z4 := d1.cell 4
  have z5 := d1.cell 5
  have z6 := d2.cell 0
  simp at z0 z1 z2 z3 z4 z5 z6
  refine ⟨.tuple #[.agg (fc false 0 0 0 0 false), .int .i64 9], ?_, rfl, ?_⟩
  · simp [results, Tryz.results128, go_sem, z0, z1, z2, z3, z4, z5, z6]
  · exact ((((Keep.refl nil w).alloc _).alloc _).trans hk1).trans' hk2 (fun i hi e => by rcases e with e | e <;> omega)
end Go.Proofs.YtlfijfodklhplaaGreat
/- Walks of arbor.Encode and arbor.Decode. -/
namespace Go.Proofs.YtlfijfodklhplaaGreat
open Go.RowKit
set_option linter.unusedVariables false

/-- A frame as it lies in cells. -/
abbrev fv (f : Fr.Frm) : Array Value := fc f.data (f.seq : Int) (f.m.kind : Int) (f.m.level : Int) (f.m.name : Int) f.m.finding
/-- A frame that may be. -/
def FrOk (f : Fr.Frm) : Prop := f.seq < 65536 ∧ ((f.data = true ∧ f.m.kind < 256 ∧ f.m.level < 256 ∧ f.m.name < 65536 ∧ may (f.m.kind : Int) (f.m.level : Int) (f.m.name : Int) f.m.finding = true) ∨ (f.data = false ∧ f.m = Fr.none0))
def flen (f : Fr.Frm) : Nat := if f.data then 10 else 5

theorem encode_any (f : Fr.Frm) (hf : FrOk f) (w : World) :
    Calls Tryz.prog 124 #[.agg (fv f)] w fun e w' =>
      ∃ g, e = .returned (.tuple #[.slice (some ⟨g, 0, none⟩) (flen f) 10, .int .i64 0]) ∧ w.heap.size ≤ g ∧ Buf w' g (Fr.enc f) 10 ∧ Keep nil w w' := by
  obtain ⟨d, s, m⟩ := f
  obtain ⟨h0, ⟨h1, h2, h3, h4, h5⟩ | ⟨h1, h2⟩⟩ := hf
  · simp only at h0 h1 h2 h3 h4 h5
    subst h1
    exact encode_msg s h0 m h2 h3 h4 h5 w
  · simp only at h0 h1 h2
    subst h1 h2
    exact encode_ack s h0 w

set_option maxHeartbeats 1000000 in
theorem arborEncode_any (f : Fr.Frm) (hf : FrOk f) (w : World) :
    Calls Tryz.prog 76 #[.agg (fv f)] w fun e w' =>
      ∃ g, e = .returned (.tuple #[.slice (some ⟨g, 0, none⟩) (flen f) 10, .int .i64 0]) ∧ w.heap.size ≤ g ∧ Buf w' g (Fr.enc f) 10 ∧ Keep nil w w' := by
  go_enter Tryz.func76, Tryz.ntmps76
  go_wp2_with fail
  refine (encode_any f hf _).mono ?_
  rintro e w1 ⟨g, rfl, hg, hb, hk⟩
  simp at hg
  go_wp2
  go_ret2
  exact ⟨g, rfl, by omega, hb, ((Keep.refl _ _).alloc _).trans hk⟩

set_option maxHeartbeats 1000000 in
theorem arborDecode_yes (bb bo cap : Nat) (l : List Nat) (w : World) (hrow : Row w bb bo l) (hbb : bb < w.heap.size) (hcap : l.length ≤ cap) (hlen : l.length < 140737488355328) (hb : ∀ x ∈ l, x < 256) (x : Six) (hx : ReadOk l x) :
    Calls Tryz.prog 80 #[.slice (some ⟨bb, bo, none⟩) l.length cap] w fun e w' => e = .returned (.tuple #[.agg (fc x.d x.s x.k x.l x.n x.f), .int .i64 0]) ∧ Keep nil w w' := by
  have r1 := hrow.keep ((Keep.refl nil w).alloc (.cells (fc false 0 0 0 0 false) 78)) hbb (fun e => e)
  go_enter Tryz.func80, Tryz.ntmps80
  go_wp2_with fail
  refine (decode_yes bb bo cap l _ r1 (by simp; omega) hcap hlen hb x hx).mono ?_
  rintro e w1 ⟨rfl, hk1⟩
  have b1 := (Blk.new w (fc false 0 0 0 0 false) 78).keep hk1 (fun e => e)
  have q0 := b1.cell 0
  have q1 := b1.cell 1
  have q2 := b1.cell 2
  have q3 := b1.cell 3
  have q4 := b1.cell 4
  have q5 := b1.cell 5
  have q6 := fun i => b1.frozen i
  simp at q0 q1 q2 q3 q4 q5
  clear hx hrow hb r1
  go_wp2
  have d1 := b1.put6 x.d x.s x.k x.l x.n x.f
  have kk : Keep nil w (put6 w1 w.heap.size x.d x.s x.k x.l x.n x.f) := (((Keep.refl nil w).alloc _).trans hk1).put6 w.heap.size (fun h => by omega) x.d x.s x.k x.l x.n x.f
  have z0 := d1.cell 0
  have z1 := d1.cell 1
  have z2 := d1.cell 2
  have z3 := d1.cell 3
  have z4 := d1.cell 4
  have z5 := d1.cell 5
  simp only [List.getElem?_toArray] at z0 z1 z2 z3 z4 z5
  exact bodyPost_ret (v := .tuple #[.agg (fc x.d x.s x.k x.l x.n x.f), .int .i64 0]) (by simp [results, Tryz.results80, go_sem, z0, z1, z2, z3, z4, z5]) rfl ⟨rfl, kk⟩

set_option maxHeartbeats 1000000 in
theorem arborDecode_no (bb bo cap : Nat) (l : List Nat) (w : World) (hrow : Row w bb bo l) (hbb : bb < w.heap.size) (hcap : l.length ≤ cap) (hlen : l.length < 140737488355328) (hb : ∀ x ∈ l, x < 256) (hno : ∀ x, ¬ ReadOk l x) :
    Calls Tryz.prog 80 #[.slice (some ⟨bb, bo, none⟩) l.length cap] w fun e w' => e = .returned (.tuple #[.agg (fc false 0 0 0 0 false), .int .i64 9]) ∧ Keep nil w w' := by
  have r1 := hrow.keep ((Keep.refl nil w).alloc (.cells (fc false 0 0 0 0 false) 78)) hbb (fun e => e)
  have HN : Hid (∀ x, ¬ ReadOk l x) := hno
  clear hno
  go_enter Tryz.func80, Tryz.ntmps80
  go_wp2_with fail
  refine (decode_no bb bo cap l _ r1 (by simp; omega) hcap hlen hb HN.out).mono ?_
  rintro e w1 ⟨rfl, hk1⟩
  have b1 := (Blk.new w (fc false 0 0 0 0 false) 78).keep hk1 (fun e => e)
  have q0 := b1.cell 0
  have q1 := b1.cell 1
  have q2 := b1.cell 2
  have q3 := b1.cell 3
  have q4 := b1.cell 4
  have q5 := b1.cell 5
  have q6 := fun i => b1.frozen i
  simp at q0 q1 q2 q3 q4 q5
  clear HN hrow hb r1
  go_wp2
  have d1 := b1.put6 false 0 0 0 0 false
  have kk : Keep nil w (put6 w1 w.heap.size false 0 0 0 0 false) := (((Keep.refl nil w).alloc _).trans hk1).put6 w.heap.size (fun h => by omega) false 0 0 0 0 false
  have z0 := d1.cell 0
  have z1 := d1.cell 1
  have z2 := d1.cell 2
  have z3 := d1.cell 3
  have z4 := d1.cell 4
  have z5 := d1.cell 5
  simp only [List.getElem?_toArray] at z0 z1 z2 z3 z4 z5
  exact bodyPost_ret (v := .tuple #[.agg (fc false 0 0 0 0 false), .int .i64 9]) (by simp [results, Tryz.results80, go_sem, z0, z1, z2, z3, z4, z5]) rfl ⟨rfl, kk⟩
end Go.Proofs.YtlfijfodklhplaaGreat
