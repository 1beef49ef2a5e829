import Derived.WalkKit
import Derived.WalkLawsBesides
import Derived.WalkSpells
import Derived.Laws.BitsAllLaws
import Derived.Laws.Shifts
import Derived.Deep.QuietTactic
import Derived.BigQuiet
import Derived.Deep.RegionWith
import Derived.RegionDies
import Derived.Laws.BitsLemmas
import Derived.Test.YtlfijfodklhplaaGreatRows
/- What a call leaves as it was: 'Keep ex w w'': every block that was there, but those of which 'ex' speaks, is as it was. -/
namespace Go.Proofs.YtlfijfodklhplaaGreat
open Go.RowKit

structure Keep (ex : Nat → Prop) (w w' : World) : Prop where
  os : w'.os = w.os
  tape : w'.tape = w.tape
  output : w'.output = w.output
  size : w.heap.size ≤ w'.heap.size
  block : ∀ k, k < w.heap.size → ¬ ex k → w'.heap[k]? = w.heap[k]?

def nil (_ : Nat) : Prop := False
def only (b : Nat) (k : Nat) : Prop := k = b

theorem Keep.refl (ex : Nat → Prop) (w : World) : Keep ex w w := ⟨rfl, rfl, rfl, Nat.le_refl _, fun _ _ _ => rfl⟩
theorem Keep.trans {ex : Nat → Prop} {a b c : World} (h : Keep ex a b) (k : Keep ex b c) : Keep ex a c :=
  ⟨k.os.trans h.os, k.tape.trans h.tape, k.output.trans h.output, Nat.le_trans h.size k.size, fun i hi hx => (k.block i (Nat.lt_of_lt_of_le hi h.size) hx).trans (h.block i hi hx)⟩
/-- What a second step may turn, if all that is new for the first world: it is nothing that the first world had. -/
theorem Keep.trans' {ex ex' : Nat → Prop} {a b c : World} (h : Keep ex a b) (k : Keep ex' b c) (hx : ∀ i, i < a.heap.size → ex' i → ex i) : Keep ex a c :=
  ⟨k.os.trans h.os, k.tape.trans h.tape, k.output.trans h.output, Nat.le_trans h.size k.size, fun i hi hn => (k.block i (Nat.lt_of_lt_of_le hi h.size) (fun e => hn (hx i hi e))).trans (h.block i hi hn)⟩
theorem Keep.mono {ex ex' : Nat → Prop} {w w' : World} (h : Keep ex w w') (hx : ∀ i, i < w.heap.size → ex i → ex' i) : Keep ex' w w' :=
  ⟨h.os, h.tape, h.output, h.size, fun k hk hn => h.block k hk (fun e => hn (hx k hk e))⟩
theorem Keep.drew {ex : Nat → Prop} {a w : World} (h : Keep ex a w) : Keep ex a w.drew := ⟨h.os, h.tape, h.output, h.size, h.block⟩
theorem Keep.drewN {ex : Nat → Prop} {a w : World} (h : Keep ex a w) (n : Nat) : Keep ex a (w.drewN n) := by
  induction n generalizing w with
  | zero => exact h
  | succ n ih => exact (ih h).drew
theorem Keep.alloc {ex : Nat → Prop} {a w : World} (h : Keep ex a w) (o : Obj) : Keep ex a (w.alloc o) :=
  h.trans ⟨rfl, rfl, rfl, by simp, fun k hk _ => Below.heap_alloc _ _ _ hk⟩
theorem Keep.setCell {ex : Nat → Prop} {a w : World} (h : Keep ex a w) {p : Addr} (hp : p.block < a.heap.size → ex p.block) (u : Value) : Keep ex a (w.setCell p u) :=
  ⟨h.os, h.tape, h.output, by simpa using h.size, fun k hk hn => (Below.heap_setCell w p u k (fun e => by subst e; exact hn (hp hk))).trans (h.block k hk hn)⟩
theorem Keep.cell {ex : Nat → Prop} {w w' : World} (h : Keep ex w w') (b o : Nat) (hb : b < w.heap.size) (hn : ¬ ex b) : w'.cell? ⟨b, o, none⟩ = w.cell? ⟨b, o, none⟩ := World.cell?_of_block (w := w) (h.block b hb hn)
theorem Keep.frozen {ex : Nat → Prop} {w w' : World} (h : Keep ex w w') (b o : Nat) (hb : b < w.heap.size) (hn : ¬ ex b) : w'.frozen? ⟨b, o, none⟩ = w.frozen? ⟨b, o, none⟩ := World.frozen?_of_block (w := w) (h.block b hb hn)
theorem Keep.below {w w' : World} (h : Keep nil w w') : Below w.heap.size w w' := ⟨h.os, h.tape, h.output, h.size, fun k hk => h.block k hk (fun e => e)⟩
theorem Keep.of_below {w w' : World} (h : Below w.heap.size w w') (ex : Nat → Prop) : Keep ex w w' := ⟨h.os, h.tape, h.output, h.size, fun k hk _ => h.block k hk⟩
theorem heap_drewN (w : World) (n : Nat) : (w.drewN n).heap = w.heap := by
  induction n generalizing w with
  | zero => rfl
  | succ n ih => exact ih w.drew

/-- A block of cells, known whole. -/
def Blk (w : World) (b : Nat) (c : Array Value) (t : TypeId) : Prop := w.heap[b]? = some (.cells c t)
theorem Blk.lt {w : World} {b : Nat} {c : Array Value} {t : TypeId} (h : Blk w b c t) : b < w.heap.size := by
  unfold Blk at h
  exact (Array.getElem?_eq_some_iff.1 h).1
theorem Blk.cell {w : World} {b : Nat} {c : Array Value} {t : TypeId} (h : Blk w b c t) (i : Nat) : w.cell? ⟨b, i, none⟩ = c[i]? := by
  unfold Blk at h
  simp [World.cell?, h]
theorem Blk.frozen {w : World} {b : Nat} {c : Array Value} {t : TypeId} (h : Blk w b c t) (i : Nat) : w.frozen? ⟨b, i, none⟩ = false := by
  unfold Blk at h
  simp [World.frozen?, h]
theorem Blk.keep {ex : Nat → Prop} {w w' : World} {b : Nat} {c : Array Value} {t : TypeId} (h : Blk w b c t) (k : Keep ex w w') (hn : ¬ ex b) : Blk w' b c t := (k.block b h.lt hn).trans h
theorem Blk.drew {w : World} {b : Nat} {c : Array Value} {t : TypeId} (h : Blk w b c t) : Blk w.drew b c t := h
theorem Blk.drewN {w : World} {b : Nat} {c : Array Value} {t : TypeId} (h : Blk w b c t) (n : Nat) : Blk (w.drewN n) b c t := by
  unfold Blk; rw [heap_drewN]; exact h
theorem Blk.set {w : World} {b : Nat} {c : Array Value} {t : TypeId} (h : Blk w b c t) (i : Nat) (v : Value) : Blk (w.setCell ⟨b, i, none⟩ v) b (c.setIfInBounds i v) t := by
  have hb := h.lt
  unfold Blk at h ⊢
  simp [World.setCell, Array.getElem?_modify, h]
theorem Blk.new (w : World) (c : Array Value) (t : TypeId) : Blk (w.alloc (.cells c t)) w.heap.size c t := by
  show (w.heap.push _)[w.heap.size]? = _
  simp
theorem Blk.new' (w : World) (c : Array Value) (t : TypeId) (n : Nat) (h : n = w.heap.size) : Blk (w.alloc (.cells c t)) n c t := by subst h; exact Blk.new w c t
theorem Blk.old {w : World} {b : Nat} {c : Array Value} {t : TypeId} (h : Blk w b c t) (o : Obj) : Blk (w.alloc o) b c t := (Below.heap_alloc _ _ _ h.lt).trans h

/-- Bytes in a row of memory, from an offset on. -/
def Row (w : World) (b o : Nat) (l : List Nat) : Prop := ∀ i (h : i < l.length), w.cell? ⟨b, o + i, none⟩ = some (.int .u8 (l[i] : Nat))
theorem Row.keep {ex : Nat → Prop} {w w' : World} {b o : Nat} {l : List Nat} (h : Row w b o l) (k : Keep ex w w') (hb : b < w.heap.size) (hn : ¬ ex b) : Row w' b o l :=
  fun i hi => (k.cell b (o + i) hb hn).trans (h i hi)
end Go.Proofs.YtlfijfodklhplaaGreat
/- The plain mathematics of frames: the check number, what a frame's bytes are, that a changed byte is seen. It imports nothing of the program. -/
namespace Go.Proofs.YtlfijfodklhplaaGreat.Fr

theorem or_bytes (a b : Nat) (ha : a < 256) (hb : b < 256) : bits .or .i64 ((a : Int) * 256) (b : Int) = ((a * 256 + b : Nat) : Int) := by
  have e : ((a : Int) * 256) = ((a * 256 : Nat) : Int) := by omega
  rw [e]
  show IntKind.i64.wrap ((BitVec.ofInt 64 ((a * 256 : Nat) : Int) ||| BitVec.ofInt 64 (b : Int)).toNat : Int) = _
  rw [BitVec.toNat_or, ofInt_u64 _ (by omega), ofInt_u64 _ (by omega), nat_join 8 (a * 256) b (by omega) (by omega)]
  rw [IntKind.wrap_i64]
  omega

def step (n : Nat) : Nat := if 32768 ≤ n then (n * 2 % 65536) ^^^ 4129 else n * 2
def steps : Nat → Nat → Nat
  | 0, n => n
  | k + 1, n => step (steps k n)
def byte (n x : Nat) : Nat := steps 8 (n ^^^ (x * 256))
def crcFrom (n : Nat) (l : List Nat) : Nat := l.foldl byte n
def crc (l : List Nat) : Nat := crcFrom 65535 l

theorem xor_lt {a b : Nat} (ha : a < 65536) (hb : b < 65536) : a ^^^ b < 65536 := Nat.xor_lt_two_pow (n := 16) ha hb
theorem step_lt {n : Nat} (h : n < 65536) : step n < 65536 := by
  unfold step
  split
  · exact xor_lt (by omega) (by omega)
  · omega
theorem steps_lt {n : Nat} (h : n < 65536) : ∀ k, steps k n < 65536
  | 0 => h
  | k + 1 => step_lt (steps_lt h k)
theorem byte_lt {n x : Nat} (h : n < 65536) (hx : x < 256) : byte n x < 65536 := steps_lt (xor_lt h (by omega)) 8
theorem crcFrom_cons (n x : Nat) (r : List Nat) : crcFrom n (x :: r) = crcFrom (byte n x) r := by simp [crcFrom]
theorem crcFrom_lt {n : Nat} (l : List Nat) (h : n < 65536) (hl : ∀ x ∈ l, x < 256) : crcFrom n l < 65536 := by
  induction l generalizing n with
  | nil => exact h
  | cons x r ih =>
    rw [crcFrom_cons]
    have hx := byte_lt h (hl x (by simp))
    generalize byte n x = q at *
    exact ih hx (fun y hy => hl y (by simp [hy]))
theorem first_lt : 65535 < 65536 := by omega
theorem crc_lt (l : List Nat) (hl : ∀ x ∈ l, x < 256) : crc l < 65536 := by
  unfold crc
  exact crcFrom_lt (n := 65535) l first_lt hl

theorem xor_odd (x : Nat) (h : x % 2 = 0) : (x ^^^ 4129) % 2 = 1 := by
  have := Nat.xor_mod_two_eq_one (a := x) (b := 4129)
  omega
theorem xor_cancel {x y c : Nat} (h : x ^^^ c = y ^^^ c) : x = y := by
  have := congrArg (· ^^^ c) h
  simpa [Nat.xor_assoc] using this
theorem step_inj {a b : Nat} (ha : a < 65536) (hb : b < 65536) (h : step a = step b) : a = b := by
  unfold step at h
  split at h <;> split at h
  · have := xor_cancel h; omega
  · have := xor_odd (a * 2 % 65536) (by omega); omega
  · have := xor_odd (b * 2 % 65536) (by omega); omega
  · omega
theorem steps_inj {a b : Nat} (ha : a < 65536) (hb : b < 65536) : ∀ k, steps k a = steps k b → a = b
  | 0, h => h
  | k + 1, h => steps_inj ha hb k (step_inj (steps_lt ha k) (steps_lt hb k) h)
theorem byte_inj {a b x : Nat} (ha : a < 65536) (hb : b < 65536) (hx : x < 256) (h : byte a x = byte b x) : a = b :=
  xor_cancel (steps_inj (xor_lt ha (by omega)) (xor_lt hb (by omega)) 8 h)
theorem byte_inj' {a x y : Nat} (ha : a < 65536) (hx : x < 256) (hy : y < 256) (h : byte a x = byte a y) : x = y := by
  have := steps_inj (xor_lt ha (by omega)) (xor_lt ha (by omega)) 8 h
  rw [Nat.xor_comm a, Nat.xor_comm a] at this
  have := xor_cancel this
  omega
theorem crcFrom_inj {a b : Nat} (l : List Nat) (ha : a < 65536) (hb : b < 65536) (hl : ∀ x ∈ l, x < 256) (h : crcFrom a l = crcFrom b l) : a = b := by
  induction l generalizing a b with
  | nil => exact h
  | cons x r ih =>
    have hx := hl x (by simp)
    rw [crcFrom_cons, crcFrom_cons] at h
    have h1 := byte_lt ha hx
    have h2 := byte_lt hb hx
    refine byte_inj ha hb hx ?_
    generalize byte a x = q at *
    generalize byte b x = p at *
    exact ih h1 h2 (fun y hy => hl y (by simp [hy])) h
/-- A byte that is another one gives another check number. -/
theorem crc_set (l : List Nat) (k : Nat) (hk : k < l.length) (y : Nat) (hy : y < 256) (hl : ∀ x ∈ l, x < 256) (h : crc (l.set k y) = crc l) : y = l[k] := by
  have e1 : l = l.take k ++ l[k] :: l.drop (k + 1) := by simp
  have e2 : l.set k y = l.take k ++ y :: l.drop (k + 1) := List.set_eq_take_append_cons_drop .. |>.trans (by rw [if_pos hk])
  rw [e2] at h
  conv at h => rhs; rw [e1]
  unfold crc at h
  have e3 : ∀ (n : Nat) (p s : List Nat) (x : Nat), crcFrom n (p ++ x :: s) = crcFrom (byte (crcFrom n p) x) s := fun n p s x => by simp [crcFrom]
  rw [e3, e3] at h
  have hp : crcFrom 65535 (l.take k) < 65536 := crcFrom_lt (n := 65535) (l.take k) first_lt (fun x hx => hl x (List.mem_of_mem_take hx))
  generalize crcFrom 65535 (l.take k) = q at *
  have hlk : l[k] < 256 := hl _ (List.getElem_mem hk)
  have := crcFrom_inj (l.drop (k + 1)) (byte_lt hp hy) (byte_lt hp hlk) (fun x hx => hl x (List.mem_of_mem_drop hx)) h
  exact byte_inj' hp hy hlk this
theorem crc_snoc (l : List Nat) (x : Nat) : crc (l ++ [x]) = byte (crc l) x := by simp [crc, crcFrom]

/- Messages and frames. -/
structure Msg where
  kind : Nat
  level : Nat
  name : Nat
  finding : Bool
structure Frm where
  data : Bool
  seq : Nat
  m : Msg
def none0 : Msg := ⟨0, 0, 0, false⟩
def maxL (k : Nat) : Nat := if k = 1 ∨ k = 2 ∨ k = 3 then 9 else 0
def minN (k : Nat) : Nat := if k = 2 then 1 else 0
def maxN (k : Nat) : Nat := if k = 2 ∨ k = 3 ∨ k = 6 then 1000 else 0
def mayBe (m : Msg) : Prop := 1 ≤ m.kind ∧ m.kind ≤ 7 ∧ m.level ≤ maxL m.kind ∧ minN m.kind ≤ m.name ∧ m.name ≤ maxN m.kind ∧ (m.finding = true → m.kind = 2)
def fits (f : Frm) : Prop := f.seq < 65536 ∧ (f.data = true → mayBe f.m) ∧ (f.data = false → f.m = none0)
def body (f : Frm) : List Nat :=
  if f.data then [1, f.seq / 256, f.seq % 256, f.m.kind, f.m.level, f.m.finding.toNat, f.m.name / 256, f.m.name % 256] else [2, f.seq / 256, f.seq % 256]
def sealed (l : List Nat) : List Nat := l ++ [crc l / 256, crc l % 256]
def enc (f : Frm) : List Nat := sealed (body f)
end Go.Proofs.YtlfijfodklhplaaGreat.Fr
/- Walks of the small functions: checkStep, must, pick. -/
namespace Go.Proofs.YtlfijfodklhplaaGreat
open Go.RowKit
set_option linter.unusedVariables false

/-- What the reader panics with. -/
def noFrame : List PanicEntry := [{ v := .iface 279 (.agg #[]), recovered := false }]

theorem step_hi (n : Nat) (h : 32768 ≤ n) : bits .xor .u16 (IntKind.u16.wrap ((n : Int) * 2)) 4129 = ((Fr.step n : Nat) : Int) := by
  have e : IntKind.u16.wrap ((n : Int) * 2) = ((n * 2 % 65536 : Nat) : Int) := by rw [IntKind.wrap_u16]; omega
  rw [e]
  have := u16_xor_nat (n * 2 % 65536) 4129 (by omega) (by omega)
  simp only [Fr.step, if_pos h]
  exact this
theorem step_lo (n : Nat) (h : n < 32768) : (n : Int) * 2 = ((Fr.step n : Nat) : Int) := by
  simp only [Fr.step, if_neg (by omega : ¬ 32768 ≤ n)]; omega
theorem ret_bool {a b : Bool} (h : a = b) : Ending.returned (.bool a) = .returned (.bool b) := by rw [h]
theorem ret_int {k : IntKind} {a b : Int} (h : a = b) : Ending.returned (.int k a) = .returned (.int k b) := by rw [h]

set_option maxHeartbeats 400000 in
theorem checkStep_hi (n : Int) (h : 32768 ≤ n) (h1 : n < 65536) (w : World) :
    Calls Tryz.prog 208 #[.int .u16 n] w fun e w' => e = .returned (.int .u16 (bits .xor .u16 (IntKind.u16.wrap (n * 2)) 4129)) ∧ w' = w := by
  go_enter Tryz.func208, Tryz.ntmps208
  go_wp2
  go_ret
  exact ⟨rfl, rfl⟩
set_option maxHeartbeats 400000 in
theorem checkStep_lo (n : Int) (h0 : 0 ≤ n) (h : n < 32768) (w : World) :
    Calls Tryz.prog 208 #[.int .u16 n] w fun e w' => e = .returned (.int .u16 (n * 2)) ∧ w' = w := by
  go_enter Tryz.func208, Tryz.ntmps208
  go_wp2
  go_ret
  exact ⟨rfl, rfl⟩
theorem checkStep_any (n : Nat) (h1 : n < 65536) (w : World) :
    Calls Tryz.prog 208 #[.int .u16 (n : Int)] w fun e w' => e = .returned (.int .u16 ((Fr.step n : Nat) : Int)) ∧ w' = w := by
  by_cases h : 32768 ≤ n
  · rw [← step_hi n h]; exact checkStep_hi _ (by omega) (by omega) w
  · rw [← step_lo n (by omega)]; exact checkStep_lo _ (by omega) (by omega) w

theorem must_yes (w : World) :
    Calls Tryz.prog 210 #[.bool true] w fun e w' => e = .returned (.tuple #[]) ∧ w' = w := by
  go_enter Tryz.func210, Tryz.ntmps210
  go_wp2
  go_end0
  exact ⟨rfl, rfl⟩

theorem must_no (w : World) :
    Calls Tryz.prog 210 #[.bool false] w fun e w' => e = .panicked noFrame ∧ w' = w := by
  go_enter Tryz.func210, Tryz.ntmps210
  go_wp2
  exact ⟨rfl, rfl, rfl⟩

set_option maxHeartbeats 400000 in
theorem pick_any (c n : Int) (h0 : -9223372036854775808 ≤ c) (h1 : c ≤ 9223372036854775807) (h2 : 0 < n) (h3 : n < 4294967296) (w : World) :
    Calls Tryz.prog 12 #[.int .i64 c, .int .i64 n] w fun e w' => ∃ z : Nat, e = .returned (.int .i64 (z : Int)) ∧ (z : Int) < n ∧ w = w' := by
  by_cases hc : c < 0
  · go_enter Tryz.func12, Tryz.ntmps12
    go_wp2
    go_ret
    have e : (-(c + 1)).tmod n = (-(c + 1)) % n := Int.tmod_eq_emod_of_nonneg (by omega)
    have z0 := Int.emod_nonneg (-(c + 1)) (show n ≠ 0 by omega)
    have z1 := Int.emod_lt_of_pos (-(c + 1)) h2
    refine ⟨((-(c + 1)) % n).toNat, ret_int ?_, by omega, rfl⟩
    rw [← Int.neg_tmod, e]; omega
  · go_enter Tryz.func12, Tryz.ntmps12
    go_wp2
    go_ret
    have z0 := Int.emod_nonneg c (show n ≠ 0 by omega)
    have z1 := Int.emod_lt_of_pos c h2
    exact ⟨(c % n).toNat, ret_int (by omega), by omega, rfl⟩
end Go.Proofs.YtlfijfodklhplaaGreat
