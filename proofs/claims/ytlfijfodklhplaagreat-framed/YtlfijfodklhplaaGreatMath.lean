/- The plain mathematics of frames: the check number, what a frame's bytes are, that a changed byte is seen. It imports nothing of the program. -/
import Derived.Laws.BitsAllLaws
import Derived.Laws.BitsLemmas
namespace Go.Proofs.YtlfijfodklhplaaGreat.Fr

theorem or_bytes (a b : Nat) (ha : a < 256) (hb : b < 256) : bits .or .i64 ((a : Int) * 256) (b : Int) = ((a * 256 + b : Nat) : Int) := by
  have e : ((a : Int) * 256) = ((a * 256 : Nat) : Int) := by omega
  rw [e]
  show IntKind.i64.wrap ((BitVec.ofInt 64 ((a * 256 : Nat) : Int) ||| BitVec.ofInt 64 (b : Int)).toNat : Int) = _
  rw [BitVec.toNat_or, ofInt_u64 _ (by omega), ofInt_u64 _ (by omega), nat_join 8 (a * 256) b (by omega) (by omega)]
  rw [IntKind.wrap_i64]
  omega

def step (n : Nat) : Nat := if 32768 ≤ n then (n * 2 % 65536) ^^^ 4129 else n * 2
def steps : Nat → Nat → Nat
  | 0, n => n
  | k + 1, n => step (steps k n)
def byte (n x : Nat) : Nat := steps 8 (n ^^^ (x * 256))
def crcFrom (n : Nat) (l : List Nat) : Nat := l.foldl byte n
def crc (l : List Nat) : Nat := crcFrom 65535 l

theorem xor_lt {a b : Nat} (ha : a < 65536) (hb : b < 65536) : a ^^^ b < 65536 := Nat.xor_lt_two_pow (n := 16) ha hb
theorem step_lt {n : Nat} (h : n < 65536) : step n < 65536 := by
  unfold step
  split
  · exact xor_lt (by omega) (by omega)
  · omega
theorem steps_lt {n : Nat} (h : n < 65536) : ∀ k, steps k n < 65536
  | 0 => h
  | k + 1 => step_lt (steps_lt h k)
theorem byte_lt {n x : Nat} (h : n < 65536) (hx : x < 256) : byte n x < 65536 := steps_lt (xor_lt h (by omega)) 8
theorem crcFrom_cons (n x : Nat) (r : List Nat) : crcFrom n (x :: r) = crcFrom (byte n x) r := by simp [crcFrom]
theorem crcFrom_lt {n : Nat} (l : List Nat) (h : n < 65536) (hl : ∀ x ∈ l, x < 256) : crcFrom n l < 65536 := by
  induction l generalizing n with
  | nil => exact h
  | cons x r ih =>
    rw [crcFrom_cons]
    have hx := byte_lt h (hl x (by simp))
    generalize byte n x = q at *
    exact ih hx (fun y hy => hl y (by simp [hy]))
theorem first_lt : 65535 < 65536 := by omega
theorem crc_lt (l : List Nat) (hl : ∀ x ∈ l, x < 256) : crc l < 65536 := by
  unfold crc
  exact crcFrom_lt (n := 65535) l first_lt hl

theorem xor_odd (x : Nat) (h : x % 2 = 0) : (x ^^^ 4129) % 2 = 1 := by
  have := Nat.xor_mod_two_eq_one (a := x) (b := 4129)
  omega
theorem xor_cancel {x y c : Nat} (h : x ^^^ c = y ^^^ c) : x = y := by
  have := congrArg (· ^^^ c) h
  simpa [Nat.xor_assoc] using this
theorem step_inj {a b : Nat} (ha : a < 65536) (hb : b < 65536) (h : step a = step b) : a = b := by
  unfold step at h
  split at h <;> split at h
  · have := xor_cancel h; omega
  · have := xor_odd (a * 2 % 65536) (by omega); omega
  · have := xor_odd (b * 2 % 65536) (by omega); omega
  · omega
theorem steps_inj {a b : Nat} (ha : a < 65536) (hb : b < 65536) : ∀ k, steps k a = steps k b → a = b
  | 0, h => h
  | k + 1, h => steps_inj ha hb k (step_inj (steps_lt ha k) (steps_lt hb k) h)
theorem byte_inj {a b x : Nat} (ha : a < 65536) (hb : b < 65536) (hx : x < 256) (h : byte a x = byte b x) : a = b :=
  xor_cancel (steps_inj (xor_lt ha (by omega)) (xor_lt hb (by omega)) 8 h)
theorem byte_inj' {a x y : Nat} (ha : a < 65536) (hx : x < 256) (hy : y < 256) (h : byte a x = byte a y) : x = y := by
  have := steps_inj (xor_lt ha (by omega)) (xor_lt ha (by omega)) 8 h
  rw [Nat.xor_comm a, Nat.xor_comm a] at this
  have := xor_cancel this
  omega
theorem crcFrom_inj {a b : Nat} (l : List Nat) (ha : a < 65536) (hb : b < 65536) (hl : ∀ x ∈ l, x < 256) (h : crcFrom a l = crcFrom b l) : a = b := by
  induction l generalizing a b with
  | nil => exact h
  | cons x r ih =>
    have hx := hl x (by simp)
    rw [crcFrom_cons, crcFrom_cons] at h
    have h1 := byte_lt ha hx
    have h2 := byte_lt hb hx
    refine byte_inj ha hb hx ?_
    generalize byte a x = q at *
    generalize byte b x = p at *
    exact ih h1 h2 (fun y hy => hl y (by simp [hy])) h
/-- A byte that is another one gives another check number. -/
theorem crc_set (l : List Nat) (k : Nat) (hk : k < l.length) (y : Nat) (hy : y < 256) (hl : ∀ x ∈ l, x < 256) (h : crc (l.set k y) = crc l) : y = l[k] := by
  have e1 : l = l.take k ++ l[k] :: l.drop (k + 1) := by simp
  have e2 : l.set k y = l.take k ++ y :: l.drop (k + 1) := List.set_eq_take_append_cons_drop .. |>.trans (by rw [if_pos hk])
  rw [e2] at h
  conv at h => rhs; rw [e1]
  unfold crc at h
  have e3 : ∀ (n : Nat) (p s : List Nat) (x : Nat), crcFrom n (p ++ x :: s) = crcFrom (byte (crcFrom n p) x) s := fun n p s x => by simp [crcFrom]
  rw [e3, e3] at h
  have hp : crcFrom 65535 (l.take k) < 65536 := crcFrom_lt (n := 65535) (l.take k) first_lt (fun x hx => hl x (List.mem_of_mem_take hx))
  generalize crcFrom 65535 (l.take k) = q at *
  have hlk : l[k] < 256 := hl _ (List.getElem_mem hk)
  have := crcFrom_inj (l.drop (k + 1)) (byte_lt hp hy) (byte_lt hp hlk) (fun x hx => hl x (List.mem_of_mem_drop hx)) h
  exact byte_inj' hp hy hlk this
theorem crc_snoc (l : List Nat) (x : Nat) : crc (l ++ [x]) = byte (crc l) x := by simp [crc, crcFrom]

/- Messages and frames. -/
structure Msg where
  kind : Nat
  level : Nat
  name : Nat
  finding : Bool
structure Frm where
  data : Bool
  seq : Nat
  m : Msg
def none0 : Msg := ⟨0, 0, 0, false⟩
def maxL (k : Nat) : Nat := if k = 1 ∨ k = 2 ∨ k = 3 then 9 else 0
def minN (k : Nat) : Nat := if k = 2 then 1 else 0
def maxN (k : Nat) : Nat := if k = 2 ∨ k = 3 ∨ k = 6 then 1000 else 0
def mayBe (m : Msg) : Prop := 1 ≤ m.kind ∧ m.kind ≤ 7 ∧ m.level ≤ maxL m.kind ∧ minN m.kind ≤ m.name ∧ m.name ≤ maxN m.kind ∧ (m.finding = true → m.kind = 2)
def fits (f : Frm) : Prop := f.seq < 65536 ∧ (f.data = true → mayBe f.m) ∧ (f.data = false → f.m = none0)
def body (f : Frm) : List Nat :=
  if f.data then [1, f.seq / 256, f.seq % 256, f.m.kind, f.m.level, f.m.finding.toNat, f.m.name / 256, f.m.name % 256] else [2, f.seq / 256, f.seq % 256]
def sealed (l : List Nat) : List Nat := l ++ [crc l / 256, crc l % 256]
def enc (f : Frm) : List Nat := sealed (body f)
end Go.Proofs.YtlfijfodklhplaaGreat.Fr
