import Derived.Test.YtlfijfodklhplaaGreatAk02
/- Walk of sign: what the owner of a list writes. -/
namespace Go.Proofs.YtlfijfodklhplaaGreat
open Go.RowKit
set_option linter.unusedVariables false

def sgn (i k : Nat) : Nat := if k % 3 = 0 then i % 256 else if k % 3 = 1 then i / 256 % 256 else 201
theorem sgn_lt (i k : Nat) : sgn i k < 256 := by unfold sgn; split; omega; split <;> omega

set_option maxRecDepth 100000 in
set_option maxHeartbeats 1000000 in
theorem sign_any (i k : Nat) (hi : (i : Int) < 4611686018427387904) (hk : (k : Int) < 4611686018427387904) (w : World) :
    Calls Tryz.prog 47 #[.int .i64 (i : Int), .int .i64 (k : Int)] w fun e w' => e = .returned (.int .u8 ((sgn i k : Nat) : Int)) ∧ w = w' := by
  have h3 : k % 3 = 0 ∨ k % 3 = 1 ∨ k % 3 = 2 := by omega
  rcases h3 with h | h | h
  · have HS : Hid (IntKind.u8.wrap (i : Int) = ((sgn i k : Nat) : Int)) := by
      show IntKind.u8.wrap (i : Int) = _
      rw [IntKind.wrap_u8', sgn, if_pos h]; omega
    have h0 : (((k : Int) % 3) == 0) = true := by rw [beq_iff_eq]; omega
    clear h
    go_enter Tryz.func47, Tryz.ntmps47
    go_wp2
    go_ret
    exact ⟨ret_int HS.out, rfl⟩
  · have HS : Hid (IntKind.u8.wrap ((i : Int) / 256) = ((sgn i k : Nat) : Int)) := by
      show IntKind.u8.wrap ((i : Int) / 256) = _
      rw [IntKind.wrap_u8', sgn, if_neg (by omega), if_pos h]; omega
    have h0 : (((k : Int) % 3) == 0) = false := by rw [beq_eq_false_iff_ne]; omega
    have h1 : (((k : Int) % 3) == 1) = true := by rw [beq_iff_eq]; omega
    clear h
    go_enter Tryz.func47, Tryz.ntmps47
    go_wp2
    go_ret
    exact ⟨ret_int HS.out, rfl⟩
  · have HS : Hid ((201 : Int) = ((sgn i k : Nat) : Int)) := by
      show (201 : Int) = _
      rw [sgn, if_neg (by omega), if_neg (by omega)]; rfl
    have h0 : (((k : Int) % 3) == 0) = false := by rw [beq_eq_false_iff_ne]; omega
    have h1 : (((k : Int) % 3) == 1) = false := by rw [beq_eq_false_iff_ne]; omega
    clear h
    go_enter Tryz.func47, Tryz.ntmps47
    go_wp2
    go_ret
    exact ⟨ret_int HS.out, rfl⟩
end Go.Proofs.YtlfijfodklhplaaGreat
/- Lists that their owner writes over: four of them, each in a block of its own or in a shared one. -/
namespace Go.Proofs.YtlfijfodklhplaaGreat
open Go.RowKit
set_option linter.unusedVariables false

/-- The first m places of block g hold the marks of list i. -/
def Marked (w : World) (g i m : Nat) : Prop := ∀ p, p < m → w.cell? ⟨g, p, none⟩ = some (bv (sgn i p))
theorem Marked.set {w : World} {g i m : Nat} (h : Marked w g i m) (g' p : Nat) : Marked (w.setCell ⟨g', p, none⟩ (bv (sgn i p))) g i m := by
  intro q hq
  by_cases he : (⟨g', p, none⟩ : Addr) = ⟨g, q, none⟩
  · rw [he]
    have hp : p = q := by injection he
    subst hp
    exact World.cell?_setCell_same _ _ _ (h p hq)
  · rw [World.cell?_setCell_other _ _ _ _ he]
    exact h q hq
theorem Marked.keep {ex : Nat → Prop} {w w' : World} {g i m : Nat} (h : Marked w g i m) (k : Keep ex w w') (hg : g < w.heap.size) (hn : ¬ ex g) : Marked w' g i m :=
  fun p hp => (k.cell g p hg hn).trans (h p hp)

/-- A list: nil, or at the head of a block: its block, its length, its room. -/
structure Lst where
  b : Option Nat
  n : Nat
  c : Nat
def Lst.val (t : Lst) : Value := match t.b with
  | none => .slice none 0 0
  | some g => .slice (some ⟨g, 0, none⟩) t.n t.c
/-- Whether it is what it says: nil has no places. -/
def Lst.ok (w : World) (t : Lst) : Prop := match t.b with
  | none => t.n = 0
  | some g => Room w g 5 t.n
def Lst.marked (w : World) (i : Nat) (t : Lst) : Prop := match t.b with
  | none => True
  | some g => Marked w g i t.n

/-- In the middle of the writing: the lists before the k-th are written. -/
structure St (W0 wr : World) (S : List Lst) (i k : Nat) : Prop where
  keep : Keep (fun b => ∃ t ∈ S, t.b = some b) W0 wr
  ok : ∀ t ∈ S, t.ok wr
  done : ∀ j t, j < k → S[j]? = some t → t.marked wr i
theorem St.set {W0 wr : World} {S : List Lst} {i k : Nat} (h : St W0 wr S i k) (g p : Nat) (hg : ∃ t ∈ S, t.b = some g) : St W0 (wr.setCell ⟨g, p, none⟩ (bv (sgn i p))) S i k := by
  refine ⟨h.keep.setCell (p := ⟨g, p, none⟩) (fun _ => hg) _, fun t ht => ?_, fun j t hj ht => ?_⟩
  · have := h.ok t ht
    unfold Lst.ok at this ⊢
    cases hb : t.b with
    | none => rw [hb] at this; exact this
    | some b => rw [hb] at this; exact this.set _ _ rfl
  · have := h.done j t hj ht
    unfold Lst.marked at this ⊢
    cases hb : t.b with
    | none => trivial
    | some b => rw [hb] at this; exact this.set _ _
theorem St.drew {W0 wr : World} {S : List Lst} {i k : Nat} (h : St W0 wr S i k) : St W0 wr.drew S i k := ⟨h.keep.drew, h.ok, h.done⟩
theorem St.next {W0 wr : World} {S : List Lst} {i k : Nat} (h : St W0 wr S i k) (t : Lst) (ht : S[k]? = some t) (hm : t.marked wr i) : St W0 wr S i (k + 1) := by
  refine ⟨h.keep, h.ok, fun j u hj hu => ?_⟩
  by_cases e : j = k
  · subst e; rw [ht] at hu; cases hu; exact hm
  · exact h.done j u (by omega) hu
theorem room_after {w w' : World} {g g1 : Nat} {e : TypeId} {m : Nat} (h : Room w g1 e m) (h' : g1 = g → Room w' g1 e m) (k : Keep (only g) w w') : Room w' g1 e m := by
  by_cases e : g1 = g
  · exact h' e
  · exact h.keep k (fun x => e x)
theorem Marked.more {w : World} {g i q : Nat} (h : Marked w g i q) (hc : ∃ v, w.cell? ⟨g, q, none⟩ = some v) : Marked (w.setCell ⟨g, q, none⟩ (bv (sgn i q))) g i (q + 1) := by
  intro p hp
  by_cases e : p = q
  · subst e
    obtain ⟨v, hv⟩ := hc
    exact World.cell?_setCell_same _ _ _ hv
  · exact h.set g q p (by omega)
end Go.Proofs.YtlfijfodklhplaaGreat
/- Walk of the book's bytes. -/
namespace Go.Proofs.YtlfijfodklhplaaGreat
open Go.RowKit
set_option linter.unusedVariables false

theorem sheets_info : (Tryz.prog.info? 106).map (fun i => (i.zero, i.size, i.bytes)) = some (some (.slice none 0 0), 1, 24) := by kernel_rfl

/-- The book's row of sheets: nil, or a row of its own. -/
def RowIs (w : World) (a0 : Option Addr) (na ca : Nat) (e : TypeId) (VA : List Value) (out : Nat → Prop) : Prop :=
  (a0 = none ∧ na = 0 ∧ ca = 0 ∧ VA = []) ∨ ∃ ab, a0 = some ⟨ab, 0, none⟩ ∧ VBuf w ab e 1 VA ca ∧ VA.length = na ∧ ¬ out ab

/-- What stands behind the writing, once the row of sheets has one more. -/
theorem bytes_end {w wr w4 : World} {G : Nat → Prop} {yb nb ab na : Nat} {a0 : Option Addr} {S : List Lst} {O : Obj} {c' : Nat} {V : List Value} {p0 p1 p2 p3 p4 p5 p6 p7 : Value}
    (byb : Blk wr yb #[p0, p1, p2, p3, p4, p5, p6, p7] 73) (hyg : ¬ G yb) (hyl : yb < w.heap.size) (k1 : Keep G w wr) (bnb : Blk wr nb (S.map Lst.val).toArray 56) (hnb : w.heap.size ≤ nb) (h4 : S.length = 4)
    (hsl : ∀ t ∈ S, (t.n : Int) ≤ 140737488351310) (hmk : ∀ t ∈ S, t.marked wr na) (hbl : ∀ t ∈ S, ∀ b, t.b = some b → b < wr.heap.size) (hnew : ∀ t ∈ S, ∀ b, t.b = some b → G b ∨ w.heap.size ≤ b)
    (ha : ∀ b, a0 = some ⟨b, 0, none⟩ → ¬ G b ∧ b ≠ yb ∧ b < w.heap.size) (hab : a0 = some ⟨ab, 0, none⟩ ∨ ab = wr.heap.size + 1) (hk4 : Keep (fun b => a0 = some ⟨b, 0, none⟩) (wr.alloc O) w4) (hb4 : VBuf w4 ab 106 1 V c') :
    Blk (w4.setCell ⟨yb, 2, none⟩ (.slice (some ⟨ab, 0, none⟩) (na + 1) c')) yb #[p0, p1, .slice (some ⟨ab, 0, none⟩) (na + 1) c', p3, p4, p5, p6, p7] 73 ∧
    VBuf (w4.setCell ⟨yb, 2, none⟩ (.slice (some ⟨ab, 0, none⟩) (na + 1) c')) ab 106 1 V c' ∧ (a0 = some ⟨ab, 0, none⟩ ∨ w.heap.size ≤ ab) ∧
    Blk (w4.setCell ⟨yb, 2, none⟩ (.slice (some ⟨ab, 0, none⟩) (na + 1) c')) nb (S.map Lst.val).toArray 56 ∧ w.heap.size ≤ nb ∧ nb ≠ ab ∧ S.length = 4 ∧
    (∀ t ∈ S, t.marked (w4.setCell ⟨yb, 2, none⟩ (.slice (some ⟨ab, 0, none⟩) (na + 1) c')) na ∧ (t.n : Int) ≤ 140737488351310 ∧ ∀ b, t.b = some b → (G b ∨ w.heap.size ≤ b) ∧ b ≠ ab ∧ b < (w4.setCell ⟨yb, 2, none⟩ (.slice (some ⟨ab, 0, none⟩) (na + 1) c')).heap.size) ∧
    Keep (fun b => G b ∨ b = yb ∨ a0 = some ⟨b, 0, none⟩) w (w4.setCell ⟨yb, 2, none⟩ (.slice (some ⟨ab, 0, none⟩) (na + 1) c')) := by
  have hz1 := k1.size
  have hz4 := hk4.size
  simp only [World.size_alloc] at hz4
  have hnl := bnb.lt
  have hya : ¬ a0 = some ⟨yb, 0, none⟩ := fun e => (ha yb e).2.1 rfl
  have haby : ab ≠ yb := by
    rcases hab with e | e
    · exact (ha ab e).2.1
    · omega
  have ks : Keep (only yb) w4 (w4.setCell ⟨yb, 2, none⟩ (.slice (some ⟨ab, 0, none⟩) (na + 1) c')) := (Keep.refl (only yb) w4).setCell (p := ⟨yb, 2, none⟩) (fun _ => rfl) _
  have kw : Keep (fun b => a0 = some ⟨b, 0, none⟩) wr w4 := ((Keep.refl _ wr).alloc O).trans hk4
  refine ⟨(byb.keep kw hya).set 2 _, hb4.keep ks (fun e => haby e), ?_, (bnb.keep kw (fun e => by have := (ha nb e).2.2; omega)).keep ks (fun e => by simp only [only] at e; omega), hnb, ?_, h4, fun t ht => ⟨?_, hsl t ht, fun b hb => ⟨hnew t ht b hb, ?_, ?_⟩⟩, ?_⟩
  · rcases hab with e | e
    · exact Or.inl e
    · exact Or.inr (by omega)
  · rcases hab with e | e
    · have := (ha ab e).2.2; omega
    · omega
  · have hm := hmk t ht
    unfold Lst.marked at hm ⊢
    cases hb : t.b with
    | none => trivial
    | some b =>
      rw [hb] at hm
      have h1 := hbl t ht b hb
      have h2 := hnew t ht b hb
      refine (Marked.keep hm kw h1 (fun e => ?_)).keep ks (by have := kw.size; omega) (fun e => ?_)
      · have h3 := ha b e
        rcases h2 with h2 | h2
        · exact h3.1 h2
        · omega
      · simp only [only] at e
        rcases h2 with h2 | h2
        · exact hyg (e ▸ h2)
        · omega
  · have h1 := hbl t ht b hb
    have h2 := hnew t ht b hb
    rcases hab with e | e
    · have h3 := ha ab e
      rcases h2 with h2 | h2
      · intro e'; exact h3.1 (e' ▸ h2)
      · omega
    · omega
  · have h1 := hbl t ht b hb
    simp only [World.size_setCell]
    omega
  · exact ((k1.mono (ex' := fun b => G b ∨ b = yb ∨ a0 = some ⟨b, 0, none⟩) (fun i hi e => Or.inl e)).trans (kw.mono (fun i hi e => Or.inr (Or.inr e)))).setCell (p := ⟨yb, 2, none⟩) (fun _ => Or.inr (Or.inl rfl)) _

set_option maxRecDepth 100000 in
set_option maxHeartbeats 4000000 in
theorem bytes_row (yb g c : Nat) (l : List Nat) (a0 : Option Addr) (na ca : Nat) (VA : List Value) (p0 p1 p3 p4 p5 p6 p7 : Value) (w : World) (hyb : Blk w yb #[p0, p1, .slice a0 na ca, p3, p4, p5, p6, p7] 73) (hyg : yb ≠ g)
    (hra : RowIs w a0 na ca 106 VA (fun b => b = g ∨ b = yb)) (hb : BRow w g l c) (hcl : l.length ≤ c)
    (hlen : (l.length : Int) ≤ 140737488351300) (hna : (na : Int) < 1099511627776) :
    Calls Tryz.prog 127 #[.pointer (some ⟨yb, 2, none⟩), .slice (some ⟨g, 0, none⟩) l.length c] w fun e w' =>
      e = .returned (.tuple #[]) ∧ ∃ (S : List Lst) (nb ab ca' : Nat),
        Blk w' yb #[p0, p1, .slice (some ⟨ab, 0, none⟩) (na + 1) ca', p3, p4, p5, p6, p7] 73 ∧
        VBuf w' ab 106 1 (VA ++ [.slice (some ⟨nb, 0, none⟩) 4 4]) ca' ∧ (a0 = some ⟨ab, 0, none⟩ ∨ w.heap.size ≤ ab) ∧
        Blk w' nb (S.map Lst.val).toArray 56 ∧ w.heap.size ≤ nb ∧ nb ≠ ab ∧ S.length = 4 ∧
        (∀ t ∈ S, t.marked w' na ∧ (t.n : Int) ≤ 140737488351310 ∧ ∀ b, t.b = some b → (b = g ∨ w.heap.size ≤ b) ∧ b ≠ ab ∧ b < w'.heap.size) ∧
        Keep (fun b => b = g ∨ b = yb ∨ a0 = some ⟨b, 0, none⟩) w w' := by
  have hy := hyb.cell 2
  simp at hy
  have hyl := hyb.lt
  have hna2 : (na : Int) < 4611686018427387904 := by omega
  have HYB : Unit → Blk w yb #[p0, p1, .slice a0 na ca, p3, p4, p5, p6, p7] 73 := fun _ => hyb
  have HRA : Unit → RowIs w a0 na ca 106 VA (fun b => b = g ∨ b = yb) := fun _ => hra
  have HNA : Unit → (na : Int) < 1099511627776 := fun _ => hna
  clear hyb hra hna
  have hgl := hb.lt
  go_enter Tryz.func127, Tryz.ntmps127
  go_wp2_with fail
  refine (sign_any na l.length hna2 (by omega) _).mono ?_
  rintro e w' ⟨rfl, rfl⟩
  go_wp2_with fail
  refine (sign_any na (l.length + 1) hna2 (by omega) _).mono ?_
  rintro e w' ⟨rfl, rfl⟩
  go_wp2_with fail
  refine (sign_any na (l.length + 2) hna2 (by omega) _).mono ?_
  rintro e w' ⟨rfl, rfl⟩
  obtain ⟨x, hx⟩ : ∃ x, sgn na l.length = x := ⟨_, rfl⟩
  obtain ⟨y, hy'⟩ : ∃ x, sgn na (l.length + 1) = x := ⟨_, rfl⟩
  obtain ⟨z, hz⟩ : ∃ x, sgn na (l.length + 2) = x := ⟨_, rfl⟩
  rw [hx, hy', hz]
  clear hx hy' hz
  go_wp2_with (first
    | (at_builtin; refine wpList_append_any _ rfl (.tmp 31) (.tmp 33) 56 rfl 5 (.int .u8 0) 1 1 Tryz.underlying56 u8_info rfl g l.length c rfl (l.map bv) (by simp) (hb.alloc _) ⟨w.heap.size, 0, none⟩ 1 1 rfl ([x].map bv) rfl (cells_list w ([x].map bv) 5 _ rfl) (bv_one _) (by omega) (by omega) ?_; intro g1 c1 w1 hb1 hc1 hd1 hk1)
    | (at_builtin; refine wpList_append_any _ rfl (.tmp 35) (.tmp 38) 56 rfl 5 (.int .u8 0) 1 1 Tryz.underlying56 u8_info rfl g l.length c rfl (l.map bv) (by simp) ((VBuf.after (hb.alloc _) hb1 hd1).alloc _) ⟨w1.heap.size, 0, none⟩ 2 2 rfl ([x, y].map bv) rfl (cells_list w1 ([x, y].map bv) 5 _ rfl) (bv_one _) (by omega) (by omega) ?_; intro g2 c2 w2 hb2 hc2 hd2 hk2)
    | (at_builtin; refine wpList_append_any _ rfl (.tmp 40) (.tmp 44) 56 rfl 5 (.int .u8 0) 1 1 Tryz.underlying56 u8_info rfl g l.length c rfl (l.map bv) (by simp) ((VBuf.after ((VBuf.after (hb.alloc _) hb1 hd1).alloc _) hb2 hd2).alloc _) ⟨w2.heap.size, 0, none⟩ 3 3 rfl ([x, y, z].map bv) rfl (cells_list w2 ([x, y, z].map bv) 5 _ rfl) (bv_one _) (by omega) (by omega) ?_; intro g3 c3 w3 hb3 hc3 hd3 hk3))
  have hbA := VBuf.after (hb.alloc (.cells #[.int .u8 (x : Int)] 5)) hb1 hd1
  have hbB := VBuf.after (hbA.alloc (.cells #[.int .u8 (x : Int), .int .u8 (y : Int)] 5)) hb2 hd2
  have hbC := VBuf.after (hbB.alloc (.cells #[.int .u8 (x : Int), .int .u8 (y : Int), .int .u8 (z : Int)] 5)) hb3 hd3
  have z1 := hk1.size
  have z2 := hk2.size
  have z3 := hk3.size
  simp only [World.size_alloc] at z1 z2 z3
  have R0 : Room w3 g 5 c := by simpa using hbC.room
  have R1 : Room w3 g1 5 (l.length + 1) := by
    have r := room_after (w' := w2) (((by simpa using hb1.room : Room w1 g1 5 c1).less hc1)) (fun e => by rw [e]; exact (by simpa using hbB.room : Room w2 g 5 c).less (by rcases hd1 with ⟨_, rfl⟩ | ⟨e', _⟩; exact hc1; simp only [World.size_alloc] at e'; omega)) (((Keep.refl (only g) w1).alloc _).trans hk2)
    exact room_after r (fun e => by rw [e]; exact R0.less (by rcases hd1 with ⟨_, rfl⟩ | ⟨e', _⟩; exact hc1; simp only [World.size_alloc] at e'; omega)) (((Keep.refl (only g) w2).alloc _).trans hk3)
  have R2 : Room w3 g2 5 (l.length + 2) :=
    room_after ((by simpa using hb2.room : Room w2 g2 5 c2).less hc2) (fun e => by rw [e]; exact R0.less (by rcases hd2 with ⟨_, rfl⟩ | ⟨e', _⟩; exact hc2; simp only [World.size_alloc] at e'; omega)) (((Keep.refl (only g) w2).alloc _).trans hk3)
  have R3 : Room w3 g3 5 (l.length + 3) := (by simpa using hb3.room : Room w3 g3 5 c3).less hc3
  obtain ⟨S, hS⟩ : ∃ S : List Lst, S = [⟨some g, l.length, c⟩, ⟨some g1, l.length + 1, c1⟩, ⟨some g2, l.length + 2, c2⟩, ⟨some g3, l.length + 3, c3⟩] := ⟨_, rfl⟩
  have hblk : Blk (w3.alloc (.cells (S.map Lst.val).toArray 56)) w3.heap.size (S.map Lst.val).toArray 56 := Blk.new _ _ _
  have hval : (S.map Lst.val).toArray = #[.slice (some ⟨g, 0, none⟩) l.length c, .slice (some ⟨g1, 0, none⟩) (l.length + 1) c1, .slice (some ⟨g2, 0, none⟩) (l.length + 2) c2, .slice (some ⟨g3, 0, none⟩) (l.length + 3) c3] := by rw [hS]; rfl
  rw [← hval]
  have hok : ∀ t ∈ S, t.ok w3 := by
    rw [hS]
    intro t ht
    simp only [List.mem_cons, List.not_mem_nil, or_false] at ht
    rcases ht with rfl | rfl | rfl | rfl
    · exact R0.less hcl
    · exact R1
    · exact R2
    · exact R3
  have hsl : ∀ t ∈ S, (t.n : Int) ≤ 140737488351310 := by
    rw [hS]
    intro t ht
    simp only [List.mem_cons, List.not_mem_nil, or_false] at ht
    rcases ht with rfl | rfl | rfl | rfl <;> simp only <;> omega
  have h4 : S.length = 4 := by rw [hS]; rfl
  have hnb : ∀ t ∈ S, ∀ b, t.b = some b → b < w3.heap.size := fun t ht b hb => by
    have := hok t ht
    unfold Lst.ok at this
    rw [hb] at this
    exact this.lt
  have HNEW : Unit → (∀ t ∈ S, ∀ b, t.b = some b → b = g ∨ w.heap.size ≤ b) := fun _ => by
    rw [hS]
    intro t ht b hb
    simp only [List.mem_cons, List.not_mem_nil, or_false] at ht
    rcases ht with rfl | rfl | rfl | rfl <;> simp only [Option.some.injEq] at hb <;> subst hb
    · exact Or.inl rfl
    · rcases hd1 with ⟨e, _⟩ | ⟨e, _⟩
      · exact Or.inl e
      · rw [e]; simp only [World.size_alloc]; exact Or.inr (by omega)
    · rcases hd2 with ⟨e, _⟩ | ⟨e, _⟩
      · exact Or.inl e
      · rw [e]; simp only [World.size_alloc]; exact Or.inr (by omega)
    · rcases hd3 with ⟨e, _⟩ | ⟨e, _⟩
      · exact Or.inl e
      · rw [e]; simp only [World.size_alloc]; exact Or.inr (by omega)
  have HK : Unit → Keep (only g) w w3 := fun _ => (((((Keep.refl (only g) w).alloc _).trans hk1).alloc _).trans hk2 |>.alloc _).trans hk3
  have HFST : Unit → S.head? = some ⟨some g, l.length, c⟩ := fun _ => by rw [hS]; rfl
  have st0 : St (w3.alloc (.cells (S.map Lst.val).toArray 56)) (w3.alloc (.cells (S.map Lst.val).toArray 56)) S na 0 :=
    ⟨Keep.refl _ _, fun t ht => by
      have := hok t ht
      unfold Lst.ok at this ⊢
      cases hb : t.b with
      | none => rw [hb] at this; exact this
      | some b => rw [hb] at this; exact this.keep ((Keep.refl nil w3).alloc _) (fun e => e), fun j t hj => by omega⟩
  have HY : Unit → w3.cell? ⟨yb, 2, none⟩ = some (.slice a0 na ca) := fun _ => ((HK ()).cell yb 2 hyl hyg).trans hy
  have hz3 : w.heap.size ≤ w3.heap.size := by omega
  clear R0 R1 R2 R3 hbA hbB hbC hb1 hb2 hb3 hd1 hd2 hd3 hk1 hk2 hk3 hok hval hS hb hc1 hc2 hc3 z1 z2 z3 hy
  have HSL : Unit → ∀ t ∈ S, (t.n : Int) ≤ 140737488351310 := fun _ => hsl
  have HNB : Unit → ∀ t ∈ S, ∀ b, t.b = some b → b < w3.heap.size := fun _ => hnb
  have HBL : Unit → Blk (w3.alloc (.cells (S.map Lst.val).toArray 56)) w3.heap.size (S.map Lst.val).toArray 56 := fun _ => hblk
  have H4 : Unit → S.length = 4 := fun _ => h4
  clear hsl hnb hblk h4
  go_loopw [10] (fun j wr => ∃ k : Nat, k ≤ 4 ∧ j = .int .i64 (k : Int) ∧ St (w3.alloc (.cells (S.map Lst.val).toArray 56)) wr S na k) (fun j _ => 4 - (intOf j).toNat)
  case atStart => exact ⟨0, by omega, rfl, st0⟩
  case round =>
    obtain ⟨k, hk, rfl, hst⟩ := hrel
    by_cases hk4 : k < 4
    · obtain ⟨t, ht⟩ : ∃ t, S[k]? = some t := ⟨S[k]'(by rw [H4 ()]; exact hk4), List.getElem?_eq_getElem _⟩
      have htm : t ∈ S := List.mem_of_getElem? ht
      have hcell : wr.cell? ⟨w3.heap.size, k, none⟩ = some t.val := by
        have := ((HBL ()).keep hst.keep (fun ⟨u, hu, hb⟩ => by have := HNB () u hu _ hb; omega)).cell k
        rw [this, List.getElem?_toArray, List.getElem?_map, ht]; rfl
      have hkI : (k : Int) < 4 := by omega
      cases hb : t.b with
      | none =>
        have hv : t.val = .slice none 0 0 := by unfold Lst.val; rw [hb]
        rw [hv] at hcell
        have hmk : t.marked wr na := by unfold Lst.marked; rw [hb]; trivial
        have st1 := hst.next t ht hmk
        have HST : Unit → St (w3.alloc (.cells (S.map Lst.val).toArray 56)) wr S na (k + 1) := fun _ => st1
        clear hst st1 hmk hv hb ht htm
        go_wp2_with fail
        go_loopw [11] (fun p wi => p = .int .i64 0 ∧ wi = wr) (fun _ _ => 0)
        case atStart => exact ⟨rfl, rfl⟩
        case round =>
          obtain ⟨rfl, rfl⟩ := hrel
          go_wp2
          go_roundw
          case rel => exact ⟨k + 1, by omega, by go_num, HST ()⟩
          case measure => simp [intOf]; omega
      | some g' =>
        have hv : t.val = .slice (some ⟨g', 0, none⟩) t.n t.c := by unfold Lst.val; rw [hb]
        have hsl := HSL () t htm
        have hdone : ∀ wi, Marked wi g' na t.n → t.marked wi na := fun wi h => by unfold Lst.marked; rw [hb]; exact h
        have HD : Unit → ∀ wi, Marked wi g' na t.n → t.marked wi na := fun _ => hdone
        have HT : Unit → S[k]? = some t ∧ t ∈ S ∧ t.b = some g' := fun _ => ⟨ht, htm, hb⟩
        have HV : Unit → t.val = .slice (some ⟨g', 0, none⟩) t.n t.c := fun _ => hv
        have HST : Unit → St (w3.alloc (.cells (S.map Lst.val).toArray 56)) wr S na k := fun _ => hst
        rw [hv] at hcell
        clear hst hdone ht htm hb hv
        go_wp2_with fail
        go_loopw [11] (fun p wi => ∃ q : Nat, q ≤ t.n ∧ p = .int .i64 (q : Int) ∧ St (w3.alloc (.cells (S.map Lst.val).toArray 56)) wi S na k ∧ Marked wi g' na q) (fun p _ => t.n - (intOf p).toNat)
        case atStart => exact ⟨0, by omega, rfl, HST (), fun p hp => by omega⟩
        case round =>
          obtain ⟨q, hq, rfl, hst, hmk⟩ := hrel
          clear hcell HST
          have hcell : wr.cell? ⟨w3.heap.size, k, none⟩ = some (.slice (some ⟨g', 0, none⟩) t.n t.c) := by
            have := ((HBL ()).keep hst.keep (fun ⟨u, hu, hb⟩ => by have := HNB () u hu _ hb; omega)).cell k
            rw [this, List.getElem?_toArray, List.getElem?_map, (HT ()).1, ← HV ()]; rfl
          have hroom : Room wr g' 5 t.n := by
            have := hst.ok t (HT ()).2.1
            unfold Lst.ok at this
            rw [(HT ()).2.2] at this
            exact this
          by_cases hqt : q < t.n
          · obtain ⟨v0, hv0⟩ := hroom.some q hqt
            have hfr := hroom.frozen q
            have hne : ¬ g' = w3.heap.size := by have := HNB () t (HT ()).2.1 g' (HT ()).2.2; omega
            have HS2 : Unit → St (w3.alloc (.cells (S.map Lst.val).toArray 56)) (wr.setCell ⟨g', q, none⟩ (bv (sgn na q))) S na k := fun _ => hst.set g' q ⟨t, (HT ()).2.1, (HT ()).2.2⟩
            have HM2 : Unit → Marked (wr.setCell ⟨g', q, none⟩ (bv (sgn na q))) g' na (q + 1) := fun _ => hmk.more ⟨v0, hv0⟩
            have hqI : (q : Int) < 4611686018427387904 := by omega
            clear hst hmk hroom
            go_wp2_with fail
            go_region_with (go_at_call 47; refine (sign_any na q hna2 hqI _).mono ?_; rintro e w' ⟨rfl, rfl⟩)
            all_goals
              go_wp2
              go_roundw
              case rel => exact ⟨q + 1, by omega, by go_num, (HS2 ()).drew, HM2 ()⟩
              case measure => simp [intOf]; omega
          · have eq : q = t.n := by omega
            subst eq
            have HS2 : Unit → St (w3.alloc (.cells (S.map Lst.val).toArray 56)) wr S na (k + 1) := fun _ => hst.next t (HT ()).1 (HD () wr hmk)
            clear hst hmk hroom
            go_wp2
            go_roundw
            case rel => exact ⟨k + 1, by omega, by go_num, HS2 ()⟩
            case measure => simp [intOf]; omega
    · have e4 : k = 4 := by omega
      subst e4
      have hex : ∀ b, (∃ t ∈ S, t.b = some b) → b = g ∨ w.heap.size ≤ b := fun b ⟨t, ht, hb⟩ => HNEW () t ht b hb
      have k1 : Keep (only g) w wr := ((HK ()).alloc _).trans' hst.keep (fun i hi e => by rcases hex i e with h | h; exact h; omega)
      have byb := (HYB ()).keep k1 (fun e => hyg e)
      have hcy := byb.cell 2
      have hfy := byb.frozen 2
      simp at hcy
      have hzr := k1.size
      have hkr := hst.keep.size
      simp only [World.size_alloc] at hkr
      have bnb := (HBL ()).keep hst.keep (fun ⟨u, hu, hb⟩ => by have := HNB () u hu _ hb; omega)
      have hmk : ∀ t ∈ S, t.marked wr na := fun t ht => by
        obtain ⟨j, hj, e⟩ := List.getElem_of_mem ht
        exact hst.done j t (by have := H4 (); omega) (by rw [List.getElem?_eq_getElem hj, e])
      have hbl : ∀ t ∈ S, ∀ b, t.b = some b → b < wr.heap.size := fun t ht b hb => by have := HNB () t ht b hb; omega
      have HF : Unit → Blk wr yb #[p0, p1, .slice a0 na ca, p3, p4, p5, p6, p7] 73 ∧ Keep (only g) w wr ∧ Blk wr w3.heap.size (S.map Lst.val).toArray 56 ∧ (∀ t ∈ S, t.marked wr na) ∧ (∀ t ∈ S, ∀ b, t.b = some b → b < wr.heap.size) := fun _ => ⟨byb, k1, bnb, hmk, hbl⟩
      clear hst st0 byb bnb hmk hbl hex k1
      rcases HRA () with ⟨rfl, rfl, rfl, rfl⟩ | ⟨ab, rfl, hva, hvl, hab⟩
      · clear HRA
        go_wp2_with (at_builtin; refine wpList_append_new _ rfl (.tmp 75) (.tmp 77) 64 rfl 106 (.slice none 0 0) 1 24 Tryz.underlying64 sheets_info rfl rfl ⟨wr.heap.size, 0, none⟩ 1 1 (by omega) rfl [.slice (some ⟨w3.heap.size, 0, none⟩) 4 4] rfl (cells_list wr [.slice (some ⟨w3.heap.size, 0, none⟩) 4 4] 106 _ rfl) (by omega) (by omega) ?_; intro c' w4 hb4 hc4 hk4; have hcy4 := ((((HF ()).1.old _).keep hk4 (fun e => e)).cell 2); have hfy4 := ((((HF ()).1.old _).keep hk4 (fun e => e)).frozen 2); simp at hcy4)
        go_end0
        obtain ⟨byb, k1, bnb, hmk, hbl⟩ := HF ()
        rw [World.size_alloc] at hb4
        exact ⟨rfl, S, w3.heap.size, wr.heap.size + 1, c', bytes_end (G := only g) byb hyg hyl k1 bnb hz3 (H4 ()) (HSL ()) hmk hbl (HNEW ()) (fun b e => by cases e) (Or.inr rfl) (hk4.mono (fun i hi e => e.elim)) hb4⟩
      · have hvr := hva.keep (HF ()).2.1 (fun e => hab (Or.inl e))
        have habl := hva.lt
        have hna3 := HNA ()
        have HV : Unit → (VA.length = na ∧ ¬ (ab = g ∨ ab = yb)) := fun _ => ⟨hvl, hab⟩
        clear HRA hva hvl hab
        go_wp2_with (at_builtin; refine wpList_append_any _ rfl (.tmp 75) (.tmp 77) 64 rfl 106 (.slice none 0 0) 1 24 Tryz.underlying64 sheets_info rfl ab na ca rfl VA (by rw [(HV ()).1]; omega) (hvr.alloc _) ⟨wr.heap.size, 0, none⟩ 1 1 rfl [.slice (some ⟨w3.heap.size, 0, none⟩) 4 4] rfl (cells_list wr [.slice (some ⟨w3.heap.size, 0, none⟩) 4 4] 106 _ rfl) (by intro u hu; simp at hu; subst hu; rfl) (by omega) (by omega) ?_; intro ab' c' w4 hb4 hc4 hd4 hk4; have hcy4 := ((((HF ()).1.old _).keep hk4 (fun e => (HV ()).2 (Or.inr e.symm))).cell 2); have hfy4 := ((((HF ()).1.old _).keep hk4 (fun e => (HV ()).2 (Or.inr e.symm))).frozen 2); simp at hcy4)
        go_end0
        obtain ⟨byb, k1, bnb, hmk, hbl⟩ := HF ()
        exact ⟨rfl, S, w3.heap.size, ab', c', bytes_end (G := only g) byb hyg hyl k1 bnb hz3 (H4 ()) (HSL ()) hmk hbl (HNEW ()) (fun b e => by cases e; exact ⟨fun e => (HV ()).2 (Or.inl e), fun e => (HV ()).2 (Or.inr e), habl⟩) (by rcases hd4 with ⟨rfl, _⟩ | ⟨rfl, _⟩; exact Or.inl rfl; exact Or.inr (World.size_alloc _ _)) (hk4.mono (fun i hi e => by simp only [only] at e; rw [e])) hb4⟩
end Go.Proofs.YtlfijfodklhplaaGreat
