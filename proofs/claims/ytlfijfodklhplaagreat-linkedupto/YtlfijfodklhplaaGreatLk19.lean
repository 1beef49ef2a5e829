import Derived.Test.YtlfijfodklhplaaGreatLk09
import Derived.Test.YtlfijfodklhplaaGreatLk17
/- Rows of edges; walk of lentEdges. -/
namespace Go.Proofs.YtlfijfodklhplaaGreat
open Go.RowKit
set_option linter.unusedVariables false

structure Ed where
  a : Int
  b : Int
  wt : Int
def Ed.cells (e : Ed) : List Value := [.int .i64 e.a, .int .i64 e.b, .int .i64 e.wt]
def ecells (l : List Ed) : List Value := l.flatMap Ed.cells
theorem ecells_len (l : List Ed) : (ecells l).length = l.length * 3 := by
  induction l with
  | nil => rfl
  | cons e t ih => simp only [ecells, List.flatMap_cons, List.length_append, List.length_cons] at ih ⊢; rw [ih]; simp [Ed.cells]; omega
theorem ecells_append (l m : List Ed) : ecells (l ++ m) = ecells l ++ ecells m := by simp [ecells]
theorem ecells_one (l : List Ed) : ∀ u ∈ ecells l, u.oneCell' = true := by
  intro u hu
  obtain ⟨e, _, h⟩ := List.mem_flatMap.1 hu
  simp only [Ed.cells, List.mem_cons, List.not_mem_nil, or_false] at h
  rcases h with rfl | rfl | rfl <;> rfl
/-- Edges in a row of memory. -/
def ERow (w : World) (b o : Nat) (l : List Ed) : Prop := ∀ j u, (ecells l)[j]? = some u → w.cell? ⟨b, o + j, none⟩ = some u
theorem ERow.keep {ex : Nat → Prop} {w w' : World} {b o : Nat} {l : List Ed} (h : ERow w b o l) (k : Keep ex w w') (hb : b < w.heap.size) (hn : ¬ ex b) : ERow w' b o l := fun j u hu => (k.cell b (o + j) hb hn).trans (h j u hu)
abbrev EBuf (w : World) (g : Nat) (l : List Ed) (c : Nat) : Prop := VBuf w g 30 3 (ecells l) c
theorem ebuf_row {w : World} {g : Nat} {l : List Ed} {c : Nat} (h : EBuf w g l c) : ERow w g 0 l := fun j u hu => by rw [Nat.zero_add]; exact h.cell j u hu
theorem cells_erow {w : World} {b o : Nat} {l : List Ed} (h : ERow w b o l) : ∀ j u, (ecells l)[j]? = some u → w.cell? ((⟨b, o, none⟩ : Addr).add j) = some u := fun j u hu => by
  rw [Addr.add_lit]; exact h j u hu
theorem edge_info : (Tryz.prog.info? 30).map (fun i => (i.zero, i.size, i.bytes)) = some (some (.agg #[.int .i64 0, .int .i64 0, .int .i64 0]), 3, 24) := by kernel_rfl
theorem cells_elist (w : World) (vs : List Value) (t : TypeId) (n : Nat) (hn : n = w.heap.size) : ∀ j u, vs[j]? = some u → (w.alloc (.cells vs.toArray t)).cell? ((⟨n, 0, none⟩ : Addr).add j) = some u := by
  intro j u hu
  subst hn
  rw [Addr.add_lit, Nat.zero_add, World.cell?_alloc_new, List.getElem?_toArray]
  exact hu

def emarks (n : Nat) : List Ed := (List.range n).map (fun i : Nat => ⟨900 + (i : Int), 901, -902⟩)
theorem emarks_len (n : Nat) : (emarks n).length = n := by simp [emarks]
theorem emarks_succ (n : Nat) : emarks (n + 1) = emarks n ++ [⟨900 + (n : Int), 901, -902⟩] := by simp [emarks, List.range_succ]

/-- What 'lent' has so far: nothing, or a row of its own. -/
def EState (w wr : World) (l : List Ed) (i : Nat) (v : Value) : Prop := Keep nil w wr ∧
  ((l ++ emarks i = [] ∧ v = .slice none 0 0) ∨ ∃ g c, v = .slice (some ⟨g, 0, none⟩) (l.length + i) c ∧ w.heap.size ≤ g ∧ EBuf wr g (l ++ emarks i) c ∧ l.length + i ≤ c)

set_option maxRecDepth 100000 in
theorem lentE_nil (w : World) : Calls Tryz.prog 73 #[.slice none 0 0] w fun e w' => e = .returned (.slice none 0 0) ∧ w = w' := by
  have hnil : ∀ (w : World) (a : Option Addr) (n c : Nat), (binOp .eql 26 (.slice a n c) (.slice none 0 0)).run Tryz.prog w = .ok (.bool a.isNone) w := fun w a n c => Lib.run_eql_slice_nil w 26 30 a n c 0 0 Tryz.underlying26
  go_enter Tryz.func73, Tryz.ntmps73
  go_wp2
  go_ret
  exact ⟨rfl, rfl⟩

set_option maxRecDepth 100000 in
set_option maxHeartbeats 1000000 in
theorem lentE_any (bb bo cap : Nat) (l : List Ed) (w : World) (hrow : ERow w bb bo l) (hbb : bb < w.heap.size) (hlen : (l.length : Int) ≤ 5864062014700) (hne : 0 < l.length) :
    Calls Tryz.prog 73 #[.slice (some ⟨bb, bo, none⟩) l.length cap] w fun e w' =>
      ∃ g c, e = .returned (.slice (some ⟨g, 0, none⟩) l.length c) ∧ w.heap.size ≤ g ∧ EBuf w' g (l ++ emarks 8) c ∧ l.length + 8 ≤ c ∧ Keep nil w w' := by
  have hnil : ∀ (w : World) (a : Option Addr) (n c : Nat), (binOp .eql 26 (.slice a n c) (.slice none 0 0)).run Tryz.prog w = .ok (.bool a.isNone) w := fun w a n c => Lib.run_eql_slice_nil w 26 30 a n c 0 0 Tryz.underlying26
  go_enter Tryz.func73, Tryz.ntmps73
  go_wp2_with (at_builtin; refine wpList_append_new _ rfl (.tmp 7) (.tmp 8) 26 rfl 30 (.agg #[.int .i64 0, .int .i64 0, .int .i64 0]) 3 24 Tryz.underlying26 edge_info rfl rfl ⟨bb, bo, none⟩ l.length cap hne rfl (ecells l) (ecells_len l) (cells_erow hrow) (by omega) (by omega) ?_; intro k' w1 hb1 hc1 hk1)
  clear hnil
  go_loopw [3, 4] (fun v i wr => ∃ k : Nat, k ≤ 8 ∧ i = .int .i64 (k : Int) ∧ EState w wr l k v) (fun _ i _ => 8 - (intOf i).toNat)
  case atStart => exact ⟨0, by omega, rfl, hk1, Or.inr ⟨w.heap.size, k', rfl, Nat.le_refl _, by simpa [emarks] using hb1, by omega⟩⟩
  case round =>
    obtain ⟨k, hk, rfl, hkeep, hst⟩ := hrel
    have hsz := hkeep.size
    have hkI : (k : Int) ≤ 8 := by omega
    rcases hst with ⟨he, rfl⟩ | ⟨g, c, rfl, hg, hb, hc⟩
    · exfalso
      have := (List.append_eq_nil_iff.1 he).1
      subst this
      simp at hne
    · have hgl := hb.lt
      by_cases hk8 : k < 8
      · go_wp2_with (at_builtin; refine wpList_append_any _ rfl (.tmp 14) (.tmp 18) 26 rfl 30 (.agg #[.int .i64 0, .int .i64 0, .int .i64 0]) 3 24 Tryz.underlying26 edge_info rfl g (l.length + k) c rfl (ecells (l ++ emarks k)) (by rw [ecells_len]; simp [emarks_len]) (hb.alloc _) ⟨wr.heap.size, 0, none⟩ 1 1 rfl (ecells [⟨900 + (k : Int), 901, -902⟩]) rfl (cells_elist wr (ecells [⟨900 + (k : Int), 901, -902⟩]) 30 _ rfl) (ecells_one _) (by omega) (by omega) ?_; intro g' c' w2 hb2 hc2 hd2 hk2)
        go_roundw
        case rel =>
          refine ⟨k + 1, by omega, by go_num, hkeep.trans' (((Keep.refl (only g) wr).alloc _).trans hk2) (fun i hi e => by simp only [only] at e; omega), Or.inr ⟨g', c', by rw [Nat.add_assoc], ?_, ?_, by omega⟩⟩
          · rcases hd2 with ⟨rfl, _⟩ | ⟨rfl, _⟩
            · exact hg
            · simp; omega
          · have e : ecells (l ++ emarks (k + 1)) = ecells (l ++ emarks k) ++ (ecells [⟨900 + (k : Int), 901, -902⟩]) := by rw [emarks_succ, ← List.append_assoc, ecells_append]
            show VBuf _ _ _ _ _ _
            rw [e]; exact hb2
        case measure => simp [intOf]; omega
      · have e8 : k = 8 := by omega
        subst e8
        go_wp2
        go_ret
        exact ⟨g, c, rfl, hg, hb, hc, hkeep⟩

set_option maxRecDepth 100000 in
set_option maxHeartbeats 1000000 in
theorem lentE_empty (ad : Addr) (cap : Nat) (w : World) :
    Calls Tryz.prog 73 #[.slice (some ad) 0 cap] w fun e w' =>
      ∃ g c, e = .returned (.slice (some ⟨g, 0, none⟩) 0 c) ∧ w.heap.size ≤ g ∧ EBuf w' g ([] ++ emarks 8) c ∧ 8 ≤ c ∧ Keep nil w w' := by
  have hnil : ∀ (w : World) (a : Option Addr) (n c : Nat), (binOp .eql 26 (.slice a n c) (.slice none 0 0)).run Tryz.prog w = .ok (.bool a.isNone) w := fun w a n c => Lib.run_eql_slice_nil w 26 30 a n c 0 0 Tryz.underlying26
  go_enter Tryz.func73, Tryz.ntmps73
  go_wp2
  clear hnil
  go_loopw [3, 4] (fun v i wr => ∃ k : Nat, k ≤ 8 ∧ i = .int .i64 (k : Int) ∧ EState w wr [] k v) (fun _ i _ => 8 - (intOf i).toNat)
  case atStart => exact ⟨0, by omega, rfl, Keep.refl _ _, Or.inl ⟨rfl, rfl⟩⟩
  case round =>
    obtain ⟨k, hk, rfl, hkeep, hst⟩ := hrel
    have hsz := hkeep.size
    have hkI : (k : Int) ≤ 8 := by omega
    rcases hst with ⟨he, rfl⟩ | ⟨g, c, rfl, hg, hb, hc⟩
    · have hk0 : k = 0 := by
        have := congrArg List.length he
        simp [emarks_len] at this
        exact this
      subst hk0
      go_wp2_with (at_builtin; refine wpList_append_new _ rfl (.tmp 14) (.tmp 18) 26 rfl 30 (.agg #[.int .i64 0, .int .i64 0, .int .i64 0]) 3 24 Tryz.underlying26 edge_info rfl rfl ⟨wr.heap.size, 0, none⟩ 1 1 (by omega) rfl (ecells [⟨900, 901, -902⟩]) rfl (cells_elist wr (ecells [⟨900, 901, -902⟩]) 30 _ rfl) (by omega) (by omega) ?_; intro c' w2 hb2 hc2 hk2)
      go_roundw
      case rel =>
        rw [World.size_alloc] at hb2
        exact ⟨1, by omega, by go_num, (hkeep.alloc _).trans hk2, Or.inr ⟨wr.heap.size + 1, c', rfl, by omega, hb2, by simpa using hc2⟩⟩
      case measure => simp [intOf]
    · have hgl := hb.lt
      simp only [List.length_nil, Nat.zero_add] at hb hc ⊢
      by_cases hk8 : k < 8
      · go_wp2_with (at_builtin; refine wpList_append_any _ rfl (.tmp 14) (.tmp 18) 26 rfl 30 (.agg #[.int .i64 0, .int .i64 0, .int .i64 0]) 3 24 Tryz.underlying26 edge_info rfl g k c rfl (ecells ([] ++ emarks k)) (by rw [ecells_len]; simp [emarks_len]) (hb.alloc _) ⟨wr.heap.size, 0, none⟩ 1 1 rfl (ecells [⟨900 + (k : Int), 901, -902⟩]) rfl (cells_elist wr (ecells [⟨900 + (k : Int), 901, -902⟩]) 30 _ rfl) (ecells_one _) (by omega) (by omega) ?_; intro g' c' w2 hb2 hc2 hd2 hk2)
        go_roundw
        case rel =>
          refine ⟨k + 1, by omega, by go_num, hkeep.trans' (((Keep.refl (only g) wr).alloc _).trans hk2) (fun i hi e => by simp only [only] at e; omega), Or.inr ⟨g', c', by simp, ?_, ?_, by simpa using hc2⟩⟩
          · rcases hd2 with ⟨rfl, _⟩ | ⟨rfl, _⟩
            · exact hg
            · simp; omega
          · have e : ecells ([] ++ emarks (k + 1)) = ecells ([] ++ emarks k) ++ (ecells [⟨900 + (k : Int), 901, -902⟩]) := by rw [emarks_succ, ← List.append_assoc, ecells_append]
            show VBuf _ _ _ _ _ _
            rw [e]; exact hb2
        case measure => simp [intOf]; omega
      · have e8 : k = 8 := by omega
        subst e8
        go_wp2
        go_ret
        exact ⟨g, c, rfl, hg, hb, hc, hkeep⟩
end Go.Proofs.YtlfijfodklhplaaGreat
/- Lists of edges that their owner writes over; append as one step of a region that draws. -/
namespace Go.Proofs.YtlfijfodklhplaaGreat
open Go.RowKit
set_option linter.unusedVariables false

theorem step_append_any {P : Program} {ops : Array Oper} {o : Oper} {a : Act} {w : World} {K : Act → World → Prop} {Q : Exit → Act → World → Prop} {E : Prop}
    (hg : o.guard = none) (s x : Operand) (t : TypeId) (hop : o.op = Op.call { callee := Callee.builtin Builtin.append, args := #[s, x], argTypes := #[t, t] })
    (e : TypeId) (z : Value) (size bytes : Nat) (ht : P.underlying t = some (.slice e)) (hinfo : (P.info? e).map (fun i => (i.zero, i.size, i.bytes)) = some (some z, size, bytes)) (hzs : z.cells.size = size)
    (g n c : Nat) (hs : a.eval s = .slice (some ⟨g, 0, none⟩) n c) (vs : List Value) (hn : vs.length = n * size) (hb : VBuf w g e size vs c) (ad : Addr) (m c' : Nat) (hx : a.eval x = .slice (some ad) m c') (news : List Value) (hm : news.length = m * size)
    (hc : ∀ j u, news[j]? = some u → w.cell? (ad.add j) = some u) (h1 : ∀ u ∈ news, u.oneCell' = true) (hbytes : (n + m) * bytes ≤ 140737488355328) (h63 : n + m ≤ 9223372036854775807)
    (hK : ∀ g' k' w', VBuf w' g' e size (vs ++ news) k' → n + m ≤ k' → ((g' = g ∧ k' = c) ∨ (g' = w.heap.size ∧ c < n + m ∧ Keep nil w w')) → Keep (only g) w w' → K (a.put o.dst (.slice (some ⟨g', 0, none⟩) (n + m) k')) w') :
    if Region.wanted o (yielded ops a.tmps) = true then Oper.wp P o a w K Q else E := by
  have hw : Region.wanted o (yielded ops a.tmps) = true := by simp [Region.wanted, hg]
  rw [if_pos hw]
  obtain ⟨g', k', w', hrun, r1, r2, r3, r4⟩ := run_append_any (P := P) w t o.type e z size bytes ht hinfo hzs g n c vs hn hb ad m c' news hm hc h1 hbytes h63
  unfold Oper.wp
  simp [execOp, hop, resolve, invoke, builtin, hs, hx, hrun, Result.andThen]
  exact hK g' k' w' r1 r2 r3 r4

theorem Keep.al {ex : Nat → Prop} {w w' : World} {o : Obj} (h : Keep ex (w.alloc o) w') : Keep ex w w' := ((Keep.refl ex w).alloc o).trans h
theorem Keep.dr {ex : Nat → Prop} {w w' : World} (h : Keep ex w.drew w') : Keep ex w w' := ((Keep.refl ex w).drew).trans h

/-- An edge with which the owner of list i marks it. -/
def eMark (i : Nat) : Ed := ⟨-7070 - (i : Int), 0, 0⟩
/-- What is held while a row grows: nothing old is touched but the row's own block, whose edges stand; the mark's box stands. -/
structure EdS (w w' : World) (g c zb i : Nat) (l : List Ed) : Prop where
  keep : Keep (only g) w w'
  buf : EBuf w' g l c
  z : Blk w' zb (eMark i).cells.toArray 30
  ne : zb ≠ g
theorem EdS.alloc {w w' : World} {g c zb i : Nat} {l : List Ed} (h : EdS w w' g c zb i l) (o : Obj) : EdS w (w'.alloc o) g c zb i l :=
  ⟨h.keep.alloc o, h.buf.alloc o, h.z.keep ((Keep.refl nil w').alloc o) (fun e => e), h.ne⟩
theorem EdS.drew {w w' : World} {g c zb i : Nat} {l : List Ed} (h : EdS w w' g c zb i l) : EdS w w'.drew g c zb i l :=
  ⟨h.keep.drew, h.buf.drew, h.z.keep ((Keep.refl nil w').drew) (fun e => e), h.ne⟩
theorem EdS.app {w w' w1 : World} {g c zb i g1 k1 m : Nat} {l : List Ed} {news : List Value} (h : EdS w w' g c zb i l) (hb : VBuf w1 g1 30 3 (ecells l ++ news) k1) (hd : (g1 = g ∧ k1 = c) ∨ (g1 = w'.heap.size ∧ c < m ∧ Keep nil w' w1)) (k : Keep (only g) w' w1) : EdS w w1 g c zb i l :=
  ⟨h.keep.trans k, VBuf.after h.buf hb hd, h.z.keep k (fun e => h.ne e), h.ne⟩
theorem EdS.ald {w X : World} {g c zb i : Nat} {l : List Ed} {o : Obj} (h : EdS w X.drew g c zb i l) : EdS w (X.alloc o).drew g c zb i l := EdS.alloc h o
theorem held_in {w w' : World} {g c zb i : Nat} {l : List Ed} (h : w'.cell? ⟨zb, 0, none⟩ = some (.int .i64 (-7070 - (i : Int))) ∧ w'.cell? ⟨zb, 1, none⟩ = some (.int .i64 0) ∧ w'.cell? ⟨zb, 2, none⟩ = some (.int .i64 0) ∧ EdS w w' g c zb i l) : EdS w w' g c zb i l := h.2.2.2
theorem held_of {w w' : World} {g c zb i : Nat} {l : List Ed} (h : EdS w w' g c zb i l) : w'.cell? ⟨zb, 0, none⟩ = some (.int .i64 (-7070 - (i : Int))) ∧ w'.cell? ⟨zb, 1, none⟩ = some (.int .i64 0) ∧ w'.cell? ⟨zb, 2, none⟩ = some (.int .i64 0) ∧ EdS w w' g c zb i l :=
  ⟨h.z.cell 0, h.z.cell 1, h.z.cell 2, h⟩

/-- A row of cells that the walk itself has made, behind B. -/
structure At (B : Nat) (w : World) (N : Nat) (vs : List Value) : Prop where
  ge : B ≤ N
  lt : N < w.heap.size
  cell : ∀ j u, vs[j]? = some u → w.cell? ((⟨N, 0, none⟩ : Addr).add j) = some u
theorem At.new {B : Nat} {w : World} {N : Nat} {vs : List Value} {t : TypeId} (hN : N = w.heap.size) (hB : B ≤ w.heap.size) : At B (w.alloc (.cells vs.toArray t)) N vs :=
  ⟨by omega, by simp; omega, cells_elist w vs t N hN⟩
theorem At.newd {B : Nat} {w : World} {N : Nat} {vs : List Value} {t : TypeId} (hN : N = w.heap.size) (hB : B ≤ w.heap.size) : At B (w.alloc (.cells vs.toArray t)).drew N vs :=
  ⟨by omega, by simp; omega, cells_elist w vs t N hN⟩
theorem At.kp {B g : Nat} {w w' : World} {N : Nat} {vs : List Value} (k : Keep (only g) w w') (hg : g < B) (h : At B w N vs) : At B w' N vs :=
  ⟨h.ge, Nat.lt_of_lt_of_le h.lt k.size, fun j u hu => by
    have := h.cell j u hu
    rw [Addr.add_lit] at this ⊢
    exact (k.cell N (0 + j) h.lt (fun e => by simp only [only] at e; have := h.ge; omega)).trans this⟩
theorem At.al {B : Nat} {w : World} {N : Nat} {vs : List Value} {o : Obj} (h : At B w N vs) : At B (w.alloc o) N vs :=
  ⟨h.ge, by simp; have := h.lt; omega, fun j u hu => by
    have := h.cell j u hu
    rw [Addr.add_lit] at this ⊢
    exact (((Keep.refl nil w).alloc o).cell N (0 + j) h.lt (fun e => e)).trans this⟩
theorem At.ald {B : Nat} {w : World} {N : Nat} {vs : List Value} {o : Obj} (h : At B w.drew N vs) : At B (w.alloc o).drew N vs := At.al (o := o) h

/-- Whether a list of edges is what it says. -/
def Lst.okE (w : World) (t : Lst) : Prop := match t.b with
  | none => t.n = 0
  | some g => Room w g 30 (t.n * 3)
/-- Behind the making of the four lists, ahead of the writing. -/
structure Mid (w wx : World) (g zb i nl n0 : Nat) (S : List Lst) : Prop where
  keep : Keep (only g) w wx
  blk : Blk wx n0 (S.map Lst.val).toArray 26
  z : Blk wx zb (eMark i).cells.toArray 30
  four : S.length = 4
  ok : ∀ t ∈ S, t.okE wx
  sl : ∀ t ∈ S, t.n ≤ nl + 3
  new : ∀ t ∈ S, ∀ b, t.b = some b → b = g ∨ w.heap.size ≤ b
  ne : ∀ t ∈ S, ∀ b, t.b = some b → b ≠ n0 ∧ b ≠ zb
  far : w.heap.size ≤ n0
  apart : n0 ≠ zb
theorem mid_of {w w1 w2 w3 : World} {g c zb i g1 c1 g2 c2 g3 c3 : Nat} {l : List Ed} {v1 v2 v3 : List Value} (hs : EdS w (w3.alloc (.cells #[.slice (some ⟨g, 0, none⟩) l.length c, .slice (some ⟨g1, 0, none⟩) (l.length + 1) c1, .slice (some ⟨g2, 0, none⟩) (l.length + 2) c2, .slice (some ⟨g3, 0, none⟩) (l.length + 3) c3] 26)) g c zb i l) (hg : g < w.heap.size) (hz : zb = w.heap.size) (hz3 : w.heap.size < w3.heap.size) (hcl : l.length ≤ c)
    (h1 : VBuf w1 g1 30 3 v1 c1) (hc1 : l.length + 1 ≤ c1) (hd1 : (g1 = g ∧ c1 = c) ∨ w.heap.size < g1) (k12 : Keep (only g) w1 w2)
    (h2 : VBuf w2 g2 30 3 v2 c2) (hc2 : l.length + 2 ≤ c2) (hd2 : (g2 = g ∧ c2 = c) ∨ w.heap.size < g2) (k23 : Keep (only g) w2 w3)
    (h3 : VBuf w3 g3 30 3 v3 c3) (hc3 : l.length + 3 ≤ c3) (hd3 : (g3 = g ∧ c3 = c) ∨ w.heap.size < g3) :
    Mid w (w3.alloc (.cells #[.slice (some ⟨g, 0, none⟩) l.length c, .slice (some ⟨g1, 0, none⟩) (l.length + 1) c1, .slice (some ⟨g2, 0, none⟩) (l.length + 2) c2, .slice (some ⟨g3, 0, none⟩) (l.length + 3) c3] 26)) g zb i l.length w3.heap.size
      [⟨some g, l.length, c⟩, ⟨some g1, l.length + 1, c1⟩, ⟨some g2, l.length + 2, c2⟩, ⟨some g3, l.length + 3, c3⟩] := by
  have kn : Keep nil w3 (w3.alloc (.cells #[.slice (some ⟨g, 0, none⟩) l.length c, .slice (some ⟨g1, 0, none⟩) (l.length + 1) c1, .slice (some ⟨g2, 0, none⟩) (l.length + 2) c2, .slice (some ⟨g3, 0, none⟩) (l.length + 3) c3] 26)) := (Keep.refl nil w3).alloc _
  have R0 : Room (w3.alloc (.cells #[.slice (some ⟨g, 0, none⟩) l.length c, .slice (some ⟨g1, 0, none⟩) (l.length + 1) c1, .slice (some ⟨g2, 0, none⟩) (l.length + 2) c2, .slice (some ⟨g3, 0, none⟩) (l.length + 3) c3] 26)) g 30 (c * 3) := hs.buf.room
  have R1 : Room (w3.alloc (.cells #[.slice (some ⟨g, 0, none⟩) l.length c, .slice (some ⟨g1, 0, none⟩) (l.length + 1) c1, .slice (some ⟨g2, 0, none⟩) (l.length + 2) c2, .slice (some ⟨g3, 0, none⟩) (l.length + 3) c3] 26)) g1 30 ((l.length + 1) * 3) ∧ g1 < w3.heap.size := by
    rcases hd1 with ⟨rfl, rfl⟩ | h
    · exact ⟨R0.less (by omega), by omega⟩
    · have := ((h1.room.less (show (l.length + 1) * 3 ≤ c1 * 3 by omega)).keep k12 (fun e => by simp only [only] at e; omega)).keep k23 (fun e => by simp only [only] at e; omega)
      exact ⟨this.keep kn (fun e => e), this.lt⟩
  have R2 : Room (w3.alloc (.cells #[.slice (some ⟨g, 0, none⟩) l.length c, .slice (some ⟨g1, 0, none⟩) (l.length + 1) c1, .slice (some ⟨g2, 0, none⟩) (l.length + 2) c2, .slice (some ⟨g3, 0, none⟩) (l.length + 3) c3] 26)) g2 30 ((l.length + 2) * 3) ∧ g2 < w3.heap.size := by
    rcases hd2 with ⟨rfl, rfl⟩ | h
    · exact ⟨R0.less (by omega), by omega⟩
    · have := (h2.room.less (show (l.length + 2) * 3 ≤ c2 * 3 by omega)).keep k23 (fun e => by simp only [only] at e; omega)
      exact ⟨this.keep kn (fun e => e), this.lt⟩
  have R3 : Room (w3.alloc (.cells #[.slice (some ⟨g, 0, none⟩) l.length c, .slice (some ⟨g1, 0, none⟩) (l.length + 1) c1, .slice (some ⟨g2, 0, none⟩) (l.length + 2) c2, .slice (some ⟨g3, 0, none⟩) (l.length + 3) c3] 26)) g3 30 ((l.length + 3) * 3) ∧ g3 < w3.heap.size := ⟨(h3.room.less (by omega)).keep kn (fun e => e), h3.lt⟩
  refine ⟨hs.keep, Blk.new _ _ _, hs.z, rfl, fun t ht => ?_, fun t ht => ?_, fun t ht b hb => ?_, fun t ht b hb => ?_, by omega, by omega⟩
  · simp only [List.mem_cons, List.not_mem_nil, or_false] at ht
    rcases ht with rfl | rfl | rfl | rfl
    · exact R0.less (by show l.length * 3 ≤ c * 3; omega)
    · exact R1.1
    · exact R2.1
    · exact R3.1
  · simp only [List.mem_cons, List.not_mem_nil, or_false] at ht
    rcases ht with rfl | rfl | rfl | rfl <;> simp only <;> omega
  · simp only [List.mem_cons, List.not_mem_nil, or_false] at ht
    rcases ht with rfl | rfl | rfl | rfl <;> simp only [Option.some.injEq] at hb <;> subst hb
    · exact Or.inl rfl
    · rcases hd1 with ⟨e, _⟩ | h
      · exact Or.inl e
      · exact Or.inr (by omega)
    · rcases hd2 with ⟨e, _⟩ | h
      · exact Or.inl e
      · exact Or.inr (by omega)
    · rcases hd3 with ⟨e, _⟩ | h
      · exact Or.inl e
      · exact Or.inr (by omega)
  · have l1 := R1.2
    have l2 := R2.2
    have l3 := R3.2
    simp only [List.mem_cons, List.not_mem_nil, or_false] at ht
    rcases ht with rfl | rfl | rfl | rfl <;> simp only [Option.some.injEq] at hb <;> subst hb
    · omega
    · rcases hd1 with ⟨e, _⟩ | h <;> omega
    · rcases hd2 with ⟨e, _⟩ | h <;> omega
    · rcases hd3 with ⟨e, _⟩ | h <;> omega
/-- What a cell of a marked list of edges holds. -/
def emk (i p : Nat) : Value := if p % 3 = 0 then .int .i64 (-7070 - (i : Int)) else .int .i64 0
theorem emk0 (i q : Nat) : emk i (q * 3) = .int .i64 (-7070 - (i : Int)) := by unfold emk; rw [if_pos (by omega)]
theorem emk1 (i q : Nat) : emk i (q * 3 + 1) = .int .i64 0 := by unfold emk; rw [if_neg (by omega)]
theorem emk2 (i q : Nat) : emk i (q * 3 + 2) = .int .i64 0 := by unfold emk; rw [if_neg (by omega)]
/-- The first m places of block g hold the marks of list i. -/
def EMarked (w : World) (g i m : Nat) : Prop := ∀ p, p < m * 3 → w.cell? ⟨g, p, none⟩ = some (emk i p)
theorem EMarked.set {w : World} {g i m : Nat} (h : EMarked w g i m) (g' p : Nat) : EMarked (w.setCell ⟨g', p, none⟩ (emk i p)) g i m := by
  intro q hq
  by_cases he : (⟨g', p, none⟩ : Addr) = ⟨g, q, none⟩
  · rw [he]
    have hp : p = q := by injection he
    subst hp
    exact World.cell?_setCell_same _ _ _ (h p hq)
  · rw [World.cell?_setCell_other _ _ _ _ he]
    exact h q hq
theorem EMarked.keep {ex : Nat → Prop} {w w' : World} {g i m : Nat} (h : EMarked w g i m) (k : Keep ex w w') (hg : g < w.heap.size) (hn : ¬ ex g) : EMarked w' g i m :=
  fun p hp => (k.cell g p hg hn).trans (h p hp)
def Lst.markedE (w : World) (i : Nat) (t : Lst) : Prop := match t.b with
  | none => True
  | some g => EMarked w g i t.n
/-- An edge is written as a mark. -/
def put3 (w : World) (g i q : Nat) : World := ((w.setCell ⟨g, q * 3, none⟩ (emk i (q * 3))).setCell ⟨g, q * 3 + 1, none⟩ (emk i (q * 3 + 1))).setCell ⟨g, q * 3 + 2, none⟩ (emk i (q * 3 + 2))
theorem EMarked.put {w : World} {g i m : Nat} (h : EMarked w g i m) (g' q : Nat) : EMarked (put3 w g' i q) g i m := ((h.set g' _).set g' _).set g' _
theorem cell_set {w : World} {b p : Nat} {v u : Value} {q : Nat} (h : w.cell? ⟨b, q, none⟩ = some u) : ∃ u', (w.setCell ⟨b, p, none⟩ v).cell? ⟨b, q, none⟩ = some u' := by
  by_cases he : (⟨b, p, none⟩ : Addr) = ⟨b, q, none⟩
  · rw [he]; exact ⟨_, World.cell?_setCell_same _ _ _ h⟩
  · rw [World.cell?_setCell_other _ _ _ _ he]; exact ⟨_, h⟩
theorem EMarked.more {w : World} {g i q : Nat} (h : EMarked w g i q) (hr : Room w g 30 ((q + 1) * 3)) : EMarked (put3 w g i q) g i (q + 1) := by
  intro p hp
  by_cases e : p < q * 3
  · exact h.put g q p e
  · obtain ⟨u0, h0⟩ := hr.some (q * 3) (by omega)
    obtain ⟨u1, h1⟩ := hr.some (q * 3 + 1) (by omega)
    obtain ⟨u2, h2⟩ := hr.some (q * 3 + 2) (by omega)
    have hne : ∀ a b : Nat, a ≠ b → (⟨g, a, none⟩ : Addr) ≠ ⟨g, b, none⟩ := fun a b hab e => hab (by injection e)
    have hp3 : p = q * 3 ∨ p = q * 3 + 1 ∨ p = q * 3 + 2 := by omega
    rcases hp3 with rfl | rfl | rfl
    · unfold put3
      rw [World.cell?_setCell_other _ _ _ _ (hne _ _ (by omega)), World.cell?_setCell_other _ _ _ _ (hne _ _ (by omega))]
      exact World.cell?_setCell_same _ _ _ h0
    · unfold put3
      rw [World.cell?_setCell_other _ _ _ _ (hne _ _ (by omega))]
      obtain ⟨u', h'⟩ := cell_set (p := q * 3) (v := emk i (q * 3)) h1
      exact World.cell?_setCell_same _ _ _ h'
    · unfold put3
      obtain ⟨u', h'⟩ := cell_set (p := q * 3) (v := emk i (q * 3)) h2
      obtain ⟨u'', h''⟩ := cell_set (p := q * 3 + 1) (v := emk i (q * 3 + 1)) h'
      exact World.cell?_setCell_same _ _ _ h''

/-- In the middle of the writing: the lists before the k-th are written. -/
structure StE (W0 wr : World) (S : List Lst) (i k : Nat) : Prop where
  keep : Keep (fun b => ∃ t ∈ S, t.b = some b) W0 wr
  ok : ∀ t ∈ S, t.okE wr
  done : ∀ j t, j < k → S[j]? = some t → t.markedE wr i
theorem StE.put {W0 wr : World} {S : List Lst} {i k : Nat} (h : StE W0 wr S i k) (g q : Nat) (hg : ∃ t ∈ S, t.b = some g) : StE W0 (put3 wr g i q) S i k := by
  refine ⟨((h.keep.setCell (p := ⟨g, q * 3, none⟩) (fun _ => hg) _).setCell (p := ⟨g, q * 3 + 1, none⟩) (fun _ => hg) _).setCell (p := ⟨g, q * 3 + 2, none⟩) (fun _ => hg) _, fun t ht => ?_, fun j t hj ht => ?_⟩
  · have := h.ok t ht
    unfold Lst.okE at this ⊢
    cases hb : t.b with
    | none => rw [hb] at this; exact this
    | some b => rw [hb] at this; exact ((this.set _ _ rfl).set _ _ rfl).set _ _ rfl
  · have := h.done j t hj ht
    unfold Lst.markedE at this ⊢
    cases hb : t.b with
    | none => trivial
    | some b => rw [hb] at this; exact this.put g q
theorem StE.drew {W0 wr : World} {S : List Lst} {i k : Nat} (h : StE W0 wr S i k) : StE W0 wr.drew S i k := ⟨h.keep.drew, h.ok, h.done⟩
theorem StE.next {W0 wr : World} {S : List Lst} {i k : Nat} (h : StE W0 wr S i k) (t : Lst) (ht : S[k]? = some t) (hm : t.markedE wr i) : StE W0 wr S i (k + 1) := by
  refine ⟨h.keep, h.ok, fun j u hj hu => ?_⟩
  by_cases e : j = k
  · subst e; rw [ht] at hu; cases hu; exact hm
  · exact h.done j u (by omega) hu
theorem rolls_info : (Tryz.prog.info? 109).map (fun i => (i.zero, i.size, i.bytes)) = some (some (.slice none 0 0), 1, 24) := by kernel_rfl

/-- What stands behind the writing, once the row of sheets has one more. -/
theorem edges_end {w wr w4 : World} {G : Nat → Prop} {yb nb ab na : Nat} {a0 : Option Addr} {S : List Lst} {O : Obj} {c' : Nat} {V : List Value} {p0 p1 p2 p3 p4 p5 p6 p7 : Value}
    (byb : Blk wr yb #[p0, p1, p2, p3, p4, p5, p6, p7] 73) (hyg : ¬ G yb) (hyl : yb < w.heap.size) (k1 : Keep G w wr) (bnb : Blk wr nb (S.map Lst.val).toArray 26) (hnb : w.heap.size ≤ nb) (h4 : S.length = 4)
    (hsl : ∀ t ∈ S, (t.n : Int) ≤ 140737488351310) (hmk : ∀ t ∈ S, t.markedE wr na) (hbl : ∀ t ∈ S, ∀ b, t.b = some b → b < wr.heap.size) (hnew : ∀ t ∈ S, ∀ b, t.b = some b → G b ∨ w.heap.size ≤ b)
    (ha : ∀ b, a0 = some ⟨b, 0, none⟩ → ¬ G b ∧ b ≠ yb ∧ b < w.heap.size) (hab : a0 = some ⟨ab, 0, none⟩ ∨ ab = wr.heap.size + 1) (hk4 : Keep (fun b => a0 = some ⟨b, 0, none⟩) (wr.alloc O) w4) (hb4 : VBuf w4 ab 109 1 V c') :
    Blk (w4.setCell ⟨yb, 3, none⟩ (.slice (some ⟨ab, 0, none⟩) (na + 1) c')) yb #[p0, p1, p2, .slice (some ⟨ab, 0, none⟩) (na + 1) c', p4, p5, p6, p7] 73 ∧
    VBuf (w4.setCell ⟨yb, 3, none⟩ (.slice (some ⟨ab, 0, none⟩) (na + 1) c')) ab 109 1 V c' ∧ (a0 = some ⟨ab, 0, none⟩ ∨ w.heap.size ≤ ab) ∧
    Blk (w4.setCell ⟨yb, 3, none⟩ (.slice (some ⟨ab, 0, none⟩) (na + 1) c')) nb (S.map Lst.val).toArray 26 ∧ w.heap.size ≤ nb ∧ nb ≠ ab ∧ S.length = 4 ∧
    (∀ t ∈ S, t.markedE (w4.setCell ⟨yb, 3, none⟩ (.slice (some ⟨ab, 0, none⟩) (na + 1) c')) na ∧ (t.n : Int) ≤ 140737488351310 ∧ ∀ b, t.b = some b → (G b ∨ w.heap.size ≤ b) ∧ b ≠ ab ∧ b < (w4.setCell ⟨yb, 3, none⟩ (.slice (some ⟨ab, 0, none⟩) (na + 1) c')).heap.size) ∧
    Keep (fun b => G b ∨ b = yb ∨ a0 = some ⟨b, 0, none⟩) w (w4.setCell ⟨yb, 3, none⟩ (.slice (some ⟨ab, 0, none⟩) (na + 1) c')) := by
  have hz1 := k1.size
  have hz4 := hk4.size
  simp only [World.size_alloc] at hz4
  have hnl := bnb.lt
  have hya : ¬ a0 = some ⟨yb, 0, none⟩ := fun e => (ha yb e).2.1 rfl
  have haby : ab ≠ yb := by
    rcases hab with e | e
    · exact (ha ab e).2.1
    · omega
  have ks : Keep (only yb) w4 (w4.setCell ⟨yb, 3, none⟩ (.slice (some ⟨ab, 0, none⟩) (na + 1) c')) := (Keep.refl (only yb) w4).setCell (p := ⟨yb, 3, none⟩) (fun _ => rfl) _
  have kw : Keep (fun b => a0 = some ⟨b, 0, none⟩) wr w4 := ((Keep.refl _ wr).alloc O).trans hk4
  refine ⟨(byb.keep kw hya).set 3 _, hb4.keep ks (fun e => haby e), ?_, (bnb.keep kw (fun e => by have := (ha nb e).2.2; omega)).keep ks (fun e => by simp only [only] at e; omega), hnb, ?_, h4, fun t ht => ⟨?_, hsl t ht, fun b hb => ⟨hnew t ht b hb, ?_, ?_⟩⟩, ?_⟩
  · rcases hab with e | e
    · exact Or.inl e
    · exact Or.inr (by omega)
  · rcases hab with e | e
    · have := (ha ab e).2.2; omega
    · omega
  · have hm := hmk t ht
    unfold Lst.markedE at hm ⊢
    cases hb : t.b with
    | none => trivial
    | some b =>
      rw [hb] at hm
      have h1 := hbl t ht b hb
      have h2 := hnew t ht b hb
      refine (EMarked.keep hm kw h1 (fun e => ?_)).keep ks (by have := kw.size; omega) (fun e => ?_)
      · have h3 := ha b e
        rcases h2 with h2 | h2
        · exact h3.1 h2
        · omega
      · simp only [only] at e
        rcases h2 with h2 | h2
        · exact hyg (e ▸ h2)
        · omega
  · have h1 := hbl t ht b hb
    have h2 := hnew t ht b hb
    rcases hab with e | e
    · have h3 := ha ab e
      rcases h2 with h2 | h2
      · intro e'; exact h3.1 (e' ▸ h2)
      · omega
    · omega
  · have h1 := hbl t ht b hb
    simp only [World.size_setCell]
    omega
  · exact ((k1.mono (ex' := fun b => G b ∨ b = yb ∨ a0 = some ⟨b, 0, none⟩) (fun i hi e => Or.inl e)).trans (kw.mono (fun i hi e => Or.inr (Or.inr e)))).setCell (p := ⟨yb, 3, none⟩) (fun _ => Or.inr (Or.inl rfl)) _

end Go.Proofs.YtlfijfodklhplaaGreat
