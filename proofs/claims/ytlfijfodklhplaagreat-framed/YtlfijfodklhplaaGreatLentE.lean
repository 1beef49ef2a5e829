/- Rows of edges; walk of lentEdges. -/
import Derived.Test.YtlfijfodklhplaaGreatBytes
namespace Go.Proofs.YtlfijfodklhplaaGreat
open Go.RowKit
set_option linter.unusedVariables false

structure Ed where
  a : Int
  b : Int
  wt : Int
def Ed.cells (e : Ed) : List Value := [.int .i64 e.a, .int .i64 e.b, .int .i64 e.wt]
def ecells (l : List Ed) : List Value := l.flatMap Ed.cells
theorem ecells_len (l : List Ed) : (ecells l).length = l.length * 3 := by
  induction l with
  | nil => rfl
  | cons e t ih => simp only [ecells, List.flatMap_cons, List.length_append, List.length_cons] at ih ⊢; rw [ih]; simp [Ed.cells]; omega
theorem ecells_append (l m : List Ed) : ecells (l ++ m) = ecells l ++ ecells m := by simp [ecells]
theorem ecells_one (l : List Ed) : ∀ u ∈ ecells l, u.oneCell' = true := by
  intro u hu
  obtain ⟨e, _, h⟩ := List.mem_flatMap.1 hu
  simp only [Ed.cells, List.mem_cons, List.not_mem_nil, or_false] at h
  rcases h with rfl | rfl | rfl <;> rfl
/-- Edges in a row of memory. -/
def ERow (w : World) (b o : Nat) (l : List Ed) : Prop := ∀ j u, (ecells l)[j]? = some u → w.cell? ⟨b, o + j, none⟩ = some u
theorem ERow.keep {ex : Nat → Prop} {w w' : World} {b o : Nat} {l : List Ed} (h : ERow w b o l) (k : Keep ex w w') (hb : b < w.heap.size) (hn : ¬ ex b) : ERow w' b o l := fun j u hu => (k.cell b (o + j) hb hn).trans (h j u hu)
abbrev EBuf (w : World) (g : Nat) (l : List Ed) (c : Nat) : Prop := VBuf w g 30 3 (ecells l) c
theorem ebuf_row {w : World} {g : Nat} {l : List Ed} {c : Nat} (h : EBuf w g l c) : ERow w g 0 l := fun j u hu => by rw [Nat.zero_add]; exact h.cell j u hu
theorem cells_erow {w : World} {b o : Nat} {l : List Ed} (h : ERow w b o l) : ∀ j u, (ecells l)[j]? = some u → w.cell? ((⟨b, o, none⟩ : Addr).add j) = some u := fun j u hu => by
  rw [Addr.add_lit]; exact h j u hu
theorem edge_info : (Tryz.prog.info? 30).map (fun i => (i.zero, i.size, i.bytes)) = some (some (.agg #[.int .i64 0, .int .i64 0, .int .i64 0]), 3, 24) := by kernel_rfl
theorem cells_elist (w : World) (vs : List Value) (t : TypeId) (n : Nat) (hn : n = w.heap.size) : ∀ j u, vs[j]? = some u → (w.alloc (.cells vs.toArray t)).cell? ((⟨n, 0, none⟩ : Addr).add j) = some u := by
  intro j u hu
  subst hn
  rw [Addr.add_lit, Nat.zero_add, World.cell?_alloc_new, List.getElem?_toArray]
  exact hu

def emarks (n : Nat) : List Ed := (List.range n).map (fun i : Nat => ⟨900 + (i : Int), 901, -902⟩)
theorem emarks_len (n : Nat) : (emarks n).length = n := by simp [emarks]
theorem emarks_succ (n : Nat) : emarks (n + 1) = emarks n ++ [⟨900 + (n : Int), 901, -902⟩] := by simp [emarks, List.range_succ]

/-- What 'lent' has so far: nothing, or a row of its own. -/
def EState (w wr : World) (l : List Ed) (i : Nat) (v : Value) : Prop := Keep nil w wr ∧
  ((l ++ emarks i = [] ∧ v = .slice none 0 0) ∨ ∃ g c, v = .slice (some ⟨g, 0, none⟩) (l.length + i) c ∧ w.heap.size ≤ g ∧ EBuf wr g (l ++ emarks i) c ∧ l.length + i ≤ c)

set_option maxRecDepth 100000 in
theorem lentE_nil (w : World) : Calls Tryz.prog 73 #[.slice none 0 0] w fun e w' => e = .returned (.slice none 0 0) ∧ w = w' := by
  have hnil : ∀ (w : World) (a : Option Addr) (n c : Nat), (binOp .eql 26 (.slice a n c) (.slice none 0 0)).run Tryz.prog w = .ok (.bool a.isNone) w := fun w a n c => Lib.run_eql_slice_nil w 26 30 a n c 0 0 Tryz.underlying26
  go_enter Tryz.func73, Tryz.ntmps73
  go_wp2
  go_ret
  exact ⟨rfl, rfl⟩

set_option maxRecDepth 100000 in
set_option maxHeartbeats 1000000 in
theorem lentE_any (bb bo cap : Nat) (l : List Ed) (w : World) (hrow : ERow w bb bo l) (hbb : bb < w.heap.size) (hlen : (l.length : Int) ≤ 5864062014700) (hne : 0 < l.length) :
    Calls Tryz.prog 73 #[.slice (some ⟨bb, bo, none⟩) l.length cap] w fun e w' =>
      ∃ g c, e = .returned (.slice (some ⟨g, 0, none⟩) l.length c) ∧ w.heap.size ≤ g ∧ EBuf w' g (l ++ emarks 8) c ∧ l.length + 8 ≤ c ∧ Keep nil w w' := by
  have hnil : ∀ (w : World) (a : Option Addr) (n c : Nat), (binOp .eql 26 (.slice a n c) (.slice none 0 0)).run Tryz.prog w = .ok (.bool a.isNone) w := fun w a n c => Lib.run_eql_slice_nil w 26 30 a n c 0 0 Tryz.underlying26
  go_enter Tryz.func73, Tryz.ntmps73
  go_wp2_with (at_builtin; refine wpList_append_new _ rfl (.tmp 7) (.tmp 8) 26 rfl 30 (.agg #[.int .i64 0, .int .i64 0, .int .i64 0]) 3 24 Tryz.underlying26 edge_info rfl rfl ⟨bb, bo, none⟩ l.length cap hne rfl (ecells l) (ecells_len l) (cells_erow hrow) (by omega) (by omega) ?_; intro k' w1 hb1 hc1 hk1)
  clear hnil
  go_loopw [3, 4] (fun v i wr => ∃ k : Nat, k ≤ 8 ∧ i = .int .i64 (k : Int) ∧ EState w wr l k v) (fun _ i _ => 8 - (intOf i).toNat)
  case atStart => exact ⟨0, by omega, rfl, hk1, Or.inr ⟨w.heap.size, k', rfl, Nat.le_refl _, by simpa [emarks] using hb1, by omega⟩⟩
  case round =>
    obtain ⟨k, hk, rfl, hkeep, hst⟩ := hrel
    have hsz := hkeep.size
    have hkI : (k : Int) ≤ 8 := by omega
    rcases hst with ⟨he, rfl⟩ | ⟨g, c, rfl, hg, hb, hc⟩
    · exfalso
      have := (List.append_eq_nil_iff.1 he).1
      subst this
      simp at hne
    · have hgl := hb.lt
      by_cases hk8 : k < 8
      · go_wp2_with (at_builtin; refine wpList_append_any _ rfl (.tmp 14) (.tmp 18) 26 rfl 30 (.agg #[.int .i64 0, .int .i64 0, .int .i64 0]) 3 24 Tryz.underlying26 edge_info rfl g (l.length + k) c rfl (ecells (l ++ emarks k)) (by rw [ecells_len]; simp [emarks_len]) (hb.alloc _) ⟨wr.heap.size, 0, none⟩ 1 1 rfl (ecells [⟨900 + (k : Int), 901, -902⟩]) rfl (cells_elist wr (ecells [⟨900 + (k : Int), 901, -902⟩]) 30 _ rfl) (ecells_one _) (by omega) (by omega) ?_; intro g' c' w2 hb2 hc2 hd2 hk2)
        go_roundw
        case rel =>
          refine ⟨k + 1, by omega, by go_num, hkeep.trans' (((Keep.refl (only g) wr).alloc _).trans hk2) (fun i hi e => by simp only [only] at e; omega), Or.inr ⟨g', c', by rw [Nat.add_assoc], ?_, ?_, by omega⟩⟩
          · rcases hd2 with ⟨rfl, _⟩ | ⟨rfl, _⟩
            · exact hg
            · simp; omega
          · have e : ecells (l ++ emarks (k + 1)) = ecells (l ++ emarks k) ++ (ecells [⟨900 + (k : Int), 901, -902⟩]) := by rw [emarks_succ, ← List.append_assoc, ecells_append]
            show VBuf _ _ _ _ _ _
            rw [e]; exact hb2
        case measure => simp [intOf]; omega
      · have e8 : k = 8 := by omega
        subst e8
        go_wp2
        go_ret
        exact ⟨g, c, rfl, hg, hb, hc, hkeep⟩

set_option maxRecDepth 100000 in
set_option maxHeartbeats 1000000 in
theorem lentE_empty (ad : Addr) (cap : Nat) (w : World) :
    Calls Tryz.prog 73 #[.slice (some ad) 0 cap] w fun e w' =>
      ∃ g c, e = .returned (.slice (some ⟨g, 0, none⟩) 0 c) ∧ w.heap.size ≤ g ∧ EBuf w' g ([] ++ emarks 8) c ∧ 8 ≤ c ∧ Keep nil w w' := by
  have hnil : ∀ (w : World) (a : Option Addr) (n c : Nat), (binOp .eql 26 (.slice a n c) (.slice none 0 0)).run Tryz.prog w = .ok (.bool a.isNone) w := fun w a n c => Lib.run_eql_slice_nil w 26 30 a n c 0 0 Tryz.underlying26
  go_enter Tryz.func73, Tryz.ntmps73
  go_wp2
  clear hnil
  go_loopw [3, 4] (fun v i wr => ∃ k : Nat, k ≤ 8 ∧ i = .int .i64 (k : Int) ∧ EState w wr [] k v) (fun _ i _ => 8 - (intOf i).toNat)
  case atStart => exact ⟨0, by omega, rfl, Keep.refl _ _, Or.inl ⟨rfl, rfl⟩⟩
  case round =>
    obtain ⟨k, hk, rfl, hkeep, hst⟩ := hrel
    have hsz := hkeep.size
    have hkI : (k : Int) ≤ 8 := by omega
    rcases hst with ⟨he, rfl⟩ | ⟨g, c, rfl, hg, hb, hc⟩
    · have hk0 : k = 0 := by
        have := congrArg List.length he
        simp [emarks_len] at this
        exact this
      subst hk0
      go_wp2_with (at_builtin; refine wpList_append_new _ rfl (.tmp 14) (.tmp 18) 26 rfl 30 (.agg #[.int .i64 0, .int .i64 0, .int .i64 0]) 3 24 Tryz.underlying26 edge_info rfl rfl ⟨wr.heap.size, 0, none⟩ 1 1 (by omega) rfl (ecells [⟨900, 901, -902⟩]) rfl (cells_elist wr (ecells [⟨900, 901, -902⟩]) 30 _ rfl) (by omega) (by omega) ?_; intro c' w2 hb2 hc2 hk2)
      go_roundw
      case rel =>
        rw [World.size_alloc] at hb2
        exact ⟨1, by omega, by go_num, (hkeep.alloc _).trans hk2, Or.inr ⟨wr.heap.size + 1, c', rfl, by omega, hb2, by simpa using hc2⟩⟩
      case measure => simp [intOf]
    · have hgl := hb.lt
      simp only [List.length_nil, Nat.zero_add] at hb hc ⊢
      by_cases hk8 : k < 8
      · go_wp2_with (at_builtin; refine wpList_append_any _ rfl (.tmp 14) (.tmp 18) 26 rfl 30 (.agg #[.int .i64 0, .int .i64 0, .int .i64 0]) 3 24 Tryz.underlying26 edge_info rfl g k c rfl (ecells ([] ++ emarks k)) (by rw [ecells_len]; simp [emarks_len]) (hb.alloc _) ⟨wr.heap.size, 0, none⟩ 1 1 rfl (ecells [⟨900 + (k : Int), 901, -902⟩]) rfl (cells_elist wr (ecells [⟨900 + (k : Int), 901, -902⟩]) 30 _ rfl) (ecells_one _) (by omega) (by omega) ?_; intro g' c' w2 hb2 hc2 hd2 hk2)
        go_roundw
        case rel =>
          refine ⟨k + 1, by omega, by go_num, hkeep.trans' (((Keep.refl (only g) wr).alloc _).trans hk2) (fun i hi e => by simp only [only] at e; omega), Or.inr ⟨g', c', by simp, ?_, ?_, by simpa using hc2⟩⟩
          · rcases hd2 with ⟨rfl, _⟩ | ⟨rfl, _⟩
            · exact hg
            · simp; omega
          · have e : ecells ([] ++ emarks (k + 1)) = ecells ([] ++ emarks k) ++ (ecells [⟨900 + (k : Int), 901, -902⟩]) := by rw [emarks_succ, ← List.append_assoc, ecells_append]
            show VBuf _ _ _ _ _ _
            rw [e]; exact hb2
        case measure => simp [intOf]; omega
      · have e8 : k = 8 := by omega
        subst e8
        go_wp2
        go_ret
        exact ⟨g, c, rfl, hg, hb, hc, hkeep⟩
end Go.Proofs.YtlfijfodklhplaaGreat
