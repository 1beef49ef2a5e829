import Derived.Test.YtlfijfodklhplaaGreatMarksE
import Derived.Test.YtlfijfodklhplaaGreatReturnedE
import Derived.StillTailTactics
import Derived.Deep.QuietTactic
import Derived.BigQuiet
import Derived.BigRegion
import Derived.Deep.RegionLaw
import Derived.Laws.ResultCell
/- Things with weights in a row; the pile's own methods. -/
namespace Go.Proofs.YtlfijfodklhplaaGreat
open Go.RowKit
set_option linter.unusedVariables false
set_option linter.unusedSimpArgs false

structure Th where
  e : Ed
  w : Int
def Th.cells (t : Th) : List Value := [.int .i64 t.e.a, .int .i64 t.e.b, .int .i64 t.e.wt, .int .i64 t.w]
def tcells (l : List Th) : List Value := l.flatMap Th.cells
theorem tcells_cons (t : Th) (l : List Th) : tcells (t :: l) = t.cells ++ tcells l := by simp [tcells]
theorem tcells_len (l : List Th) : (tcells l).length = l.length * 4 := by
  induction l with
  | nil => rfl
  | cons e t ih => rw [tcells_cons, List.length_append, ih, List.length_cons]; simp [Th.cells]; omega
theorem tcells_append (l m : List Th) : tcells (l ++ m) = tcells l ++ tcells m := by simp [tcells]
theorem tcells_one (l : List Th) : ∀ u ∈ tcells l, u.oneCell' = true := by
  intro u hu
  obtain ⟨e, _, h⟩ := List.mem_flatMap.1 hu
  simp only [Th.cells, List.mem_cons, List.not_mem_nil, or_false] at h
  rcases h with rfl | rfl | rfl | rfl <;> rfl
theorem tcells_get (l : List Th) : ∀ (k : Nat) (t : Th), l[k]? = some t → (tcells l)[k * 4]? = some (.int .i64 t.e.a) ∧ (tcells l)[k * 4 + 1]? = some (.int .i64 t.e.b) ∧ (tcells l)[k * 4 + 2]? = some (.int .i64 t.e.wt) ∧ (tcells l)[k * 4 + 3]? = some (.int .i64 t.w) := by
  induction l with
  | nil => intro k e h; simp at h
  | cons x t ih =>
    intro k e h
    rw [tcells_cons]
    cases k with
    | zero =>
      simp at h
      subst h
      exact ⟨rfl, rfl, rfl, rfl⟩
    | succ k =>
      rw [List.getElem?_cons_succ] at h
      have := ih k e h
      have hl : x.cells.length = 4 := rfl
      rw [List.getElem?_append_right (by omega), List.getElem?_append_right (by omega), List.getElem?_append_right (by omega), List.getElem?_append_right (by omega), hl]
      rw [show (k + 1) * 4 - 4 = k * 4 by omega, show (k + 1) * 4 + 1 - 4 = k * 4 + 1 by omega, show (k + 1) * 4 + 2 - 4 = k * 4 + 2 by omega, show (k + 1) * 4 + 3 - 4 = k * 4 + 3 by omega]
      exact this
theorem tcells_set (l : List Th) : ∀ (k : Nat) (t : Th), ((((tcells l).set (k * 4) (.int .i64 t.e.a)).set (k * 4 + 1) (.int .i64 t.e.b)).set (k * 4 + 2) (.int .i64 t.e.wt)).set (k * 4 + 3) (.int .i64 t.w) = tcells (l.set k t) := by
  induction l with
  | nil => intro k t; simp [tcells]
  | cons x r ih =>
    intro k t
    cases k with
    | zero => simp [tcells, Th.cells]
    | succ k =>
      rw [List.set_cons_succ, tcells_cons, tcells_cons, ← ih k t]
      have hl : x.cells.length = 4 := rfl
      rw [List.set_append_right _ _ (by omega), List.set_append_right _ _ (by omega), List.set_append_right _ _ (by omega), List.set_append_right _ _ (by omega), hl]
      rw [show (k + 1) * 4 - 4 = k * 4 by omega, show (k + 1) * 4 + 1 - 4 = k * 4 + 1 by omega, show (k + 1) * 4 + 2 - 4 = k * 4 + 2 by omega, show (k + 1) * 4 + 3 - 4 = k * 4 + 3 by omega]
abbrev TBuf (w : World) (g : Nat) (l : List Th) (c : Nat) : Prop := VBuf w g 237 4 (tcells l) c
theorem tbuf_get {w : World} {g c : Nat} {l : List Th} (h : TBuf w g l c) (k : Nat) (t : Th) (hk : l[k]? = some t) :
    w.cell? ⟨g, k * 4, none⟩ = some (.int .i64 t.e.a) ∧ w.cell? ⟨g, k * 4 + 1, none⟩ = some (.int .i64 t.e.b) ∧ w.cell? ⟨g, k * 4 + 2, none⟩ = some (.int .i64 t.e.wt) ∧ w.cell? ⟨g, k * 4 + 3, none⟩ = some (.int .i64 t.w) := by
  obtain ⟨h0, h1, h2, h3⟩ := tcells_get l k t hk
  exact ⟨h.cell _ _ h0, h.cell _ _ h1, h.cell _ _ h2, h.cell _ _ h3⟩
theorem VBuf.put {w : World} {g : Nat} {e : TypeId} {size : Nat} {vs : List Value} {c : Nat} (h : VBuf w g e size vs c) (p : Nat) (hp : p < vs.length) (v : Value) : VBuf (w.setCell ⟨g, p, none⟩ v) g e size (vs.set p v) c := by
  obtain ⟨sp, hb, hc⟩ := h
  refine ⟨sp, ?_, by rw [List.length_set]; exact hc⟩
  have := hb.set p v
  rw [List.setIfInBounds_toArray, List.set_append_left _ _ hp] at this
  exact this
/-- A thing is written. -/
def put4 (w : World) (g k : Nat) (t : Th) : World := (((w.setCell ⟨g, k * 4, none⟩ (.int .i64 t.e.a)).setCell ⟨g, k * 4 + 1, none⟩ (.int .i64 t.e.b)).setCell ⟨g, k * 4 + 2, none⟩ (.int .i64 t.e.wt)).setCell ⟨g, k * 4 + 3, none⟩ (.int .i64 t.w)
theorem tbuf_put {w : World} {g c : Nat} {l : List Th} (h : TBuf w g l c) (k : Nat) (hk : k < l.length) (t : Th) : TBuf (put4 w g k t) g (l.set k t) c := by
  have hl := tcells_len l
  have h0 := VBuf.put h (k * 4) (by omega) (.int .i64 t.e.a)
  have h1 := VBuf.put h0 (k * 4 + 1) (by rw [List.length_set]; omega) (.int .i64 t.e.b)
  have h2 := VBuf.put h1 (k * 4 + 2) (by rw [List.length_set, List.length_set]; omega) (.int .i64 t.e.wt)
  have h3 := VBuf.put h2 (k * 4 + 3) (by rw [List.length_set, List.length_set, List.length_set]; omega) (.int .i64 t.w)
  rw [tcells_set] at h3
  exact h3
theorem keep_put4 (w : World) (g k : Nat) (t : Th) : Keep (only g) w (put4 w g k t) :=
  ((((Keep.refl (only g) w).setCell (p := ⟨g, k * 4, none⟩) (fun _ => rfl) _).setCell (p := ⟨g, k * 4 + 1, none⟩) (fun _ => rfl) _).setCell (p := ⟨g, k * 4 + 2, none⟩) (fun _ => rfl) _).setCell (p := ⟨g, k * 4 + 3, none⟩) (fun _ => rfl) _

set_option maxRecDepth 100000 in
theorem len_any (a : Option Addr) (n c : Nat) (w : World) : Calls Tryz.prog 244 #[.slice a n c] w fun e w' => e = .returned (.int .i64 (n : Int)) ∧ w = w' := by
  go_enter Tryz.func244, Tryz.ntmps244
  go_wp2
  go_ret
  exact ⟨rfl, rfl⟩

set_option maxRecDepth 100000 in
set_option maxHeartbeats 1000000 in
theorem less_any (pb n c : Nat) (L : List Th) (i j : Nat) (x y : Th) (hi : L[i]? = some x) (hj : L[j]? = some y) (w : World) (hb : TBuf w pb L c) (hin : (i : Int) < (n : Int)) (hjn : (j : Int) < (n : Int)) :
    Calls Tryz.prog 245 #[.slice (some ⟨pb, 0, none⟩) n c, .int .i64 (i : Int), .int .i64 (j : Int)] w fun e w' => e = .returned (.bool (decide (x.w < y.w))) ∧ ∃ m, w' = w.drewN m := by
  have c1 := (tbuf_get hb i x hi).2.2.2
  have c2 := (tbuf_get hb j y hj).2.2.2
  clear hb hi hj
  go_enter Tryz.func245, Tryz.ntmps245
  go_wp2_with fail
  go_quiet (fail)
  go_wp2
  go_ret
  exact ⟨rfl, nq, rfl⟩

set_option maxRecDepth 100000 in
set_option maxHeartbeats 1000000 in
theorem swap_any (pb n c : Nat) (L : List Th) (i j : Nat) (x y : Th) (hi : L[i]? = some x) (hj : L[j]? = some y) (w : World) (hb : TBuf w pb L c) (hin : (i : Int) < (n : Int)) (hjn : (j : Int) < (n : Int)) (hij : i ≠ j) :
    Calls Tryz.prog 246 #[.slice (some ⟨pb, 0, none⟩) n c, .int .i64 (i : Int), .int .i64 (j : Int)] w fun e w' => e = .returned (.tuple #[]) ∧ TBuf w' pb ((L.set i y).set j x) c ∧ Keep (only pb) w w' := by
  obtain ⟨a0, a1, a2, a3⟩ := tbuf_get hb i x hi
  obtain ⟨b0, b1, b2, b3⟩ := tbuf_get hb j y hj
  have f0 := fun p => hb.frozen p
  have fi0 := f0 (i * 4)
  have fi1 := f0 (i * 4 + 1)
  have fi2 := f0 (i * 4 + 2)
  have fi3 := f0 (i * 4 + 3)
  have fj0 := f0 (j * 4)
  have fj1 := f0 (j * 4 + 1)
  have fj2 := f0 (j * 4 + 2)
  have fj3 := f0 (j * 4 + 3)
  have HP : Unit → TBuf (put4 (put4 w pb i y) pb j x) pb ((L.set i y).set j x) c ∧ Keep (only pb) w (put4 (put4 w pb i y) pb j x) := fun _ =>
    ⟨tbuf_put (tbuf_put hb i (List.getElem?_eq_some_iff.1 hi).1 y) j (by rw [List.length_set]; exact (List.getElem?_eq_some_iff.1 hj).1) x, (keep_put4 w pb i y).trans (keep_put4 _ pb j x)⟩
  clear hb hi hj f0
  go_enter Tryz.func246, Tryz.ntmps246
  go_wp2_with fail
  go_region
  all_goals go_end0
  exact ⟨rfl, (HP ()).1.drew, (HP ()).2.drew⟩

set_option maxRecDepth 100000 in
set_option maxHeartbeats 1000000 in
theorem swap_same (pb n c : Nat) (L : List Th) (i : Nat) (x : Th) (hi : L[i]? = some x) (w : World) (hb : TBuf w pb L c) (hin : (i : Int) < (n : Int)) :
    Calls Tryz.prog 246 #[.slice (some ⟨pb, 0, none⟩) n c, .int .i64 (i : Int), .int .i64 (i : Int)] w fun e w' => e = .returned (.tuple #[]) ∧ TBuf w' pb L c ∧ Keep (only pb) w w' := by
  obtain ⟨a0, a1, a2, a3⟩ := tbuf_get hb i x hi
  have f0 := fun p => hb.frozen p
  have fi0 := f0 (i * 4)
  have fi1 := f0 (i * 4 + 1)
  have fi2 := f0 (i * 4 + 2)
  have fi3 := f0 (i * 4 + 3)
  have hset : (L.set i x) = L := by
    refine List.ext_getElem? (fun k => ?_)
    rw [List.getElem?_set]
    split
    · rename_i h; subst h; rw [hi, if_pos (List.getElem?_eq_some_iff.1 hi).1]
    · rfl
  have HP : Unit → TBuf (put4 (put4 w pb i x) pb i x) pb L c ∧ Keep (only pb) w (put4 (put4 w pb i x) pb i x) := fun _ =>
    ⟨by
      have h1 := tbuf_put hb i (List.getElem?_eq_some_iff.1 hi).1 x
      rw [hset] at h1
      have h2 := tbuf_put h1 i (List.getElem?_eq_some_iff.1 hi).1 x
      rw [hset] at h2
      exact h2, (keep_put4 w pb i x).trans (keep_put4 _ pb i x)⟩
  clear hb hi f0 hset
  go_enter Tryz.func246, Tryz.ntmps246
  go_wp2_with fail
  go_region
  all_goals go_end0
  exact ⟨rfl, (HP ()).1.drew, (HP ()).2.drew⟩

theorem thing_info : (Tryz.prog.info? 237).map (fun i => (i.zero, i.size, i.bytes)) = some (some (.agg #[.int .i64 0, .int .i64 0, .int .i64 0, .int .i64 0]), 4, 32) := by kernel_rfl

@[go_sem] theorem assert_thing (v : Value) (w : World) : (Instr.typeAssert (.iface 237 v) 20 237 false).run Tryz.prog w = .ok v w := by kernel_rfl

/-- The thing as a value within an interface. -/
abbrev thv (t : Th) : Value := .iface 237 (.agg #[.int .i64 t.e.a, .int .i64 t.e.b, .int .i64 t.e.wt, .int .i64 t.w])

theorem step_append_new {P : Program} {ops : Array Oper} {o : Oper} {a : Act} {w : World} {K : Act → World → Prop} {Q : Exit → Act → World → Prop} {E : Prop}
    (hg : o.guard = none) (s x : Operand) (t : TypeId) (hop : o.op = Op.call { callee := Callee.builtin Builtin.append, args := #[s, x], argTypes := #[t, t] })
    (e : TypeId) (z : Value) (size bytes : Nat) (ht : P.underlying t = some (.slice e)) (hinfo : (P.info? e).map (fun i => (i.zero, i.size, i.bytes)) = some (some z, size, bytes)) (hzs : z.cells.size = size)
    (hs : a.eval s = .slice none 0 0) (ad : Addr) (m c' : Nat) (h0 : 0 < m) (hx : a.eval x = .slice (some ad) m c') (news : List Value) (hm : news.length = m * size)
    (hc : ∀ j u, news[j]? = some u → w.cell? (ad.add j) = some u) (hbytes : m * bytes ≤ 140737488355328) (h63 : m ≤ 9223372036854775807)
    (hK : ∀ k' w', VBuf w' w.heap.size e size news k' → m ≤ k' → Keep nil w w' → K (a.put o.dst (.slice (some ⟨w.heap.size, 0, none⟩) m k')) w') :
    if Region.wanted o (yielded ops a.tmps) = true then Oper.wp P o a w K Q else E := by
  have hw : Region.wanted o (yielded ops a.tmps) = true := by simp [Region.wanted, hg]
  rw [if_pos hw]
  obtain ⟨k', w', hrun, r1, r2, r3⟩ := run_append_new (P := P) w t o.type e z size bytes ht hinfo hzs ad m c' h0 news hm hc hbytes h63
  unfold Oper.wp
  simp [execOp, hop, resolve, invoke, builtin, hs, hx, hrun, Result.andThen]
  exact hK k' w' r1 r2 r3

theorem push_end {w w0 w1 : World} {hb ho pb' c' n : Nat} {cs : Array Value} {ty : TypeId} {G : Nat → Prop} {vs : List Value} (hbk : Blk w hb cs ty) (k0 : Keep nil w w0) (hk : Keep G w0 w1) (hG : ¬ G hb) (ht : VBuf w1 pb' 237 4 vs c') (hp : pb' ≠ hb) :
    Blk (w1.setCell ⟨hb, ho, none⟩ (.slice (some ⟨pb', 0, none⟩) n c')) hb (cs.setIfInBounds ho (.slice (some ⟨pb', 0, none⟩) n c')) ty ∧ VBuf (w1.setCell ⟨hb, ho, none⟩ (.slice (some ⟨pb', 0, none⟩) n c')) pb' 237 4 vs c' ∧
      Keep (fun b => b = hb ∨ G b) w (w1.setCell ⟨hb, ho, none⟩ (.slice (some ⟨pb', 0, none⟩) n c')) := by
  have ks : Keep (only hb) w1 (w1.setCell ⟨hb, ho, none⟩ (.slice (some ⟨pb', 0, none⟩) n c')) := (Keep.refl (only hb) w1).setCell (p := ⟨hb, ho, none⟩) (fun _ => rfl) _
  refine ⟨((hbk.keep k0 (fun e => e)).keep hk hG).set ho _, ht.keep ks (fun e => hp e), ?_⟩
  exact (((k0.mono (fun _ _ e => e.elim)).trans (hk.mono (ex' := fun b => b = hb ∨ G b) (fun _ _ e => Or.inr e)))).setCell (p := ⟨hb, ho, none⟩) (fun _ => Or.inl rfl) _

set_option maxRecDepth 100000 in
set_option maxHeartbeats 1000000 in
theorem push_some (hb ho : Nat) (cs : Array Value) (ty : TypeId) (pb c : Nat) (L : List Th) (t : Th) (w : World) (hbk : Blk w hb cs ty) (hcs : cs[ho]? = some (.slice (some ⟨pb, 0, none⟩) L.length c)) (hne : hb ≠ pb) (ht : TBuf w pb L c) (hlen : (L.length : Int) < 1000000) :
    Calls Tryz.prog 249 #[.pointer (some ⟨hb, ho, none⟩), thv t] w fun e w' => e = .returned (.tuple #[]) ∧ ∃ pb' c', Blk w' hb (cs.setIfInBounds ho (.slice (some ⟨pb', 0, none⟩) (L.length + 1) c')) ty ∧
      TBuf w' pb' (L ++ [t]) c' ∧ L.length + 1 ≤ c' ∧ (pb' = pb ∨ w.heap.size ≤ pb') ∧ pb' ≠ hb ∧ Keep (fun b => b = hb ∨ b = pb) w w' := by
  have h0 := (hbk.cell ho).trans hcs
  have f0 := hbk.frozen ho
  have hpl := ht.lt
  have hhl := hbk.lt
  have HB : Unit → Blk w hb cs ty ∧ TBuf w pb L c := fun _ => ⟨hbk, ht⟩
  have HL : Unit → (L.length : Int) < 1000000 := fun _ => hlen
  have HC : Unit → cs[ho]? = some (.slice (some ⟨pb, 0, none⟩) L.length c) := fun _ => hcs
  clear hbk hcs ht hlen
  go_enter Tryz.func249, Tryz.ntmps249
  go_wp2_with fail
  go_region_law (refine step_append_any rfl (.tmp 7) (.tmp 10) 170 rfl 237 (.agg #[.int .i64 0, .int .i64 0, .int .i64 0, .int .i64 0]) 4 32 Tryz.underlying170 thing_info rfl pb L.length c (by simp [Act.eval, Act.put]) (tcells L) (tcells_len L) (((HB ()).2.alloc _).drew) ⟨w.heap.size, 0, none⟩ 1 1 (by simp [Act.eval, Act.put]) (tcells [t]) rfl (At.cell (B := 0) (At.newd rfl (Nat.zero_le _))) (tcells_one _) (by have := HL (); omega) (by have := HL (); omega) ?_; intro pb' c' w1 hb1 hc1 hd1 hk1; have h1 := ((((HB ()).1.old _).drew.keep hk1 (fun e => hne e)).cell ho).trans (HC ()); have f1 := (((HB ()).1.old _).drew.keep hk1 (fun e => hne e)).frozen ho)
  all_goals
    go_end0
    have hp : pb' ≠ hb := by
      rcases hd1 with ⟨e, _⟩ | ⟨e, _⟩
      · rw [e]; exact Ne.symm hne
      · simp only [World.size_drew, World.size_alloc] at e; omega
    obtain ⟨e1, e2, e3⟩ := push_end (ho := ho) (n := L.length + 1) (HB ()).1 (((Keep.refl nil w).alloc _).drew) hk1 (fun e => hne e) hb1 hp
    rw [← tcells_append] at e2
    refine ⟨rfl, pb', c', e1, e2, hc1, ?_, hp, e3⟩
    rcases hd1 with ⟨e, _⟩ | ⟨e, _⟩
    · exact Or.inl e
    · simp only [World.size_drew, World.size_alloc] at e; exact Or.inr (by omega)

set_option maxRecDepth 100000 in
set_option maxHeartbeats 1000000 in
theorem push_nil (hb ho : Nat) (cs : Array Value) (ty : TypeId) (t : Th) (w : World) (hbk : Blk w hb cs ty) (hcs : cs[ho]? = some (.slice none 0 0)) :
    Calls Tryz.prog 249 #[.pointer (some ⟨hb, ho, none⟩), thv t] w fun e w' => e = .returned (.tuple #[]) ∧ ∃ pb' c', Blk w' hb (cs.setIfInBounds ho (.slice (some ⟨pb', 0, none⟩) 1 c')) ty ∧
      TBuf w' pb' [t] c' ∧ 1 ≤ c' ∧ w.heap.size ≤ pb' ∧ pb' ≠ hb ∧ Keep (only hb) w w' := by
  have h0 := (hbk.cell ho).trans hcs
  have f0 := hbk.frozen ho
  have hhl := hbk.lt
  have HB : Unit → Blk w hb cs ty := fun _ => hbk
  have HC : Unit → cs[ho]? = some (.slice none 0 0) := fun _ => hcs
  clear hbk hcs
  go_enter Tryz.func249, Tryz.ntmps249
  go_wp2_with fail
  go_region_law (refine step_append_new rfl (.tmp 7) (.tmp 10) 170 rfl 237 (.agg #[.int .i64 0, .int .i64 0, .int .i64 0, .int .i64 0]) 4 32 Tryz.underlying170 thing_info rfl (by simp [Act.eval, Act.put]) ⟨w.heap.size, 0, none⟩ 1 1 (by omega) (by simp [Act.eval, Act.put]) (tcells [t]) rfl (At.cell (B := 0) (At.newd rfl (Nat.zero_le _))) (by omega) (by omega) ?_; intro c' w1 hb1 hc1 hk1; have h1 := ((((HB ()).old _).drew.keep hk1 (fun e => e)).cell ho).trans (HC ()); have f1 := (((HB ()).old _).drew.keep hk1 (fun e => e)).frozen ho)
  all_goals
    go_end0
    simp only [World.size_drew, World.size_alloc] at hb1 ⊢
    obtain ⟨e1, e2, e3⟩ := push_end (ho := ho) (n := 1) (HB ()) (((Keep.refl nil w).alloc _).drew) hk1 (fun e => e) hb1 (by omega)
    exact ⟨trivial, _, c', e1, e2, hc1, by omega, by omega, e3.mono (fun _ _ e => e.elim id (fun e => e.elim))⟩

set_option maxRecDepth 100000 in
set_option maxHeartbeats 1000000 in
theorem pop_any (hb ho : Nat) (cs : Array Value) (ty : TypeId) (pb c n : Nat) (L : List Th) (t : Th) (w : World) (hbk : Blk w hb cs ty) (hcs : cs[ho]? = some (.slice (some ⟨pb, 0, none⟩) (n + 1) c)) (hne : hb ≠ pb) (ht : TBuf w pb L c) (hl : L.length = n + 1) (hnc : n + 1 ≤ c) (hlast : L[n]? = some t) (hlen : (n : Int) < 1000000) :
    Calls Tryz.prog 248 #[.pointer (some ⟨hb, ho, none⟩)] w fun e w' => e = .returned (thv t) ∧ Blk w' hb (cs.setIfInBounds ho (.slice (some ⟨pb, 0, none⟩) n c)) ty ∧
      TBuf w' pb (L.take n) c ∧ Keep (only hb) w w' := by
  have h0 := (hbk.cell ho).trans hcs
  have f0 := hbk.frozen ho
  have hhl := hbk.lt
  have hpl := ht.lt
  obtain ⟨q0, q1, q2, q3⟩ := tbuf_get ht n t hlast
  have hcI : (n : Int) ≤ (c : Int) := by omega
  have hwn : wrap64 (n : Int) = (n : Int) := by unfold wrap64; omega
  have HB : Unit → Blk w hb cs ty ∧ TBuf w pb (L.take n) c := fun _ => ⟨hbk, by
    have := ht.less (n * 4)
    have e : (tcells L).take (n * 4) = tcells (L.take n) := by
      have h1 : tcells L = tcells (L.take n) ++ tcells (L.drop n) := by rw [← tcells_append, List.take_append_drop]
      have h2 : (tcells (L.take n)).length = n * 4 := by rw [tcells_len, List.length_take]; omega
      rw [h1, ← h2, List.take_left]
    rw [e] at this
    exact this⟩
  clear hbk hcs ht hl hlast hlen
  go_enter Tryz.func248, Tryz.ntmps248
  go_wp2
  go_ret
  obtain ⟨e1, e2, e3⟩ := push_end (ho := ho) (n := n) (w1 := w) (HB ()).1 (Keep.refl nil w) (Keep.refl nil _) (fun e => e) (HB ()).2 (Ne.symm hne)
  exact ⟨rfl, e1.old _, e2.alloc _, (e3.mono (fun _ _ e => e.elim id (fun e => e.elim))).alloc _⟩
end Go.Proofs.YtlfijfodklhplaaGreat
/- The heap: a bag of things, as far as is wanted here. -/
namespace Go.Proofs.YtlfijfodklhplaaGreat
open Go.RowKit
set_option linter.unusedVariables false
set_option linter.unusedSimpArgs false

/-- The same things, in whatever order. -/
def SameT (L' L : List Th) : Prop := L'.length = L.length ∧ ∀ x, x ∈ L' ↔ x ∈ L
theorem SameT.refl (L : List Th) : SameT L L := ⟨rfl, fun _ => Iff.rfl⟩
theorem SameT.trans {L L' L'' : List Th} (h : SameT L'' L') (h' : SameT L' L) : SameT L'' L := ⟨h.1.trans h'.1, fun x => (h.2 x).trans (h'.2 x)⟩
theorem sameT_swap {L : List Th} {i j : Nat} {x y : Th} (hi : L[i]? = some x) (hj : L[j]? = some y) (hij : i ≠ j) : SameT ((L.set i y).set j x) L := by
  refine ⟨by simp, fun z => ?_⟩
  have hil := (List.getElem?_eq_some_iff.1 hi).1
  have hjl := (List.getElem?_eq_some_iff.1 hj).1
  constructor
  · intro h
    obtain ⟨k, hk⟩ := List.getElem?_of_mem h
    rw [List.getElem?_set] at hk
    split at hk
    · rename_i e
      rw [List.length_set, if_pos hjl] at hk
      cases hk
      exact List.mem_of_getElem? hi
    · rw [List.getElem?_set] at hk
      split at hk
      · first
          | (cases hk; exact List.mem_of_getElem? hj)
          | (rw [if_pos hil] at hk; cases hk; exact List.mem_of_getElem? hj)
      · exact List.mem_of_getElem? hk
  · intro h
    obtain ⟨k, hk⟩ := List.getElem?_of_mem h
    by_cases e1 : k = i
    · subst e1
      rw [hi] at hk
      cases hk
      exact List.mem_of_getElem? (i := j) (by rw [List.getElem?_set, if_pos rfl, List.length_set, if_pos hjl])
    · by_cases e2 : k = j
      · subst e2
        rw [hj] at hk
        cases hk
        exact List.mem_of_getElem? (i := i) (by rw [List.getElem?_set, if_neg (Ne.symm hij), List.getElem?_set, if_pos rfl, if_pos hil])
      · exact List.mem_of_getElem? (i := k) (by rw [List.getElem?_set, if_neg (Ne.symm e2), List.getElem?_set, if_neg (Ne.symm e1)]; exact hk)

/-- The pile as an interface. -/
abbrev ifv (hb ho : Nat) : Value := .iface 239 (.pointer (some ⟨hb, ho, none⟩))

/-- How the pile's methods are found. -/
theorem load_pile (hb ho : Nat) (a : Option Addr) (n c : Nat) (w : World) (h : w.cell? ⟨hb, ho, none⟩ = some (.slice a n c)) : (loadVar 170 ⟨hb, ho, none⟩).run Tryz.prog w = .ok (.slice a n c) w := by
  unfold loadVar
  go_simp
theorem wrap_chk (P : Program) (xt : TypeId) (ad : Addr) (nm : String) (w : World) : (Builtin.ssaWrapNilChk_ #[xt] xt #[.pointer (some ad), strVal "", strVal nm]).run P w = .ok (.pointer (some ad)) w := rfl
theorem less_at (k hb ho : Nat) (a : Option Addr) (n c : Nat) (w : World) (h : w.cell? ⟨hb, ho, none⟩ = some (.slice a n c)) : (method (k + 1) 239 (.pointer (some ⟨hb, ho, none⟩)) "Less").run Tryz.prog w = .ok (245, .slice a n c) w := by
  have hl := load_pile hb ho a n c w h
  have hf : (Tryz.t239.methods.find? (fun x => x.name == "Less")).map (fun m => (m.path, m.func)) = some (#[], some (245, false)) := by kernel_rfl
  obtain ⟨m, hm, hp⟩ := Option.map_eq_some_iff.1 hf
  simp only [Prod.mk.injEq] at hp
  unfold method
  go_simp
  unfold follow receiverAt
  generalize ("Less".splitOn ".").getLast?.getD "Less" = nm
  have hc := wrap_chk Tryz.prog 239 ⟨hb, ho, none⟩ nm w
  unfold Place.get
  go_simp
theorem swap_at (k hb ho : Nat) (a : Option Addr) (n c : Nat) (w : World) (h : w.cell? ⟨hb, ho, none⟩ = some (.slice a n c)) : (method (k + 1) 239 (.pointer (some ⟨hb, ho, none⟩)) "Swap").run Tryz.prog w = .ok (246, .slice a n c) w := by
  have hl := load_pile hb ho a n c w h
  have hf : (Tryz.t239.methods.find? (fun x => x.name == "Swap")).map (fun m => (m.path, m.func)) = some (#[], some (246, false)) := by kernel_rfl
  obtain ⟨m, hm, hp⟩ := Option.map_eq_some_iff.1 hf
  simp only [Prod.mk.injEq] at hp
  unfold method
  go_simp
  unfold follow receiverAt
  generalize ("Swap".splitOn ".").getLast?.getD "Swap" = nm
  have hc := wrap_chk Tryz.prog 239 ⟨hb, ho, none⟩ nm w
  unfold Place.get
  go_simp
theorem len_at (k hb ho : Nat) (a : Option Addr) (n c : Nat) (w : World) (h : w.cell? ⟨hb, ho, none⟩ = some (.slice a n c)) : (method (k + 1) 239 (.pointer (some ⟨hb, ho, none⟩)) "Len").run Tryz.prog w = .ok (244, .slice a n c) w := by
  have hl := load_pile hb ho a n c w h
  have hf : (Tryz.t239.methods.find? (fun x => x.name == "Len")).map (fun m => (m.path, m.func)) = some (#[], some (244, false)) := by kernel_rfl
  obtain ⟨m, hm, hp⟩ := Option.map_eq_some_iff.1 hf
  simp only [Prod.mk.injEq] at hp
  unfold method
  go_simp
  unfold follow receiverAt
  generalize ("Len".splitOn ".").getLast?.getD "Len" = nm
  have hc := wrap_chk Tryz.prog 239 ⟨hb, ho, none⟩ nm w
  unfold Place.get
  go_simp
theorem push_at (k hb ho : Nat) (w : World) : (method (k + 1) 239 (.pointer (some ⟨hb, ho, none⟩)) "Push").run Tryz.prog w = .ok (249, .pointer (some ⟨hb, ho, none⟩)) w := by kernel_rfl
theorem pop_at (k hb ho : Nat) (w : World) : (method (k + 1) 239 (.pointer (some ⟨hb, ho, none⟩)) "Pop").run Tryz.prog w = .ok (248, .pointer (some ⟨hb, ho, none⟩)) w := by kernel_rfl

set_option maxRecDepth 100000 in
set_option maxHeartbeats 2000000 in
theorem up_any (hb ho : Nat) (cs : Array Value) (ty : TypeId) (pb c n : Nat) (L : List Th) (j0 : Nat) (w : World) (hbk : Blk w hb cs ty) (hcs : cs[ho]? = some (.slice (some ⟨pb, 0, none⟩) n c)) (hne : hb ≠ pb) (ht : TBuf w pb L c) (hl : L.length = n) (hj0 : j0 < n) (hlen : (n : Int) < 1000000) :
    Calls Tryz.prog 220 #[ifv hb ho, .int .i64 (j0 : Int)] w fun e w' => e = .returned (.tuple #[]) ∧ ∃ L', SameT L' L ∧ TBuf w' pb L' c ∧ Keep (only pb) w w' := by
  have HB : Unit → Blk w hb cs ty ∧ cs[ho]? = some (.slice (some ⟨pb, 0, none⟩) n c) := fun _ => ⟨hbk, hcs⟩
  have HT : Unit → TBuf w pb L c ∧ L.length = n ∧ j0 < n ∧ (n : Int) < 1000000 := fun _ => ⟨ht, hl, hj0, hlen⟩
  clear hbk hcs ht hl hj0 hlen
  go_enter Tryz.func220, Tryz.ntmps220
  go_wp2_with fail
  go_loopw [1] (fun v wr => ∃ (j : Nat) (L' : List Th), j < n ∧ v = .int .i64 (j : Int) ∧ SameT L' L ∧ TBuf wr pb L' c ∧ Keep (only pb) w wr) (fun v _ => (intOf v).toNat)
  case atStart => exact ⟨j0, L, (HT ()).2.2.1, rfl, SameT.refl L, (HT ()).1, Keep.refl _ _⟩
  case round =>
    obtain ⟨j, L', hjn, rfl, hsm, hbuf, hkp⟩ := hrel
    have HR : Unit → SameT L' L ∧ TBuf wr pb L' c ∧ Keep (only pb) w wr := fun _ => ⟨hsm, hbuf, hkp⟩
    have hcell := (((HB ()).1.keep hkp (fun e => hne e)).cell ho).trans (HB ()).2
    have hjI : (j : Int) < (n : Int) := by omega
    clear hsm hbuf hkp
    by_cases hj : j = 0
    · subst hj
      go_wp2
      go_end0
      exact ⟨rfl, L', (HR ()).1, (HR ()).2.1, (HR ()).2.2⟩
    · obtain ⟨i, hi⟩ : ∃ i, i = (j - 1) / 2 := ⟨_, rfl⟩
      have hij : i < j := by omega
      have hq1 : wrap64 ((j : Int) - 1) = ((j - 1 : Nat) : Int) := by unfold wrap64; have := HT (); omega
      have hq2 : wrap64 (((j - 1 : Nat) : Int) / 2) = (i : Int) := by unfold wrap64; have := HT (); omega
      have hq3 : (((j - 1 : Nat) : Int)).tdiv 2 = ((j - 1 : Nat) : Int) / 2 := rfl
      have hn1 : ¬ i = j := by omega
      obtain ⟨x, hx⟩ : ∃ x, L'[j]? = some x := ⟨_, List.getElem?_eq_getElem (by have := (HR ()).1.1; have := (HT ()).2.1; omega)⟩
      obtain ⟨y, hy⟩ : ∃ y, L'[i]? = some y := ⟨_, List.getElem?_eq_getElem (by have := (HR ()).1.1; have := (HT ()).2.1; omega)⟩
      have hm := fun k => less_at k hb ho _ _ _ wr hcell
      have HXY : Unit → L'[j]? = some x ∧ L'[i]? = some y := fun _ => ⟨hx, hy⟩
      have hiI : (i : Int) < (n : Int) := by omega
      have hn2 : ((i : Int) == (j : Int)) = false := by simp; omega
      clear hx hy hi
      go_wp2_with fail
      refine (less_any pb n c L' j i x y (HXY ()).1 (HXY ()).2 wr (HR ()).2.1 hjI hiI).mono ?_
      rintro e w1 ⟨rfl, m, rfl⟩
      have kd : Keep nil wr (wr.drewN m) := (Keep.refl nil wr).drewN m
      have hcell1 : (wr.drewN m).cell? ⟨hb, ho, none⟩ = some (.slice (some ⟨pb, 0, none⟩) n c) := (kd.cell hb ho (World.block_lt_of_cell? wr _ hcell) (fun e => e)).trans hcell
      have hm1 := fun k => swap_at k hb ho _ _ _ (wr.drewN m) hcell1
      have HKD : Unit → Keep nil wr (wr.drewN m) := fun _ => kd
      clear hm hcell kd
      by_cases hlt : x.w < y.w
      · go_wp2_with fail
        refine (swap_any pb n c L' i j y x (HXY ()).2 (HXY ()).1 _ ((HR ()).2.1.keep (HKD ()) (fun e => e)) hiI hjI hn1).mono ?_
        rintro e w2 ⟨rfl, hb2, hk2⟩
        have HP : Unit → SameT ((L'.set i x).set j y) L ∧ TBuf w2 pb ((L'.set i x).set j y) c ∧ Keep (only pb) w w2 := fun _ => ⟨(sameT_swap (HXY ()).2 (HXY ()).1 hn1).trans (HR ()).1, hb2, ((HR ()).2.2.trans ((HKD ()).mono (fun _ _ e => e.elim))).trans hk2⟩
        clear hb2 hk2
        go_wp2
        go_roundw
        case rel => exact ⟨i, _, by omega, rfl, HP ()⟩
        case measure => simp [intOf]; omega
      · have hlt2 : decide (x.w < y.w) = false := by simp only [decide_eq_false_iff_not]; exact hlt
        have hlt3 : y.w ≤ x.w := by omega
        clear hlt
        go_wp2
        go_end0
        exact ⟨rfl, L', (HR ()).1, (HR ()).2.1.keep (HKD ()) (fun e => e), (HR ()).2.2.trans ((HKD ()).mono (fun _ _ e => e.elim))⟩
end Go.Proofs.YtlfijfodklhplaaGreat
/- The heap: down, and the calls. -/
namespace Go.Proofs.YtlfijfodklhplaaGreat
open Go.RowKit
set_option linter.unusedVariables false
set_option linter.unusedSimpArgs false

set_option maxRecDepth 100000 in
set_option maxHeartbeats 4000000 in
theorem down_any (hb ho : Nat) (cs : Array Value) (ty : TypeId) (pb c N : Nat) (L : List Th) (n : Nat) (w : World) (hbk : Blk w hb cs ty) (hcs : cs[ho]? = some (.slice (some ⟨pb, 0, none⟩) N c)) (hne : hb ≠ pb) (ht : TBuf w pb L c) (hl : L.length = N) (hn : n ≤ N) (hlen : (N : Int) < 1000000) :
    Calls Tryz.prog 186 #[ifv hb ho, .int .i64 0, .int .i64 (n : Int)] w fun e w' => (∃ b, e = .returned (.bool b)) ∧ ∃ L', SameT L' L ∧ TBuf w' pb L' c ∧ Keep (only pb) w w' := by
  have HB : Unit → Blk w hb cs ty ∧ cs[ho]? = some (.slice (some ⟨pb, 0, none⟩) N c) := fun _ => ⟨hbk, hcs⟩
  have HT : Unit → TBuf w pb L c ∧ L.length = N ∧ n ≤ N ∧ (N : Int) < 1000000 := fun _ => ⟨ht, hl, hn, hlen⟩
  clear hbk hcs ht hl hn hlen
  go_enter Tryz.func186, Tryz.ntmps186
  go_wp2_with fail
  go_loopw [7] (fun v wr => ∃ (i : Nat) (L' : List Th), (i < n ∨ i = 0) ∧ v = .int .i64 (i : Int) ∧ SameT L' L ∧ TBuf wr pb L' c ∧ Keep (only pb) w wr) (fun v _ => n - (intOf v).toNat)
  case atStart => exact ⟨0, L, Or.inr rfl, rfl, SameT.refl L, (HT ()).1, Keep.refl _ _⟩
  case round =>
    obtain ⟨i, L', hin, rfl, hsm, hbuf, hkp⟩ := hrel
    have HR : Unit → SameT L' L ∧ TBuf wr pb L' c ∧ Keep (only pb) w wr := fun _ => ⟨hsm, hbuf, hkp⟩
    have hcell := (((HB ()).1.keep hkp (fun e => hne e)).cell ho).trans (HB ()).2
    have hi6 : (i : Int) < 1000000 := by have := HT (); omega
    have hw1 : wrap64 (2 * (i : Int)) = 2 * (i : Int) := by unfold wrap64; omega
    have hw2 : wrap64 (2 * (i : Int) + 1) = 2 * (i : Int) + 1 := by unfold wrap64; omega
    have hw3 : wrap64 (2 * (i : Int) + 1 + 1) = 2 * (i : Int) + 1 + 1 := by unfold wrap64; omega
    have HI6 : Unit → (i : Int) < 1000000 := fun _ => hi6
    clear hsm hbuf hkp hi6
    by_cases hj1 : 2 * i + 1 < n
    · have hj1I : 2 * (i : Int) + 1 < (n : Int) := by omega
      have hj1b : (0 : Int) ≤ 2 * (i : Int) + 1 := by omega
      have hd1 : decide ((n : Int) ≤ 2 * (i : Int) + 1) = false := by simp; omega
      have hd2 : decide (2 * (i : Int) + 1 < 0) = false := by simp; omega
      have hLl : ∀ k, k < n → ∃ x, L'[k]? = some x := fun k hk => ⟨_, List.getElem?_eq_getElem (by have := (HR ()).1.1; have := HT (); omega)⟩
      obtain ⟨xi, hxi⟩ := hLl i (by omega)
      obtain ⟨x1, hx1⟩ := hLl (2 * i + 1) hj1
      have c1 : ((2 * i + 1 : Nat) : Int) = 2 * (i : Int) + 1 := by omega
      have c2 : ((2 * i + 1 + 1 : Nat) : Int) = 2 * (i : Int) + 1 + 1 := by omega
      have hm0 := fun k => less_at k hb ho _ _ _ wr hcell
      by_cases hj2 : 2 * i + 1 + 1 < n
      · have hj2I : 2 * (i : Int) + 1 + 1 < (n : Int) := by omega
        obtain ⟨x2, hx2⟩ := hLl (2 * i + 1 + 1) hj2
        have HL : Unit → _ := fun _ => less_any pb N c L' (2 * i + 1 + 1) (2 * i + 1) x2 x1 hx2 hx1 wr (HR ()).2.1 (by have := HT (); omega) (by have := HT (); omega)
        have HX : Unit → L'[i]? = some xi ∧ L'[2 * i + 1]? = some x1 ∧ L'[2 * i + 1 + 1]? = some x2 := fun _ => ⟨hxi, hx1, hx2⟩
        clear hLl hxi hx1 hx2
        go_wp2_with fail
        rw [c1, c2] at HL
        refine (HL ()).mono ?_
        rintro e w3 ⟨rfl, m3, hw3'⟩
        have kd3 : Keep nil wr w3 := by rw [hw3']; exact (Keep.refl nil wr).drewN m3
        clear hw3'
        have hcell3 : w3.cell? ⟨hb, ho, none⟩ = some (.slice (some ⟨pb, 0, none⟩) N c) := (kd3.cell hb ho (World.block_lt_of_cell? wr _ hcell) (fun e => e)).trans hcell
        have hm3 := fun k => less_at k hb ho _ _ _ w3 hcell3
        have HKJ : Unit → Keep nil wr w3 := fun _ => kd3
        clear kd3 HL hm0
        by_cases hl3 : x2.w < x1.w
        · go_wp2_with fail
          rw [← c2]
          obtain ⟨j, hj⟩ : ∃ j, j = 2 * i + 1 + 1 := ⟨_, rfl⟩
          obtain ⟨xj, hxj⟩ : ∃ xj, xj = x2 := ⟨_, rfl⟩
          have HJ : Unit → L'[j]? = some xj ∧ L'[i]? = some xi ∧ (i < j ∧ j < n) ∧ (j : Int) < (N : Int) ∧ (i : Int) < (N : Int) ∧ i ≠ j := fun _ => by
            rw [hj, hxj]; exact ⟨(HX ()).2.2, (HX ()).1, by omega, by have := HT (); omega, by have := HT (); omega, by omega⟩
          rw [← hj]
          clear hj hxj c1 c2
          refine (less_any pb N c L' j i xj xi (HJ ()).1 (HJ ()).2.1 w3 ((HR ()).2.1.keep (HKJ ()) (fun e => e)) (HJ ()).2.2.2.1 (HJ ()).2.2.2.2.1).mono ?_
          rintro e w4 ⟨rfl, m4, hw4⟩
          have kd4 : Keep nil wr w4 := by rw [hw4]; exact (HKJ ()).trans ((Keep.refl nil w3).drewN m4)
          clear hw4
          have hcell4 : w4.cell? ⟨hb, ho, none⟩ = some (.slice (some ⟨pb, 0, none⟩) N c) := (kd4.cell hb ho (World.block_lt_of_cell? wr _ hcell) (fun e => e)).trans hcell
          have hm4 := fun k => swap_at k hb ho _ _ _ w4 hcell4
          have HK4 : Unit → Keep nil wr w4 := fun _ => kd4
          clear kd4
          by_cases hlt : xj.w < xi.w
          · go_wp2_with fail
            refine (swap_any pb N c L' i j xi xj (HJ ()).2.1 (HJ ()).1 _ ((HR ()).2.1.keep (HK4 ()) (fun e => e)) (HJ ()).2.2.2.2.1 (HJ ()).2.2.2.1 (HJ ()).2.2.2.2.2).mono ?_
            rintro e w5 ⟨rfl, hb5, hk5⟩
            have HP : Unit → SameT ((L'.set i xj).set j xi) L ∧ TBuf w5 pb ((L'.set i xj).set j xi) c ∧ Keep (only pb) w w5 := fun _ => ⟨(sameT_swap (HJ ()).2.1 (HJ ()).1 (HJ ()).2.2.2.2.2).trans (HR ()).1, hb5, ((HR ()).2.2.trans ((HK4 ()).mono (fun _ _ e => e.elim))).trans hk5⟩
            clear hb5 hk5 hcell4 hm4
            go_wp2
            go_roundw
            case rel => exact ⟨j, _, Or.inl (HJ ()).2.2.1.2, rfl, HP ()⟩
            case measure => simp [intOf]; have := (HJ ()).2.2.1; omega
          · have hlt2 : decide (xj.w < xi.w) = false := by simp only [decide_eq_false_iff_not]; exact hlt
            have hlt3 : xi.w ≤ xj.w := by omega
            clear hlt
            go_wp2
            go_ret
            exact ⟨⟨_, rfl⟩, L', (HR ()).1, (HR ()).2.1.keep (HK4 ()) (fun e => e), (HR ()).2.2.trans ((HK4 ()).mono (fun _ _ e => e.elim))⟩
        · have hl4 : decide (x2.w < x1.w) = false := by simp only [decide_eq_false_iff_not]; exact hl3
          have hl5 : x1.w ≤ x2.w := by omega
          clear hl3
          go_wp2_with fail
          rw [← c1]
          obtain ⟨j, hj⟩ : ∃ j, j = 2 * i + 1 := ⟨_, rfl⟩
          obtain ⟨xj, hxj⟩ : ∃ xj, xj = x1 := ⟨_, rfl⟩
          have HJ : Unit → L'[j]? = some xj ∧ L'[i]? = some xi ∧ (i < j ∧ j < n) ∧ (j : Int) < (N : Int) ∧ (i : Int) < (N : Int) ∧ i ≠ j := fun _ => by
            rw [hj, hxj]; exact ⟨(HX ()).2.1, (HX ()).1, by omega, by have := HT (); omega, by have := HT (); omega, by omega⟩
          rw [← hj]
          clear hj hxj c1 c2
          refine (less_any pb N c L' j i xj xi (HJ ()).1 (HJ ()).2.1 w3 ((HR ()).2.1.keep (HKJ ()) (fun e => e)) (HJ ()).2.2.2.1 (HJ ()).2.2.2.2.1).mono ?_
          rintro e w4 ⟨rfl, m4, hw4⟩
          have kd4 : Keep nil wr w4 := by rw [hw4]; exact (HKJ ()).trans ((Keep.refl nil w3).drewN m4)
          clear hw4
          have hcell4 : w4.cell? ⟨hb, ho, none⟩ = some (.slice (some ⟨pb, 0, none⟩) N c) := (kd4.cell hb ho (World.block_lt_of_cell? wr _ hcell) (fun e => e)).trans hcell
          have hm4 := fun k => swap_at k hb ho _ _ _ w4 hcell4
          have HK4 : Unit → Keep nil wr w4 := fun _ => kd4
          clear kd4
          by_cases hlt : xj.w < xi.w
          · go_wp2_with fail
            refine (swap_any pb N c L' i j xi xj (HJ ()).2.1 (HJ ()).1 _ ((HR ()).2.1.keep (HK4 ()) (fun e => e)) (HJ ()).2.2.2.2.1 (HJ ()).2.2.2.1 (HJ ()).2.2.2.2.2).mono ?_
            rintro e w5 ⟨rfl, hb5, hk5⟩
            have HP : Unit → SameT ((L'.set i xj).set j xi) L ∧ TBuf w5 pb ((L'.set i xj).set j xi) c ∧ Keep (only pb) w w5 := fun _ => ⟨(sameT_swap (HJ ()).2.1 (HJ ()).1 (HJ ()).2.2.2.2.2).trans (HR ()).1, hb5, ((HR ()).2.2.trans ((HK4 ()).mono (fun _ _ e => e.elim))).trans hk5⟩
            clear hb5 hk5 hcell4 hm4
            go_wp2
            go_roundw
            case rel => exact ⟨j, _, Or.inl (HJ ()).2.2.1.2, rfl, HP ()⟩
            case measure => simp [intOf]; have := (HJ ()).2.2.1; omega
          · have hlt2 : decide (xj.w < xi.w) = false := by simp only [decide_eq_false_iff_not]; exact hlt
            have hlt3 : xi.w ≤ xj.w := by omega
            clear hlt
            go_wp2
            go_ret
            exact ⟨⟨_, rfl⟩, L', (HR ()).1, (HR ()).2.1.keep (HK4 ()) (fun e => e), (HR ()).2.2.trans ((HK4 ()).mono (fun _ _ e => e.elim))⟩
      · have hj2I : (n : Int) ≤ 2 * (i : Int) + 1 + 1 := by omega
        have hd3 : decide (2 * (i : Int) + 1 + 1 < (n : Int)) = false := by simp; omega
        have HX : Unit → L'[i]? = some xi ∧ L'[2 * i + 1]? = some x1 := fun _ => ⟨hxi, hx1⟩
        have HKJ : Unit → Keep nil wr wr := fun _ => Keep.refl nil wr
        clear hLl hxi hx1
        go_wp2_with fail
        rw [← c1]
        obtain ⟨j, hj⟩ : ∃ j, j = 2 * i + 1 := ⟨_, rfl⟩
        obtain ⟨xj, hxj⟩ : ∃ xj, xj = x1 := ⟨_, rfl⟩
        have HJ : Unit → L'[j]? = some xj ∧ L'[i]? = some xi ∧ (i < j ∧ j < n) ∧ (j : Int) < (N : Int) ∧ (i : Int) < (N : Int) ∧ i ≠ j := fun _ => by
          rw [hj, hxj]; exact ⟨(HX ()).2, (HX ()).1, by omega, by have := HT (); omega, by have := HT (); omega, by omega⟩
        rw [← hj]
        have hwj : wrap64 (j : Int) = (j : Int) := by rw [hj, c1]; exact hw2
        try simp only [hwj]
        clear hj hxj c1 c2 hm0
        refine (less_any pb N c L' j i xj xi (HJ ()).1 (HJ ()).2.1 wr ((HR ()).2.1.keep (HKJ ()) (fun e => e)) (HJ ()).2.2.2.1 (HJ ()).2.2.2.2.1).mono ?_
        rintro e w4 ⟨rfl, m4, hw4⟩
        have kd4 : Keep nil wr w4 := by rw [hw4]; exact (HKJ ()).trans ((Keep.refl nil wr).drewN m4)
        clear hw4
        have hcell4 : w4.cell? ⟨hb, ho, none⟩ = some (.slice (some ⟨pb, 0, none⟩) N c) := (kd4.cell hb ho (World.block_lt_of_cell? wr _ hcell) (fun e => e)).trans hcell
        have hm4 := fun k => swap_at k hb ho _ _ _ w4 hcell4
        have HK4 : Unit → Keep nil wr w4 := fun _ => kd4
        clear kd4
        by_cases hlt : xj.w < xi.w
        · go_wp2_with fail
          refine (swap_any pb N c L' i j xi xj (HJ ()).2.1 (HJ ()).1 _ ((HR ()).2.1.keep (HK4 ()) (fun e => e)) (HJ ()).2.2.2.2.1 (HJ ()).2.2.2.1 (HJ ()).2.2.2.2.2).mono ?_
          rintro e w5 ⟨rfl, hb5, hk5⟩
          have HP : Unit → SameT ((L'.set i xj).set j xi) L ∧ TBuf w5 pb ((L'.set i xj).set j xi) c ∧ Keep (only pb) w w5 := fun _ => ⟨(sameT_swap (HJ ()).2.1 (HJ ()).1 (HJ ()).2.2.2.2.2).trans (HR ()).1, hb5, ((HR ()).2.2.trans ((HK4 ()).mono (fun _ _ e => e.elim))).trans hk5⟩
          clear hb5 hk5 hcell4 hm4
          go_wp2
          go_roundw
          case rel => exact ⟨j, _, Or.inl (HJ ()).2.2.1.2, rfl, HP ()⟩
          case measure => simp [intOf]; have := (HJ ()).2.2.1; omega
        · have hlt2 : decide (xj.w < xi.w) = false := by simp only [decide_eq_false_iff_not]; exact hlt
          have hlt3 : xi.w ≤ xj.w := by omega
          clear hlt
          go_wp2
          go_ret
          exact ⟨⟨_, rfl⟩, L', (HR ()).1, (HR ()).2.1.keep (HK4 ()) (fun e => e), (HR ()).2.2.trans ((HK4 ()).mono (fun _ _ e => e.elim))⟩
    · have hj1I : (n : Int) ≤ 2 * (i : Int) + 1 := by omega
      go_wp2
      go_ret
      exact ⟨⟨_, rfl⟩, L', (HR ()).1, (HR ()).2.1, (HR ()).2.2⟩
end Go.Proofs.YtlfijfodklhplaaGreat
/- The heap: Push, Pop, Add, Take. -/
namespace Go.Proofs.YtlfijfodklhplaaGreat
open Go.RowKit
set_option linter.unusedVariables false
set_option linter.unusedSimpArgs false

@[go_sem] theorem field_what (v0 v1 v2 v3 : Value) (w : World) : (Instr.field 237 (.agg #[v0, v1, v2, v3]) 0).run Tryz.prog w = .ok (.agg #[v0, v1, v2]) w := by kernel_rfl

/-- A heap within a block: the slice of its things lies at ho. -/
structure HeapAt (w : World) (hb ho : Nat) (cs : Array Value) (ty : TypeId) (a : Option Addr) (n c : Nat) (L : List Th) : Prop where
  blk : Blk w hb cs ty
  at_ : cs[ho]? = some (.slice a n c)
  len : L.length = n
  cap : n ≤ c
  row : (a = none ∧ n = 0 ∧ c = 0) ∨ ∃ pb, a = some ⟨pb, 0, none⟩ ∧ hb ≠ pb ∧ TBuf w pb L c
/-- What a call leaves of the heap. -/
def HeapTo (w w' : World) (hb ho : Nat) (cs : Array Value) (ty : TypeId) (a : Option Addr) (P : List Th → Prop) : Prop :=
  ∃ a' n' c' L', HeapAt w' hb ho (cs.setIfInBounds ho (.slice a' n' c')) ty a' n' c' L' ∧ P L' ∧ (∀ b, a' = some ⟨b, 0, none⟩ → a = some ⟨b, 0, none⟩ ∨ w.heap.size ≤ b) ∧ Keep (fun b => b = hb ∨ a = some ⟨b, 0, none⟩) w w'

theorem set_get {cs : Array Value} {ho : Nat} {u v : Value} (h : cs[ho]? = some u) : (cs.setIfInBounds ho v)[ho]? = some v := by
  have hl := (Array.getElem?_eq_some_iff.1 h).1
  simp [Array.getElem?_setIfInBounds, hl]

set_option maxRecDepth 100000 in
set_option maxHeartbeats 2000000 in
theorem hpush_any (hb ho : Nat) (cs : Array Value) (ty : TypeId) (a : Option Addr) (n c : Nat) (L : List Th) (t : Th) (w : World) (h : HeapAt w hb ho cs ty a n c L) (hn : (n : Int) < 100000) :
    Calls Tryz.prog 185 #[ifv hb ho, thv t] w fun e w' => e = .returned (.tuple #[]) ∧ HeapTo w w' hb ho cs ty a (fun L' => SameT L' (L ++ [t])) := by
  have HPU : Unit → Calls Tryz.prog 249 #[.pointer (some ⟨hb, ho, none⟩), thv t] w fun e w' => e = .returned (.tuple #[]) ∧ ∃ pb' c', Blk w' hb (cs.setIfInBounds ho (.slice (some ⟨pb', 0, none⟩) (n + 1) c')) ty ∧
      TBuf w' pb' (L ++ [t]) c' ∧ n + 1 ≤ c' ∧ (a = some ⟨pb', 0, none⟩ ∨ w.heap.size ≤ pb') ∧ pb' ≠ hb ∧ Keep (fun b => b = hb ∨ a = some ⟨b, 0, none⟩) w w' := fun _ => by
    rcases h.row with ⟨rfl, rfl, rfl⟩ | ⟨pb, rfl, hne, ht⟩
    · have hL : L = [] := List.eq_nil_of_length_eq_zero h.len
      subst hL
      refine (push_nil hb ho cs ty t w h.blk h.at_).mono ?_
      rintro e w' ⟨he, pb', c', h1, h2, h3, h4, h5, h6⟩
      exact ⟨he, pb', c', h1, h2, h3, Or.inr h4, h5, h6.mono (fun _ _ e => Or.inl e)⟩
    · have hl := h.len
      subst hl
      refine (push_some hb ho cs ty pb c L t w h.blk h.at_ hne ht (by omega)).mono ?_
      rintro e w' ⟨he, pb', c', h1, h2, h3, h4, h5, h6⟩
      refine ⟨he, pb', c', h1, h2, h3, h4.imp (fun e => by rw [e]) id, h5, h6.mono (fun _ _ e => e.imp id (fun e => by rw [e]))⟩
  have HH : Unit → HeapAt w hb ho cs ty a n c L ∧ (n : Int) < 100000 := fun _ => ⟨h, hn⟩
  have hmp := fun k => push_at k hb ho w
  clear h hn
  go_enter Tryz.func185, Tryz.ntmps185
  go_wp2_with fail
  refine (HPU ()).mono ?_
  rintro e w1 ⟨rfl, pb', c', h1, h2, h3, h4, h5, h6⟩
  have HP : Unit → Blk w1 hb (cs.setIfInBounds ho (.slice (some ⟨pb', 0, none⟩) (n + 1) c')) ty ∧ TBuf w1 pb' (L ++ [t]) c' ∧ n + 1 ≤ c' ∧ (a = some ⟨pb', 0, none⟩ ∨ w.heap.size ≤ pb') ∧ pb' ≠ hb ∧ Keep (fun b => b = hb ∨ a = some ⟨b, 0, none⟩) w w1 := fun _ => ⟨h1, h2, h3, h4, h5, h6⟩
  have hcell := (h1.cell ho).trans (set_get (HH ()).1.at_)
  have hml := fun k => len_at k hb ho _ _ _ w1 hcell
  have hw1 : wrap64 ((n : Int) + 1 - 1) = (n : Int) := by unfold wrap64; have := (HH ()).2; omega
  have hw2 : wrap64 (n : Int) = (n : Int) := by unfold wrap64; have := (HH ()).2; omega
  clear h1 h2 h3 h4 h5 h6 hmp
  go_wp2_with fail
  refine (len_any (some ⟨pb', 0, none⟩) (n + 1) c' w1).mono ?_
  rintro e w2 ⟨rfl, rfl⟩
  have HU : Unit → _ := fun _ => up_any hb ho _ ty pb' c' (n + 1) (L ++ [t]) n w1 (HP ()).1 (set_get (HH ()).1.at_) (Ne.symm (HP ()).2.2.2.2.1) (HP ()).2.1 (by rw [List.length_append, (HH ()).1.len]; rfl) (by omega) (by have := (HH ()).2; omega)
  go_wp2_with fail
  refine (HU ()).mono ?_
  rintro e w3 ⟨rfl, L', hs, hb3, hk3⟩
  have HE : Unit → HeapTo w w3 hb ho cs ty a (fun L' => SameT L' (L ++ [t])) := fun _ => by
    obtain ⟨h1, h2, h3, h4, h5, h6⟩ := HP ()
    have hl3 : L'.length = n + 1 := by rw [hs.1, List.length_append, (HH ()).1.len]; rfl
    refine ⟨some ⟨pb', 0, none⟩, n + 1, c', L', ⟨h1.keep hk3 (fun e => h5 e.symm), set_get (HH ()).1.at_, hl3, h3, Or.inr ⟨pb', rfl, Ne.symm h5, hb3⟩⟩, hs, fun b e => ?_, h6.trans' hk3 (fun i hi e => ?_)⟩
    · cases e; exact h4
    · simp only [only] at e
      subst e
      rcases h4 with h4 | h4
      · exact Or.inr h4
      · omega
  clear hs hb3 hk3
  go_wp2
  go_end0
  exact ⟨rfl, HE ()⟩

/-- What is left when t was taken. -/
def Took (L : List Th) (t : Th) (n : Nat) (L' : List Th) : Prop := L'.length = n ∧ (∀ x, x ∈ L → x = t ∨ x ∈ L') ∧ (∀ x, x ∈ L' → x ∈ L) ∧ t ∈ L

set_option maxRecDepth 100000 in
set_option maxHeartbeats 2000000 in
theorem hpop_any (hb ho : Nat) (cs : Array Value) (ty : TypeId) (a : Option Addr) (n c : Nat) (L : List Th) (w : World) (h : HeapAt w hb ho cs ty a (n + 1) c L) (hn : (n : Int) < 100000) :
    Calls Tryz.prog 148 #[ifv hb ho] w fun e w' => ∃ t, e = .returned (thv t) ∧ HeapTo w w' hb ho cs ty a (fun L' => Took L t n L') := by
  obtain ⟨pb, rfl, hne, ht⟩ : ∃ pb, a = some ⟨pb, 0, none⟩ ∧ hb ≠ pb ∧ TBuf w pb L c := by
    rcases h.row with ⟨_, h0, _⟩ | h
    · omega
    · exact h
  have HH : Unit → HeapAt w hb ho cs ty (some ⟨pb, 0, none⟩) (n + 1) c L ∧ TBuf w pb L c ∧ (n : Int) < 100000 := fun _ => ⟨h, ht, hn⟩
  have hcell := (h.blk.cell ho).trans h.at_
  have hml := fun k => len_at k hb ho _ _ _ w hcell
  have hms := fun k => swap_at k hb ho _ _ _ w hcell
  have hw1 : wrap64 ((n : Int) + 1 - 1) = (n : Int) := by unfold wrap64; omega
  have hw2 : wrap64 (n : Int) = (n : Int) := by unfold wrap64; omega
  have HSW : Unit → Calls Tryz.prog 246 #[.slice (some ⟨pb, 0, none⟩) (n + 1) c, .int .i64 0, .int .i64 (n : Int)] w fun e w' => e = .returned (.tuple #[]) ∧ ∃ L1, SameT L1 L ∧ TBuf w' pb L1 c ∧ Keep (only pb) w w' := fun _ => by
    have hL := h.len
    obtain ⟨x, hx⟩ : ∃ x, L[0]? = some x := ⟨_, List.getElem?_eq_getElem (by omega)⟩
    obtain ⟨y, hy⟩ : ∃ y, L[n]? = some y := ⟨_, List.getElem?_eq_getElem (by omega)⟩
    by_cases h0 : n = 0
    · subst h0
      refine (swap_same pb (0 + 1) c L 0 x hx w ht (by omega)).mono ?_
      rintro e w' ⟨he, h1, h2⟩
      exact ⟨he, L, SameT.refl L, h1, h2⟩
    · refine (swap_any pb (n + 1) c L 0 n x y hx hy w ht (by omega) (by omega) (by omega)).mono ?_
      rintro e w' ⟨he, h1, h2⟩
      exact ⟨he, _, sameT_swap hx hy (by omega), h1, h2⟩
  clear h ht hn
  go_enter Tryz.func148, Tryz.ntmps148
  go_wp2_with fail
  refine (len_any (some ⟨pb, 0, none⟩) (n + 1) c w).mono ?_
  rintro e w0 ⟨rfl, rfl⟩
  go_wp2_with fail
  refine (HSW ()).mono ?_
  rintro e w1 ⟨rfl, L1, hs1, hb1, hk1⟩
  have HD : Unit → _ := fun _ => down_any hb ho cs ty pb c (n + 1) L1 n w1 ((HH ()).1.blk.keep hk1 (fun e => hne e)) (HH ()).1.at_ hne hb1 (hs1.1.trans (HH ()).1.len) (by omega) (by have := (HH ()).2.2; omega)
  have H1 : Unit → SameT L1 L ∧ Keep (only pb) w w1 := fun _ => ⟨hs1, hk1⟩
  clear hs1 hb1 hk1 hml hms hcell HSW
  go_wp2_with fail
  refine (HD ()).mono ?_
  rintro e w2 ⟨⟨b, rfl⟩, L2, hs2, hb2, hk2⟩
  have hsm : SameT L2 L := hs2.trans (H1 ()).1
  have hkk : Keep (only pb) w w2 := (H1 ()).2.trans hk2
  have hblk := (HH ()).1.blk.keep hkk (fun e => hne e)
  have hL2 : L2.length = n + 1 := hsm.1.trans (HH ()).1.len
  obtain ⟨t, hlast⟩ : ∃ t, L2[n]? = some t := ⟨_, List.getElem?_eq_getElem (by omega)⟩
  have HPO : Unit → _ := fun _ => pop_any hb ho cs ty pb c n L2 t w2 hblk (HH ()).1.at_ hne hb2 hL2 (HH ()).1.cap hlast (by have := (HH ()).2.2; omega)
  have H2 : Unit → SameT L2 L ∧ Keep (only pb) w w2 ∧ L2[n]? = some t ∧ L2.length = n + 1 := fun _ => ⟨hsm, hkk, hlast, hL2⟩
  have hmq := fun k => pop_at k hb ho w2
  clear hs2 hb2 hk2 hsm hkk hblk hL2 hlast HD
  go_wp2_with fail
  refine (HPO ()).mono ?_
  rintro e w3 ⟨rfl, e1, e2, e3⟩
  have HE : Unit → HeapTo w w3 hb ho cs ty (some ⟨pb, 0, none⟩) (fun L' => Took L t n L') := fun _ => by
    obtain ⟨h1, h2, h3, h4⟩ := H2 ()
    refine ⟨some ⟨pb, 0, none⟩, n, c, L2.take n, ⟨e1, set_get (HH ()).1.at_, by rw [List.length_take]; omega, by have := (HH ()).1.cap; omega, Or.inr ⟨pb, rfl, hne, e2⟩⟩, ⟨by rw [List.length_take]; omega, fun x hx => ?_, fun x hx => (h1.2 x).1 (List.mem_of_mem_take hx), (h1.2 t).1 (List.mem_of_getElem? h3)⟩, fun b e => Or.inl e, (h2.mono (fun _ _ e => Or.inr (by rw [e]))).trans (e3.mono (fun _ _ e => Or.inl e))⟩
    obtain ⟨k, hk⟩ := List.getElem?_of_mem ((h1.2 x).2 hx)
    have hkl := (List.getElem?_eq_some_iff.1 hk).1
    by_cases hkn : k = n
    · subst hkn
      rw [h3] at hk
      cases hk
      exact Or.inl rfl
    · exact Or.inr (List.mem_of_getElem? (i := k) (by rw [List.getElem?_take_of_lt (by omega)]; exact hk))
  clear e1 e2 e3 HPO
  go_wp2
  go_ret
  exact ⟨t, rfl, HE ()⟩

set_option maxRecDepth 100000 in
set_option maxHeartbeats 2000000 in
theorem add_any (hb ho : Nat) (cs : Array Value) (ty : TypeId) (a : Option Addr) (n c : Nat) (L : List Th) (e : Ed) (wt : Int) (w : World) (h : HeapAt w hb ho cs ty a n c L) (hn : (n : Int) < 100000) :
    Calls Tryz.prog 147 #[.pointer (some ⟨hb, ho, none⟩), .agg #[.int .i64 e.a, .int .i64 e.b, .int .i64 e.wt], .int .i64 wt] w fun r w' => r = .returned (.tuple #[]) ∧ HeapTo w w' hb ho cs ty a (fun L' => SameT L' (L ++ [⟨e, wt⟩])) := by
  have HH : Unit → ∀ w1, Keep nil w w1 → HeapAt w1 hb ho cs ty a n c L := fun _ w1 k => ⟨h.blk.keep k (fun e => e), h.at_, h.len, h.cap, h.row.imp id (fun ⟨pb, h1, h2, h3⟩ => ⟨pb, h1, h2, h3.keep k (fun e => e)⟩)⟩
  have HN : Unit → (n : Int) < 100000 := fun _ => hn
  clear h hn
  go_enter Tryz.func147, Tryz.ntmps147
  go_wp2_with fail
  obtain ⟨W1, hW1⟩ : ∃ W1, W1 = w.alloc (.cells #[.int .i64 e.a, .int .i64 e.b, .int .i64 e.wt] 30) := ⟨_, rfl⟩
  have hbx : Blk W1 w.heap.size #[.int .i64 e.a, .int .i64 e.b, .int .i64 e.wt] 30 := by rw [hW1]; exact Blk.new _ _ _
  have hk1 : Keep nil w W1 := by rw [hW1]; exact (Keep.refl nil w).alloc _
  rw [← hW1]
  obtain ⟨xb, hxb⟩ : ∃ xb, xb = w.heap.size := ⟨_, rfl⟩
  rw [← hxb] at hbx ⊢
  have z0 := hbx.cell 0
  have z1 := hbx.cell 1
  have z2 := hbx.cell 2
  simp at z0 z1 z2
  have HK : Unit → Keep nil w W1 := fun _ => hk1
  clear hW1 hbx hk1 hxb
  have HPH : Unit → _ := fun _ => hpush_any hb ho cs ty a n c L ⟨e, wt⟩ W1.drew (HH () W1.drew (HK ()).drew) (HN ())
  go_still_tail 8, (by kernel_rfl)
  go_wp2_with fail
  refine (HPH ()).mono ?_
  rintro r w2 ⟨rfl, h2⟩
  have HE : Unit → HeapTo w w2 hb ho cs ty a (fun L' => SameT L' (L ++ [⟨e, wt⟩])) := fun _ => by
    obtain ⟨a', n', c', L', g1, g2, g3, g4⟩ := h2
    exact ⟨a', n', c', L', g1, g2, fun b hb => (g3 b hb).imp id (fun h => Nat.le_trans (HK ()).size h), ((HK ()).drew.mono (fun _ _ e => e.elim)).trans g4⟩
  clear h2 HPH
  go_wp2
  go_end0
  exact ⟨rfl, HE ()⟩

set_option maxRecDepth 100000 in
set_option maxHeartbeats 2000000 in
theorem take_none (hb ho : Nat) (a : Option Addr) (c : Nat) (w : World) (h : w.cell? ⟨hb, ho, none⟩ = some (.slice a 0 c)) :
    Calls Tryz.prog 103 #[.pointer (some ⟨hb, ho, none⟩)] w fun r w' => r = .returned (.tuple #[.agg #[.int .i64 0, .int .i64 0, .int .i64 0], .bool false]) ∧ Keep nil w w' := by
  have hl := World.block_lt_of_cell? w _ h
  simp only at hl
  go_enter Tryz.func103, Tryz.ntmps103
  go_wp2
  refine bodyPost_ret (v := .tuple #[.agg #[.int .i64 0, .int .i64 0, .int .i64 0], .bool false]) ?_ rfl ?_
  · rw [results_cell_tmp rfl]
    unfold loadVar
    go_simp
  · exact ⟨rfl, (Keep.refl nil w).alloc _⟩

set_option maxRecDepth 100000 in
set_option maxHeartbeats 2000000 in
theorem take_some (hb ho : Nat) (cs : Array Value) (ty : TypeId) (a : Option Addr) (n c : Nat) (L : List Th) (w : World) (h : HeapAt w hb ho cs ty a (n + 1) c L) (hn : (n : Int) < 100000) :
    Calls Tryz.prog 103 #[.pointer (some ⟨hb, ho, none⟩)] w fun r w' => ∃ t : Th, r = .returned (.tuple #[.agg #[.int .i64 t.e.a, .int .i64 t.e.b, .int .i64 t.e.wt], .bool true]) ∧ HeapTo w w' hb ho cs ty a (fun L' => Took L t n L') := by
  have HH : Unit → ∀ w1, Keep nil w w1 → HeapAt w1 hb ho cs ty a (n + 1) c L := fun _ w1 k => ⟨h.blk.keep k (fun e => e), h.at_, h.len, h.cap, h.row.imp id (fun ⟨pb, h1, h2, h3⟩ => ⟨pb, h1, h2, h3.keep k (fun e => e)⟩)⟩
  have HN : Unit → (n : Int) < 100000 := fun _ => hn
  have hcell := (h.blk.cell ho).trans h.at_
  have hhl := h.blk.lt
  have hpl : ∀ pb, a = some ⟨pb, 0, none⟩ → pb < w.heap.size := fun pb e => by
    rcases h.row with ⟨e', _⟩ | ⟨pb', e', _, ht⟩
    · rw [e'] at e; cases e
    · rw [e'] at e; cases e; exact ht.lt
  have HPL : Unit → ∀ pb, a = some ⟨pb, 0, none⟩ → pb < w.heap.size := fun _ => hpl
  have hne0 : ¬ ((n : Int) + 1 = 0) := by omega
  clear h hn hpl
  go_enter Tryz.func103, Tryz.ntmps103
  go_wp2_with fail
  obtain ⟨W1, hW1⟩ : ∃ W1, W1 = w.alloc (.cells #[.int .i64 0, .int .i64 0, .int .i64 0] 30) := ⟨_, rfl⟩
  have hbx : Blk W1 w.heap.size #[.int .i64 0, .int .i64 0, .int .i64 0] 30 := by rw [hW1]; exact Blk.new _ _ _
  have hk1 : Keep nil w W1 := by rw [hW1]; exact (Keep.refl nil w).alloc _
  rw [← hW1]
  obtain ⟨xb, hxb⟩ : ∃ xb, xb = w.heap.size := ⟨_, rfl⟩
  rw [← hxb] at hbx ⊢
  have HX : Unit → Blk W1 xb #[.int .i64 0, .int .i64 0, .int .i64 0] 30 ∧ Keep nil w W1 ∧ xb = w.heap.size := fun _ => ⟨hbx, hk1, hxb⟩
  clear hW1 hbx hk1 hxb
  refine (hpop_any hb ho cs ty a n c L W1 (HH () W1 (HX ()).2.1) (HN ())).mono ?_
  rintro r w2 ⟨t, rfl, h2⟩
  have hbx2 : Blk w2 xb #[.int .i64 0, .int .i64 0, .int .i64 0] 30 := by
    obtain ⟨_, _, _, _, _, _, _, g4⟩ := h2
    exact (HX ()).1.keep g4 (fun e => by
      have hx := (HX ()).2.2
      rcases e with e | e
      · omega
      · have := HPL () xb e; omega)
  have z0 := hbx2.cell 0
  have z1 := hbx2.cell 1
  have z2 := hbx2.cell 2
  have f0 := hbx2.frozen 0
  have f1 := hbx2.frozen 1
  have f2 := hbx2.frozen 2
  simp at z0 z1 z2
  have HE : Unit → HeapTo W1 w2 hb ho cs ty a (fun L' => Took L t n L') ∧ Blk w2 xb #[.int .i64 0, .int .i64 0, .int .i64 0] 30 := fun _ => ⟨h2, hbx2⟩
  clear h2 hbx2
  go_wp2
  refine bodyPost_ret (v := .tuple #[.agg #[.int .i64 t.e.a, .int .i64 t.e.b, .int .i64 t.e.wt], .bool true]) ?_ rfl ?_
  · rw [results_cell_tmp rfl]
    unfold loadVar
    go_simp
  · refine ⟨t, rfl, ?_⟩
    obtain ⟨⟨a', n', c', L', g1, g2, g3, g4⟩, hbx⟩ := HE ()
    have hx := (HX ()).2.2
    have hs := (HX ()).2.1.size
    have kx : Keep (only xb) w2 (((w2.setCell ⟨xb, 0, none⟩ (.int .i64 t.e.a)).setCell ⟨xb, 1, none⟩ (.int .i64 t.e.b)).setCell ⟨xb, 2, none⟩ (.int .i64 t.e.wt)) := (((Keep.refl (only xb) w2).setCell (p := ⟨xb, 0, none⟩) (fun _ => rfl) _).setCell (p := ⟨xb, 1, none⟩) (fun _ => rfl) _).setCell (p := ⟨xb, 2, none⟩) (fun _ => rfl) _
    have hw12 := (HX ()).1.lt
    refine ⟨a', n', c', L', ⟨g1.blk.keep kx (fun e => by simp only [only] at e; omega), g1.at_, g1.len, g1.cap, g1.row.imp id (fun ⟨pb, h1, h2, h3⟩ => ⟨pb, h1, h2, h3.keep kx (fun e => by
      simp only [only] at e
      rcases g3 pb h1 with h | h
      · have := HPL () pb h; omega
      · omega)⟩)⟩, g2, fun b hb => (g3 b hb).imp id (fun h => by omega), ?_⟩
    · exact (((HX ()).2.1.mono (fun _ _ e => e.elim)).trans g4).trans' kx (fun i hi e => by simp only [only] at e; omega)
end Go.Proofs.YtlfijfodklhplaaGreat
/- A tree that grows: reach and joinAll. -/
namespace Go.Proofs.YtlfijfodklhplaaGreat
open Go.RowKit
set_option linter.unusedVariables false
set_option linter.unusedSimpArgs false

/-- The cells of a growth. -/
def gcs (esv : Value) (R : Nat → Bool) (cnt : Nat) (sl : Value) : Array Value :=
  #[esv, .bool (R 0), .bool (R 1), .bool (R 2), .bool (R 3), .bool (R 4), .bool (R 5), .bool (R 6), .bool (R 7), .bool (R 8), .bool (R 9), .int .i64 (cnt : Int), sl]
def mark (R : Nat → Bool) (k : Nat) (i : Nat) : Bool := if i = k then true else R i
theorem gcs_get (esv : Value) (R : Nat → Bool) (cnt : Nat) (sl : Value) (k : Nat) (hk : k < 10) : (gcs esv R cnt sl)[1 + k]? = some (.bool (R k)) := by
  match k, hk with
  | 0, _ => rfl
  | 1, _ => rfl
  | 2, _ => rfl
  | 3, _ => rfl
  | 4, _ => rfl
  | 5, _ => rfl
  | 6, _ => rfl
  | 7, _ => rfl
  | 8, _ => rfl
  | 9, _ => rfl
theorem gcs_mark (esv : Value) (R : Nat → Bool) (cnt : Nat) (sl : Value) (k : Nat) (hk : k < 10) : (gcs esv R cnt sl).setIfInBounds (1 + k) (.bool true) = gcs esv (mark R k) cnt sl := by
  match k, hk with
  | 0, _ => rfl
  | 1, _ => rfl
  | 2, _ => rfl
  | 3, _ => rfl
  | 4, _ => rfl
  | 5, _ => rfl
  | 6, _ => rfl
  | 7, _ => rfl
  | 8, _ => rfl
  | 9, _ => rfl
/-- What a growth is: all that it has made is new since W0. -/
structure Gw (ex : Nat → Prop) (W0 w : World) (gb : Nat) (esv : Value) (R : Nat → Bool) (cnt : Nat) (a : Option Addr) (n c : Nat) (L : List Th) : Prop where
  keep : Keep ex W0 w
  g0 : ex gb ∨ W0.heap.size ≤ gb
  heap : HeapAt w gb 12 (gcs esv R cnt (.slice a n c)) 174 a n c L
  pile : ∀ b, a = some ⟨b, 0, none⟩ → ex b ∨ W0.heap.size ≤ b
theorem Gw.same {ex : Nat → Prop} {W0 w w1 : World} {gb : Nat} {esv : Value} {R : Nat → Bool} {cnt : Nat} {a : Option Addr} {n c : Nat} {L : List Th} (h : Gw ex W0 w gb esv R cnt a n c L) (k : Keep nil w w1) : Gw ex W0 w1 gb esv R cnt a n c L :=
  ⟨h.keep.trans' k (fun _ _ e => e.elim), h.g0, ⟨h.heap.blk.keep k (fun e => e), h.heap.at_, h.heap.len, h.heap.cap, h.heap.row.imp id (fun ⟨pb, h1, h2, h3⟩ => ⟨pb, h1, h2, h3.keep k (fun e => e)⟩)⟩, h.pile⟩
theorem Gw.to {ex : Nat → Prop} {W0 w w' : World} {gb : Nat} {esv : Value} {R : Nat → Bool} {cnt : Nat} {a : Option Addr} {n c : Nat} {L : List Th} {P : List Th → Prop} (h : Gw ex W0 w gb esv R cnt a n c L) (ht : HeapTo w w' gb 12 (gcs esv R cnt (.slice a n c)) 174 a P) :
    ∃ a' n' c' L', Gw ex W0 w' gb esv R cnt a' n' c' L' ∧ P L' := by
  obtain ⟨a', n', c', L', g1, g2, g3, g4⟩ := ht
  have hs := h.keep.size
  refine ⟨a', n', c', L', ⟨h.keep.trans' g4 (fun i hi e => ?_), h.g0, g1, fun b hb => ?_⟩, g2⟩
  · rcases e with e | e
    · rcases h.g0 with e2 | e2
      · rw [e]; exact e2
      · omega
    · rcases h.pile i e with e2 | e2
      · exact e2
      · omega
  · rcases g3 b hb with e | e
    · exact h.pile b e
    · exact Or.inr (by omega)
/-- The same growth, told from here on. -/
theorem Gw.here {ex : Nat → Prop} {W0 w : World} {gb : Nat} {esv : Value} {R : Nat → Bool} {cnt : Nat} {a : Option Addr} {n c : Nat} {L : List Th} (h : Gw ex W0 w gb esv R cnt a n c L) : Gw (fun b => b = gb ∨ a = some ⟨b, 0, none⟩) w w gb esv R cnt a n c L :=
  ⟨Keep.refl _ _, Or.inl (Or.inl rfl), h.heap, fun b e => Or.inl (Or.inr e)⟩
theorem Gw.back {ex : Nat → Prop} {W0 w w' : World} {gb : Nat} {esv : Value} {R : Nat → Bool} {cnt : Nat} {a : Option Addr} {n c : Nat} {L : List Th} {esv' : Value} {R' : Nat → Bool} {cnt' : Nat} {a' : Option Addr} {n' c' : Nat} {L' : List Th}
    (h : Gw ex W0 w gb esv R cnt a n c L) (h' : Gw (fun b => b = gb ∨ a = some ⟨b, 0, none⟩) w w' gb esv' R' cnt' a' n' c' L') : Gw ex W0 w' gb esv' R' cnt' a' n' c' L' := by
  have hs := h.keep.size
  refine ⟨h.keep.trans' h'.keep (fun i hi e => ?_), h.g0, h'.heap, fun b hb => ?_⟩
  · rcases e with e | e
    · rcases h.g0 with e2 | e2
      · rw [e]; exact e2
      · omega
    · rcases h.pile i e with e2 | e2
      · exact e2
      · omega
  · rcases h'.pile b hb with (e | e) | e
    · rw [e]; exact h.g0
    · exact h.pile b e
    · exact Or.inr (by omega)

/-- The edges at a node, as things. -/
def touch (es : List Ed) (k : Int) (x : Th) : Prop := ∃ e ∈ es, (e.a = k ∨ e.b = k) ∧ x = ⟨e, e.wt⟩

set_option maxRecDepth 100000 in
set_option maxHeartbeats 2000000 in
theorem reach_old (ex : Nat → Prop) (W0 w : World) (gb : Nat) (esv : Value) (R : Nat → Bool) (cnt : Nat) (a : Option Addr) (n c : Nat) (L : List Th) (k : Nat) (h : Gw ex W0 w gb esv R cnt a n c L) (hk : k < 10) (hR : R k = true) :
    Calls Tryz.prog 102 #[.pointer (some ⟨gb, 0, none⟩), .int .i64 (k : Int)] w fun r w' => r = .returned (.tuple #[]) ∧ w = w' := by
  have hc := h.heap.blk.cell (1 + k)
  rw [gcs_get _ _ _ _ _ hk, hR] at hc
  have hkI : (k : Int) < 10 := by omega
  clear h hR
  go_enter Tryz.func102, Tryz.ntmps102
  go_wp2
  refine bodyPost_ret (results_none rfl _ _ _) rfl ?_
  exact ⟨rfl, rfl⟩

theorem touch_succ {es : List Ed} {i : Nat} {e : Ed} (he : es[i]? = some e) (k : Int) (x : Th) : touch (es.take (i + 1)) k x ↔ touch (es.take i) k x ∨ ((e.a = k ∨ e.b = k) ∧ x = ⟨e, e.wt⟩) := by
  have hl := (List.getElem?_eq_some_iff.1 he).1
  have hx := (List.getElem?_eq_some_iff.1 he).2
  have e1 : es.take (i + 1) = es.take i ++ [e] := by rw [List.take_add_one, he]; rfl
  unfold touch
  rw [e1]
  constructor
  · rintro ⟨u, hu, h1, h2⟩
    rcases List.mem_append.1 hu with h | h
    · exact Or.inl ⟨u, h, h1, h2⟩
    · simp at h; subst h; exact Or.inr ⟨h1, h2⟩
  · rintro (⟨u, hu, h1, h2⟩ | ⟨h1, h2⟩)
    · exact ⟨u, List.mem_append_left _ hu, h1, h2⟩
    · exact ⟨e, by simp, h1, h2⟩
theorem Gw.mark {ex : Nat → Prop} {W0 w : World} {gb : Nat} {esv : Value} {R : Nat → Bool} {cnt : Nat} {a : Option Addr} {n c : Nat} {L : List Th} (h : Gw ex W0 w gb esv R cnt a n c L) (k : Nat) (hk : k < 10) :
    Gw ex W0 ((w.setCell ⟨gb, 1 + k, none⟩ (.bool true)).setCell ⟨gb, 11, none⟩ (.int .i64 ((cnt : Int) + 1))) gb esv (Go.Proofs.YtlfijfodklhplaaGreat.mark R k) (cnt + 1) a n c L := by
  have ks : Keep (only gb) w ((w.setCell ⟨gb, 1 + k, none⟩ (.bool true)).setCell ⟨gb, 11, none⟩ (.int .i64 ((cnt : Int) + 1))) := ((Keep.refl (only gb) w).setCell (p := ⟨gb, 1 + k, none⟩) (fun _ => rfl) _).setCell (p := ⟨gb, 11, none⟩) (fun _ => rfl) _
  have hb := (h.heap.blk.set (1 + k) (.bool true)).set 11 (.int .i64 ((cnt : Int) + 1))
  rw [gcs_mark _ _ _ _ _ hk] at hb
  refine ⟨h.keep.trans' ks (fun i hi e => by
    simp only [only] at e
    rcases h.g0 with e2 | e2
    · rw [e]; exact e2
    · omega), h.g0, ⟨?_, rfl, h.heap.len, h.heap.cap, h.heap.row.imp id (fun ⟨pb, h1, h2, h3⟩ => ⟨pb, h1, h2, h3.keep ks (fun e => h2 e.symm)⟩)⟩, h.pile⟩
  have e : ((gcs esv (Go.Proofs.YtlfijfodklhplaaGreat.mark R k) cnt (.slice a n c)).setIfInBounds 11 (.int .i64 ((cnt : Int) + 1))) = gcs esv (Go.Proofs.YtlfijfodklhplaaGreat.mark R k) (cnt + 1) (.slice a n c) := by
    unfold gcs
    simp
  rw [e] at hb
  exact hb

end Go.Proofs.YtlfijfodklhplaaGreat
/- Walk of reach, at a node that is new. -/
namespace Go.Proofs.YtlfijfodklhplaaGreat
open Go.RowKit
set_option linter.unusedVariables false
set_option linter.unusedSimpArgs false

set_option maxRecDepth 100000 in
set_option maxHeartbeats 400000 in
theorem reach_new (ex : Nat → Prop) (W0 w : World) (gb cp : Nat) (sa : Option Addr) (es : List Ed) (R : Nat → Bool) (cnt : Nat) (a : Option Addr) (n c : Nat) (L : List Th) (k : Nat) (h : Gw ex W0 w gb (.slice sa es.length cp) R cnt a n c L) (hk : k < 10) (hR : R k = false)
    (hsl : ESl W0 sa es) (hsx : ∀ bb bo, 0 < es.length → sa = some ⟨bb, bo, none⟩ → ¬ ex bb) (hes : es.length ≤ 30) (hn : (n : Int) < 1000) (hcnt : (cnt : Int) < 1000) :
    Calls Tryz.prog 102 #[.pointer (some ⟨gb, 0, none⟩), .int .i64 (k : Int)] w fun r w' => r = .returned (.tuple #[]) ∧ ∃ a' n' c' L', Gw ex W0 w' gb (.slice sa es.length cp) (mark R k) (cnt + 1) a' n' c' L' ∧
      n' ≤ n + es.length ∧ ∀ x, x ∈ L' ↔ x ∈ L ∨ touch es (k : Int) x := by
  have hc := h.heap.blk.cell (1 + k)
  rw [gcs_get _ _ _ _ _ hk, hR] at hc
  have hf := h.heap.blk.frozen (1 + k)
  have hc0 := h.heap.blk.cell 0
  have hc11 := h.heap.blk.cell 11
  have hf11 := h.heap.blk.frozen 11
  simp [gcs] at hc0 hc11
  have hkI : (k : Int) < 10 := by omega
  have hk11 : ¬ (1 + k = 11) := by omega
  have hk0 : ¬ (1 + k = 0) := by omega
  have HG : Unit → Gw ex W0 w gb (.slice sa es.length cp) R cnt a n c L := fun _ => h
  have HB : Unit → ESl W0 sa es ∧ es.length ≤ 30 ∧ (n : Int) < 1000 ∧ (cnt : Int) < 1000 ∧ k < 10 := fun _ => ⟨hsl, hes, hn, hcnt, hk⟩
  have HSX : Unit → ∀ bb bo, 0 < es.length → sa = some ⟨bb, bo, none⟩ → ¬ ex bb := fun _ => hsx
  have hwc : wrap64 ((cnt : Int) + 1) = (cnt : Int) + 1 := by unfold wrap64; omega
  clear h hR hsl hes hn hcnt hsx
  go_enter Tryz.func102, Tryz.ntmps102
  go_wp2_with fail
  try simp only [hwc]
  clear hwc
  obtain ⟨W1, hW1⟩ : ∃ W1, W1 = (w.setCell ⟨gb, 1 + k, none⟩ (.bool true)).setCell ⟨gb, 11, none⟩ (.int .i64 ((cnt : Int) + 1)) := ⟨_, rfl⟩
  rw [← hW1]
  have HG1 : Unit → Gw ex W0 W1 gb (.slice sa es.length cp) (mark R k) (cnt + 1) a n c L := fun _ => by rw [hW1]; exact (HG ()).mark k (HB ()).2.2.2.2
  clear hW1 hc hf hc0 hc11 hf11
  go_loopw [29] (fun v wr => ∃ (i : Nat) (a' : Option Addr) (n' c' : Nat) (L' : List Th), i ≤ es.length ∧ v = .int .i64 (i : Int) ∧ Gw ex W0 wr gb (.slice sa es.length cp) (mark R k) (cnt + 1) a' n' c' L' ∧ n' ≤ n + i ∧ ∀ x, x ∈ L' ↔ x ∈ L ∨ touch (es.take i) (k : Int) x) (fun v _ => es.length - (intOf v).toNat)
  case atStart => exact ⟨0, a, n, c, L, by omega, rfl, HG1 (), by omega, fun x => ⟨Or.inl, fun h => h.elim id (fun ⟨e, he, _⟩ => by simp at he)⟩⟩
  case round =>
    obtain ⟨i, a', n', c', L', hi, rfl, hg, hn', hmem⟩ := hrel
    have HR : Unit → Gw ex W0 wr gb (.slice sa es.length cp) (mark R k) (cnt + 1) a' n' c' L' ∧ n' ≤ n + i ∧ ∀ x, x ∈ L' ↔ x ∈ L ∨ touch (es.take i) (k : Int) x := fun _ => ⟨hg, hn', hmem⟩
    clear hg hn' hmem
    by_cases hil : i < es.length
    · obtain ⟨e, he⟩ : ∃ e, es[i]? = some e := ⟨_, List.getElem?_eq_getElem hil⟩
      obtain ⟨bb, bo, rfl, hbb, hrow⟩ := (HB ()).1.some hil
      obtain ⟨q0, q1, q2⟩ := erow_get (hrow.keep (HR ()).1.keep hbb (HSX () _ _ (by omega) rfl)) i e he
      have hbw : bb < wr.heap.size := Nat.lt_of_lt_of_le hbb (HR ()).1.keep.size
      have hiI : (i : Int) < (es.length : Int) := by omega
      have hwi : (i : Int) < 1000 := by have := HB (); omega
      obtain ⟨ea, eb, ew⟩ := e
      simp only at q0 q1 q2
      have HE : Unit → es[i]? = some ⟨ea, eb, ew⟩ := fun _ => he
      clear he hrow hbb
      by_cases h1 : ea = (k : Int)
      · as_aux_lemma =>
        subst h1
        have HM : Unit → ∀ x, touch (es.take (i + 1)) (k : Int) x ↔ touch (es.take i) (k : Int) x ∨ x = ⟨⟨(k : Int), eb, ew⟩, ew⟩ := fun _ x => by
          rw [touch_succ (HE ())]
          exact ⟨fun h => h.imp id (fun h => h.2), fun h => h.imp id (fun h => ⟨Or.inl rfl, h⟩)⟩
        go_wp2_with fail
        obtain ⟨W2, hW2⟩ : ∃ W2, W2 = wr.alloc (.cells #[.int .i64 (k : Int), .int .i64 eb, .int .i64 ew] 30) := ⟨_, rfl⟩
        have hbx : Blk W2 wr.heap.size #[.int .i64 (k : Int), .int .i64 eb, .int .i64 ew] 30 := by rw [hW2]; exact Blk.new _ _ _
        have hk2 : Keep nil wr W2 := by rw [hW2]; exact (Keep.refl nil wr).alloc _
        rw [← hW2]
        obtain ⟨xb, hxb⟩ : ∃ xb, xb = wr.heap.size := ⟨_, rfl⟩
        rw [← hxb] at hbx ⊢
        have z0 := hbx.cell 0
        have z1 := hbx.cell 1
        have z2 := hbx.cell 2
        simp at z0 z1 z2
        have HG2 : Unit → Gw ex W0 W2.drew gb (.slice (some ⟨bb, bo, none⟩) es.length cp) (mark R k) (cnt + 1) a' n' c' L' := fun _ => (HR ()).1.same hk2.drew
        clear hW2 hbx hxb q0 q1 q2
        have HA : Unit → Calls Tryz.prog 147 #[.pointer (some ⟨gb, 12, none⟩), .agg #[.int .i64 (k : Int), .int .i64 eb, .int .i64 ew], .int .i64 ew] W2.drew fun r w' => r = .returned (.tuple #[]) ∧ HeapTo W2.drew w' gb 12 (gcs (.slice (some ⟨bb, bo, none⟩) es.length cp) (mark R k) (cnt + 1) (.slice a' n' c')) 174 a' (fun L'' => SameT L'' (L' ++ [⟨⟨(k : Int), eb, ew⟩, ew⟩])) := fun _ => add_any gb 12 _ 174 a' n' c' L' ⟨(k : Int), eb, ew⟩ ew W2.drew (HG2 ()).heap (by have := (HR ()).2.1; have := HB (); omega)
        go_still_tail 6, (by kernel_rfl)
        go_wp2_with fail
        refine (HA ()).mono ?_
        rintro r w3 ⟨rfl, h3⟩
        obtain ⟨a2, n2, c2, L2, hg2, hs2⟩ := (HG2 ()).to h3
        have HP : Unit → Gw ex W0 w3 gb (.slice (some ⟨bb, bo, none⟩) es.length cp) (mark R k) (cnt + 1) a2 n2 c2 L2 ∧ SameT L2 (L' ++ [⟨⟨(k : Int), eb, ew⟩, ew⟩]) := fun _ => ⟨hg2, hs2⟩
        clear h3 hg2 hs2 HA z0 z1 z2
        go_wp2
        go_roundw
        case rel =>
          refine ⟨i + 1, a2, n2, c2, L2, by omega, by go_num, (HP ()).1, ?_, fun x => ?_⟩
          · have h1 := (HP ()).1.heap.len
            have h2 := (HP ()).2.1
            have h3 := (HR ()).1.heap.len
            have h4 := (HR ()).2.1
            rw [List.length_append] at h2
            simp at h2
            omega
          · rw [(HP ()).2.2 x, List.mem_append, (HR ()).2.2 x, HM () x, or_assoc]
            simp
        case measure => simp [intOf]; omega
      · by_cases h2 : eb = (k : Int)
        · as_aux_lemma =>
          subst h2
          have HM : Unit → ∀ x, touch (es.take (i + 1)) (k : Int) x ↔ touch (es.take i) (k : Int) x ∨ x = ⟨⟨ea, (k : Int), ew⟩, ew⟩ := fun _ x => by
            rw [touch_succ (HE ())]
            exact ⟨fun h => h.imp id (fun h => h.2), fun h => h.imp id (fun h => ⟨Or.inr rfl, h⟩)⟩
          go_wp2_with fail
          clear h1
          obtain ⟨W2, hW2⟩ : ∃ W2, W2 = wr.alloc (.cells #[.int .i64 ea, .int .i64 (k : Int), .int .i64 ew] 30) := ⟨_, rfl⟩
          have hbx : Blk W2 wr.heap.size #[.int .i64 ea, .int .i64 (k : Int), .int .i64 ew] 30 := by rw [hW2]; exact Blk.new _ _ _
          have hk2 : Keep nil wr W2 := by rw [hW2]; exact (Keep.refl nil wr).alloc _
          rw [← hW2]
          obtain ⟨xb, hxb⟩ : ∃ xb, xb = wr.heap.size := ⟨_, rfl⟩
          rw [← hxb] at hbx ⊢
          have z0 := hbx.cell 0
          have z1 := hbx.cell 1
          have z2 := hbx.cell 2
          simp at z0 z1 z2
          have HG2 : Unit → Gw ex W0 W2.drew gb (.slice (some ⟨bb, bo, none⟩) es.length cp) (mark R k) (cnt + 1) a' n' c' L' := fun _ => (HR ()).1.same hk2.drew
          clear hW2 hbx hxb q0 q1 q2
          have HA : Unit → Calls Tryz.prog 147 #[.pointer (some ⟨gb, 12, none⟩), .agg #[.int .i64 ea, .int .i64 (k : Int), .int .i64 ew], .int .i64 ew] W2.drew fun r w' => r = .returned (.tuple #[]) ∧ HeapTo W2.drew w' gb 12 (gcs (.slice (some ⟨bb, bo, none⟩) es.length cp) (mark R k) (cnt + 1) (.slice a' n' c')) 174 a' (fun L'' => SameT L'' (L' ++ [⟨⟨ea, (k : Int), ew⟩, ew⟩])) := fun _ => add_any gb 12 _ 174 a' n' c' L' ⟨ea, (k : Int), ew⟩ ew W2.drew (HG2 ()).heap (by have := (HR ()).2.1; have := HB (); omega)
          go_still_tail 6, (by kernel_rfl)
          go_wp2_with fail
          refine (HA ()).mono ?_
          rintro r w3 ⟨rfl, h3⟩
          obtain ⟨a2, n2, c2, L2, hg2, hs2⟩ := (HG2 ()).to h3
          have HP : Unit → Gw ex W0 w3 gb (.slice (some ⟨bb, bo, none⟩) es.length cp) (mark R k) (cnt + 1) a2 n2 c2 L2 ∧ SameT L2 (L' ++ [⟨⟨ea, (k : Int), ew⟩, ew⟩]) := fun _ => ⟨hg2, hs2⟩
          clear h3 hg2 hs2 HA z0 z1 z2
          go_wp2
          go_roundw
          case rel =>
            refine ⟨i + 1, a2, n2, c2, L2, by omega, by go_num, (HP ()).1, ?_, fun x => ?_⟩
            · have h1 := (HP ()).1.heap.len
              have h2 := (HP ()).2.1
              have h3 := (HR ()).1.heap.len
              have h4 := (HR ()).2.1
              rw [List.length_append] at h2
              simp at h2
              omega
            · rw [(HP ()).2.2 x, List.mem_append, (HR ()).2.2 x, HM () x, or_assoc]
              simp
          case measure => simp [intOf]; omega
        · as_aux_lemma =>
          have HM : Unit → ∀ x, touch (es.take (i + 1)) (k : Int) x ↔ touch (es.take i) (k : Int) x := fun _ x => by
            rw [touch_succ (HE ())]
            exact ⟨fun h => h.elim id (fun h => (h.1.elim h1 h2).elim), Or.inl⟩
          go_wp2_with fail
          · rename_i h; simp [h1, h2] at h
          · clear h1 h2
            go_roundw
            case rel => exact ⟨i + 1, a', n', c', L', by omega, by go_num, (HR ()).1.same ((Keep.refl nil wr).alloc _), by have := (HR ()).2.1; omega, fun x => by rw [HM ()]; exact (HR ()).2.2 x⟩
            case measure => simp [intOf]; omega
    · have ei : i = es.length := by omega
      subst ei
      go_wp2
      go_end0
      refine ⟨rfl, a', n', c', L', (HR ()).1, (HR ()).2.1, fun x => ?_⟩
      have := (HR ()).2.2 x
      rwa [List.take_length] at this
end Go.Proofs.YtlfijfodklhplaaGreat
/- What Check answers: the mathematics. -/
namespace Go.Proofs.YtlfijfodklhplaaGreat
open Go.RowKit
set_option linter.unusedVariables false
set_option linter.unusedSimpArgs false

/-- How many of the first n are marked. -/
def card (R : Nat → Bool) : Nat → Nat
  | 0 => 0
  | n + 1 => card R n + (if R n = true then 1 else 0)
theorem card_le (R : Nat → Bool) (n : Nat) : card R n ≤ n := by
  induction n with
  | zero => exact Nat.le_refl _
  | succ n ih => simp only [card]; split <;> omega
theorem card_full (R : Nat → Bool) (n : Nat) (h : card R n = n) : ∀ k, k < n → R k = true := by
  induction n with
  | zero => intro k hk; omega
  | succ n ih =>
    simp only [card] at h
    have := card_le R n
    intro k hk
    by_cases e : R n = true
    · rw [if_pos e] at h
      by_cases hkn : k = n
      · rw [hkn]; exact e
      · exact ih (by omega) k (by omega)
    · rw [if_neg e] at h; omega
theorem card_all (R : Nat → Bool) (n : Nat) (h : ∀ k, k < n → R k = true) : card R n = n := by
  induction n with
  | zero => rfl
  | succ n ih => simp only [card]; rw [ih (fun k hk => h k (by omega)), if_pos (h n (by omega))]
theorem card_far (R : Nat → Bool) (n d : Nat) (h : ∀ k, n ≤ k → R k = false) : card R (n + d) = card R n := by
  induction d with
  | zero => rfl
  | succ d ih => rw [← Nat.add_assoc]; simp only [card]; rw [ih, h (n + d) (by omega)]; simp
theorem card_eq (R S : Nat → Bool) (n : Nat) (h : ∀ k, k < n → R k = S k) : card R n = card S n := by
  induction n with
  | zero => rfl
  | succ n ih => simp only [card]; rw [ih (fun k hk => h k (by omega)), h n (by omega)]
theorem card_mark (R : Nat → Bool) (n k : Nat) (hk : k < n) (h : R k = false) : card (mark R k) n = card R n + 1 := by
  induction n with
  | zero => omega
  | succ n ih =>
    simp only [card]
    by_cases e : k = n
    · subst e
      rw [card_eq (mark R k) R k (fun j hj => by simp [mark]; omega), h]
      simp [mark]
    · rw [ih (by omega)]
      have : mark R k n = R n := by simp [mark]; omega
      rw [this]; omega
theorem card_mono (R S : Nat → Bool) (n : Nat) (h : ∀ k, R k = true → S k = true) : card R n ≤ card S n := by
  induction n with
  | zero => exact Nat.le_refl _
  | succ n ih =>
    simp only [card]
    by_cases e : R n = true
    · rw [if_pos e, if_pos (h n e)]; omega
    · rw [if_neg e]; omega

/-- The edges join all nodes: a set that has node 0, and with one end of an edge the other, has all. -/
def Joined (n : Nat) (es : List Ed) : Prop := ∀ S : Nat → Prop, S 0 → (∀ e ∈ es, S e.a.toNat ↔ S e.b.toNat) → ∀ k, k < n → S k
/-- What is marked is in each such set. -/
def Sound (es : List Ed) (R : Nat → Bool) : Prop := ∀ S : Nat → Prop, S 0 → (∀ e ∈ es, S e.a.toNat ↔ S e.b.toNat) → ∀ k, R k = true → S k
def Closed (es : List Ed) (R : Nat → Bool) : Prop := ∀ e ∈ es, R e.a.toNat = R e.b.toNat
theorem Sound.mark {es : List Ed} {R : Nat → Bool} (h : Sound es R) {e : Ed} (he : e ∈ es) (ht : R e.a.toNat = true ∨ R e.b.toNat = true) (k : Nat) (hk : k = e.a.toNat ∨ k = e.b.toNat) : Sound es (mark R k) := by
  intro S h0 hS j hj
  have hb : S e.a.toNat ∧ S e.b.toNat := by
    rcases ht with ht | ht
    · exact ⟨h S h0 hS _ ht, (hS e he).1 (h S h0 hS _ ht)⟩
    · exact ⟨(hS e he).2 (h S h0 hS _ ht), h S h0 hS _ ht⟩
  unfold Go.Proofs.YtlfijfodklhplaaGreat.mark at hj
  split at hj
  · rename_i e1; rcases hk with rfl | rfl
    · rw [e1]; exact hb.1
    · rw [e1]; exact hb.2
  · exact h S h0 hS j hj
theorem joined_iff {n : Nat} {es : List Ed} {R : Nat → Bool} (h0 : R 0 = true) (hs : Sound es R) (hc : Closed es R) : Joined n es ↔ ∀ k, k < n → R k = true :=
  ⟨fun h k hk => h (fun j => R j = true) h0 (fun e he => by rw [hc e he]) k hk, fun h S s0 sS k hk => hs S s0 sS k (h k hk)⟩

/-- One edge's mark goes on. -/
def spr (M : Nat → Bool) (e : Ed) : Nat → Bool := if (M e.a.toNat || M e.b.toNat) = true then mark (mark M e.a.toNat) e.b.toNat else M
def pass (M : Nat → Bool) (es : List Ed) : Nat → Bool := es.foldl spr M
theorem mark_same {M : Nat → Bool} {k : Nat} (h : M k = true) : mark M k = M := by
  funext j; unfold mark; split
  · rename_i e; rw [e, h]
  · rfl
theorem mark_le (M : Nat → Bool) (k j : Nat) (h : M j = true) : mark M k j = true := by unfold mark; split <;> simp [*]
theorem spr_le (M : Nat → Bool) (e : Ed) (j : Nat) (h : M j = true) : spr M e j = true := by
  unfold spr; split
  · exact mark_le _ _ _ (mark_le _ _ _ h)
  · exact h
theorem pass_le (es : List Ed) (M : Nat → Bool) (j : Nat) (h : M j = true) : pass M es j = true := by
  induction es generalizing M with
  | nil => exact h
  | cons e t ih => exact ih (spr M e) (spr_le M e j h)
theorem spr_same {M : Nat → Bool} {e : Ed} (h : M e.a.toNat = M e.b.toNat) : spr M e = M := by
  unfold spr
  split
  · rename_i h1
    rw [h] at h1
    simp at h1
    rw [mark_same (M := M) (by rw [h]; exact h1), mark_same h1]
  · rfl
theorem pass_closed {es : List Ed} {M : Nat → Bool} (h : Closed es M) : pass M es = M := by
  induction es generalizing M with
  | nil => rfl
  | cons e t ih =>
    show pass (spr M e) t = M
    rw [spr_same (h e (by simp))]
    exact ih (fun x hx => h x (by simp [hx]))
theorem spr_more {M : Nat → Bool} {e : Ed} {n : Nat} (ha : e.a.toNat < n) (hb : e.b.toNat < n) (h : M e.a.toNat ≠ M e.b.toNat) : card M n + 1 ≤ card (spr M e) n := by
  unfold spr
  cases h1 : M e.a.toNat <;> cases h2 : M e.b.toNat
  · rw [h1, h2] at h; exact (h rfl).elim
  · rw [if_pos (by simp), mark_same (M := mark M e.a.toNat) (mark_le _ _ _ h2), card_mark _ _ _ ha h1]
    exact Nat.le_refl _
  · rw [if_pos (by simp), mark_same h1, card_mark _ _ _ hb h2]
    exact Nat.le_refl _
  · rw [h1, h2] at h; exact (h rfl).elim
theorem pass_more {es : List Ed} {M : Nat → Bool} {n : Nat} (hr : ∀ e ∈ es, e.a.toNat < n ∧ e.b.toNat < n) (h : ¬ Closed es M) : card M n + 1 ≤ card (pass M es) n := by
  induction es generalizing M with
  | nil => exact (h (fun e he => by simp at he)).elim
  | cons e t ih =>
    show card M n + 1 ≤ card (pass (spr M e) t) n
    by_cases he : M e.a.toNat = M e.b.toNat
    · rw [spr_same he]
      refine ih (fun x hx => hr x (by simp [hx])) (fun hc => h (fun x hx => ?_))
      rcases List.mem_cons.1 hx with rfl | hx
      · exact he
      · exact hc x hx
    · exact Nat.le_trans (spr_more (hr e (by simp)).1 (hr e (by simp)).2 he) (card_mono _ _ n (fun k hk => pass_le t _ k hk))
theorem spr_sound {es : List Ed} {M : Nat → Bool} (h : Sound es M) {e : Ed} (he : e ∈ es) : Sound es (spr M e) := by
  unfold spr
  split
  · rename_i h1
    simp at h1
    refine Sound.mark (Sound.mark h he h1 _ (Or.inl rfl)) he ?_ _ (Or.inr rfl)
    exact h1.imp (mark_le _ _ _) (mark_le _ _ _)
  · exact h
theorem pass_sound {es l : List Ed} {M : Nat → Bool} (h : Sound es M) (hl : ∀ e ∈ l, e ∈ es) : Sound es (pass M l) := by
  induction l generalizing M with
  | nil => exact h
  | cons e t ih => exact ih (spr_sound h (hl e (by simp))) (fun x hx => hl x (by simp [hx]))
/-- Rounds over all edges. -/
def rounds (es : List Ed) (M : Nat → Bool) : Nat → Nat → Bool
  | 0 => M
  | r + 1 => pass (rounds es M r) es
theorem rounds_sound {es : List Ed} {M : Nat → Bool} (h : Sound es M) (r : Nat) : Sound es (rounds es M r) := by
  induction r with
  | zero => exact h
  | succ r ih => exact pass_sound ih (fun e he => he)
theorem rounds_le (es : List Ed) (M : Nat → Bool) (r j : Nat) (h : M j = true) : rounds es M r j = true := by
  induction r with
  | zero => exact h
  | succ r ih => exact pass_le es _ j ih
theorem rounds_more {es : List Ed} {M : Nat → Bool} {n : Nat} (hr : ∀ e ∈ es, e.a.toNat < n ∧ e.b.toNat < n) (h1 : 1 ≤ card M n) (r : Nat) : Closed es (rounds es M r) ∨ r + 1 ≤ card (rounds es M r) n := by
  induction r with
  | zero => exact Or.inr h1
  | succ r ih =>
    by_cases hc : Closed es (rounds es M r)
    · refine Or.inl ?_
      show Closed es (pass (rounds es M r) es)
      rw [pass_closed hc]; exact hc
    · rcases ih with ih | ih
      · exact (hc ih).elim
      · refine Or.inr ?_
        have := pass_more hr hc
        show r + 1 + 1 ≤ card (pass (rounds es M r) es) n
        omega
theorem rounds_closed {es : List Ed} {M : Nat → Bool} {n : Nat} (hr : ∀ e ∈ es, e.a.toNat < n ∧ e.b.toNat < n) (h1 : 1 ≤ card M n) : Closed es (rounds es M n) := by
  rcases rounds_more hr h1 n with h | h
  · exact h
  · have := card_le (rounds es M n) n; omega
def zero0 : Nat → Bool := mark (fun _ => false) 0
theorem zero0_sound (es : List Ed) : Sound es zero0 := by
  intro S h0 _ k hk
  unfold zero0 mark at hk
  split at hk
  · rename_i e; rw [e]; exact h0
  · cases hk
theorem rounds_joined {es : List Ed} {n : Nat} (hn : 0 < n) (hr : ∀ e ∈ es, e.a.toNat < n ∧ e.b.toNat < n) : Joined n es ↔ ∀ k, k < n → rounds es zero0 n k = true := by
  refine joined_iff (rounds_le es _ n 0 rfl) (rounds_sound (zero0_sound es) n) (rounds_closed hr ?_)
  have : card zero0 n = card (fun _ => false) n + 1 := card_mark _ n 0 hn rfl
  omega

/-- Faults of edges. -/
def Stray (n : Int) (e : Ed) : Prop := e.a < 0 ∨ n ≤ e.a ∨ e.b < 0 ∨ n ≤ e.b ∨ e.a = e.b
def Heavy (e : Ed) : Prop := e.wt < 1 ∨ 1000 < e.wt
def Two (p : Ed → Ed → Prop) (es : List Ed) : Prop := ∃ (i j : Nat) (e f : Ed), j < i ∧ es[i]? = some e ∧ es[j]? = some f ∧ p e f
def SameW (e f : Ed) : Prop := e.wt = f.wt
def SameE (e f : Ed) : Prop := (e.a = f.a ∧ e.b = f.b) ∨ (e.a = f.b ∧ e.b = f.a)
/-- What Check answers. -/
def BadSize (n : Int) (es : List Ed) : Prop := n < 1 ∨ 10 < n ∨ 30 < es.length
def BadEdge (n : Int) (es : List Ed) : Prop := ∃ e ∈ es, Stray n e
def BadW (es : List Ed) : Prop := (∃ e ∈ es, Heavy e) ∨ Two SameW es
def Chk (n : Int) (es : List Ed) (r : Int) : Prop :=
  (BadSize n es → r = 1) ∧ (¬ BadSize n es → (BadEdge n es → r = 2) ∧ (¬ BadEdge n es → (BadW es → r = 3) ∧ (¬ BadW es → (Two SameE es → r = 4) ∧ (¬ Two SameE es → (¬ Joined n.toNat es → r = 5) ∧ (Joined n.toNat es → r = 0)))))
theorem Chk.uniq {n : Int} {es : List Ed} {r r' : Int} (h : Chk n es r) (h' : Chk n es r') : r = r' := by
  by_cases h1 : BadSize n es
  · rw [h.1 h1, h'.1 h1]
  have g := h.2 h1
  have g' := h'.2 h1
  by_cases h2 : BadEdge n es
  · rw [g.1 h2, g'.1 h2]
  have g := g.2 h2
  have g' := g'.2 h2
  by_cases h3 : BadW es
  · rw [g.1 h3, g'.1 h3]
  have g := g.2 h3
  have g' := g'.2 h3
  by_cases h4 : Two SameE es
  · rw [g.1 h4, g'.1 h4]
  have g := g.2 h4
  have g' := g'.2 h4
  by_cases h5 : Joined n.toNat es
  · rw [g.2 h5, g'.2 h5]
  · rw [g.1 h5, g'.1 h5]
theorem Chk.mk1 {n : Int} {es : List Ed} (h : BadSize n es) : Chk n es 1 := ⟨fun _ => rfl, fun h' => (h' h).elim⟩
theorem Chk.mk2 {n : Int} {es : List Ed} (h1 : ¬ BadSize n es) (h : BadEdge n es) : Chk n es 2 := ⟨fun h' => (h1 h').elim, fun _ => ⟨fun _ => rfl, fun h' => (h' h).elim⟩⟩
theorem Chk.mk3 {n : Int} {es : List Ed} (h1 : ¬ BadSize n es) (h2 : ¬ BadEdge n es) (h : BadW es) : Chk n es 3 := ⟨fun h' => (h1 h').elim, fun _ => ⟨fun h' => (h2 h').elim, fun _ => ⟨fun _ => rfl, fun h' => (h' h).elim⟩⟩⟩
theorem Chk.mk4 {n : Int} {es : List Ed} (h1 : ¬ BadSize n es) (h2 : ¬ BadEdge n es) (h3 : ¬ BadW es) (h : Two SameE es) : Chk n es 4 := ⟨fun h' => (h1 h').elim, fun _ => ⟨fun h' => (h2 h').elim, fun _ => ⟨fun h' => (h3 h').elim, fun _ => ⟨fun _ => rfl, fun h' => (h' h).elim⟩⟩⟩⟩
theorem Chk.mk5 {n : Int} {es : List Ed} (h1 : ¬ BadSize n es) (h2 : ¬ BadEdge n es) (h3 : ¬ BadW es) (h4 : ¬ Two SameE es) (h : ¬ Joined n.toNat es) : Chk n es 5 := ⟨fun h' => (h1 h').elim, fun _ => ⟨fun h' => (h2 h').elim, fun _ => ⟨fun h' => (h3 h').elim, fun _ => ⟨fun h' => (h4 h').elim, fun _ => ⟨fun _ => rfl, fun h' => (h h').elim⟩⟩⟩⟩⟩
theorem Chk.mk0 {n : Int} {es : List Ed} (h1 : ¬ BadSize n es) (h2 : ¬ BadEdge n es) (h3 : ¬ BadW es) (h4 : ¬ Two SameE es) (h : Joined n.toNat es) : Chk n es 0 := ⟨fun h' => (h1 h').elim, fun _ => ⟨fun h' => (h2 h').elim, fun _ => ⟨fun h' => (h3 h').elim, fun _ => ⟨fun h' => (h4 h').elim, fun _ => ⟨fun h' => (h' h).elim, fun _ => rfl⟩⟩⟩⟩⟩
end Go.Proofs.YtlfijfodklhplaaGreat
/- Walk of joinAll. -/
namespace Go.Proofs.YtlfijfodklhplaaGreat
open Go.RowKit
set_option linter.unusedVariables false
set_option linter.unusedSimpArgs false

/-- The edges are between nodes. -/
def InN (N : Nat) (es : List Ed) : Prop := ∀ e ∈ es, 0 ≤ e.a ∧ e.a < (N : Int) ∧ 0 ≤ e.b ∧ e.b < (N : Int)
/-- A growth, and what of the edges is known; X: an edge that was taken. -/
structure Jn (ex : Nat → Prop) (W0 w : World) (gb cp : Nat) (sa : Option Addr) (es : List Ed) (N : Nat) (X : Ed → Prop) (R : Nat → Bool) (cnt : Nat) (a : Option Addr) (n c : Nat) (L : List Th) : Prop where
  gw : Gw ex W0 w gb (.slice sa es.length cp) R cnt a n c L
  crd : cnt = card R 10
  far : ∀ k, N ≤ k → R k = false
  sound : Sound es R
  edge : ∀ e ∈ es, R e.a.toNat = R e.b.toNat ∨ (⟨e, e.wt⟩ : Th) ∈ L ∨ X e
  heap : ∀ x ∈ L, x.e ∈ es ∧ (R x.e.a.toNat = true ∨ R x.e.b.toNat = true)
  num : n ≤ 30 * cnt
theorem Jn.same {ex : Nat → Prop} {W0 w w1 : World} {gb cp : Nat} {sa : Option Addr} {es : List Ed} {N : Nat} {X : Ed → Prop} {R : Nat → Bool} {cnt : Nat} {a : Option Addr} {n c : Nat} {L : List Th} (h : Jn ex W0 w gb cp sa es N X R cnt a n c L) (k : Keep nil w w1) : Jn ex W0 w1 gb cp sa es N X R cnt a n c L :=
  ⟨h.gw.same k, h.crd, h.far, h.sound, h.edge, h.heap, h.num⟩
theorem Jn.here {ex : Nat → Prop} {W0 w : World} {gb cp : Nat} {sa : Option Addr} {es : List Ed} {N : Nat} {X : Ed → Prop} {R : Nat → Bool} {cnt : Nat} {a : Option Addr} {n c : Nat} {L : List Th} (h : Jn ex W0 w gb cp sa es N X R cnt a n c L) : Jn (fun b => b = gb ∨ a = some ⟨b, 0, none⟩) w w gb cp sa es N X R cnt a n c L :=
  ⟨h.gw.here, h.crd, h.far, h.sound, h.edge, h.heap, h.num⟩
theorem Jn.back {ex : Nat → Prop} {W0 w w' : World} {gb cp : Nat} {sa : Option Addr} {es : List Ed} {N : Nat} {X : Ed → Prop} {R : Nat → Bool} {cnt : Nat} {a : Option Addr} {n c : Nat} {L : List Th} {R' : Nat → Bool} {cnt' : Nat} {a' : Option Addr} {n' c' : Nat} {L' : List Th}
    (h : Jn ex W0 w gb cp sa es N X R cnt a n c L) (h' : Jn (fun b => b = gb ∨ a = some ⟨b, 0, none⟩) w w' gb cp sa es N X R' cnt' a' n' c' L') : Jn ex W0 w' gb cp sa es N X R' cnt' a' n' c' L' :=
  ⟨h.gw.back h'.gw, h'.crd, h'.far, h'.sound, h'.edge, h'.heap, h'.num⟩
theorem Gw.pile_lt {ex : Nat → Prop} {W0 w : World} {gb : Nat} {esv : Value} {R : Nat → Bool} {cnt : Nat} {a : Option Addr} {n c : Nat} {L : List Th} (h : Gw ex W0 w gb esv R cnt a n c L) : ∀ b, a = some ⟨b, 0, none⟩ → b < w.heap.size := fun b e => by
  rcases h.heap.row with ⟨e', _⟩ | ⟨pb, e', _, ht⟩
  · rw [e'] at e; cases e
  · rw [e'] at e; cases e; exact ht.lt
/-- What is left to do. -/
def meas (w : World) (gb : Nat) : Nat :=
  (match w.cell? ⟨gb, 11, none⟩ with | some (.int _ z) => (10 - z.toNat) * 31 | _ => 0) + (match w.cell? ⟨gb, 12, none⟩ with | some (.slice _ n _) => n | _ => 0)
theorem Jn.meas {ex : Nat → Prop} {W0 w : World} {gb cp : Nat} {sa : Option Addr} {es : List Ed} {N : Nat} {X : Ed → Prop} {R : Nat → Bool} {cnt : Nat} {a : Option Addr} {n c : Nat} {L : List Th} (h : Jn ex W0 w gb cp sa es N X R cnt a n c L) : Go.Proofs.YtlfijfodklhplaaGreat.meas w gb = (10 - cnt) * 31 + n := by
  have h1 := h.gw.heap.blk.cell 11
  have h2 := h.gw.heap.blk.cell 12
  have e1 : (gcs (.slice sa es.length cp) R cnt (.slice a n c))[11]? = some (.int .i64 (cnt : Int)) := rfl
  have e2 : (gcs (.slice sa es.length cp) R cnt (.slice a n c))[12]? = some (.slice a n c) := rfl
  rw [e1] at h1
  rw [e2] at h2
  unfold Go.Proofs.YtlfijfodklhplaaGreat.meas
  rw [h1, h2]
  simp

theorem reach_jn {ex : Nat → Prop} {W0 w : World} {gb cp : Nat} {sa : Option Addr} {es : List Ed} {N : Nat} {X : Ed → Prop} {R : Nat → Bool} {cnt : Nat} {a : Option Addr} {n c : Nat} {L : List Th} (h : Jn ex W0 w gb cp sa es N X R cnt a n c L) (k : Nat) (hk : k < N) (hN : N ≤ 10)
    (hS : Sound es (mark R k)) (hsl : ESl W0 sa es) (hsx : ∀ bb bo, 0 < es.length → sa = some ⟨bb, bo, none⟩ → ¬ ex bb) (hes : es.length ≤ 30) (hin : InN N es) :
    Calls Tryz.prog 102 #[.pointer (some ⟨gb, 0, none⟩), .int .i64 (k : Int)] w fun r w' => r = .returned (.tuple #[]) ∧ ∃ R' cnt' a' n' c' L', Jn ex W0 w' gb cp sa es N X R' cnt' a' n' c' L' ∧ R' k = true ∧ (∀ j, R j = true → R' j = true) ∧ (10 - cnt') * 31 + n' ≤ (10 - cnt) * 31 + n := by
  have hcl := card_le R 10
  cases hR : R k with
  | true =>
    refine (reach_old ex W0 w gb _ R cnt a n c L k h.gw (by omega) hR).mono ?_
    rintro r w' ⟨rfl, rfl⟩
    exact ⟨rfl, R, cnt, a, n, c, L, h, hR, fun j hj => hj, Nat.le_refl _⟩
  | false =>
    have hcm := card_mark R 10 k (by omega) hR
    have hcl2 := card_le (mark R k) 10
    have hcr := h.crd
    have hnm := h.num
    refine (reach_new ex W0 w gb cp sa es R cnt a n c L k h.gw (by omega) hR hsl hsx hes (by omega) (by omega)).mono ?_
    rintro r w' ⟨rfl, a', n', c', L', hg, hn, hm⟩
    refine ⟨rfl, mark R k, cnt + 1, a', n', c', L', ⟨hg, by omega, ?_, hS, ?_, ?_, by omega⟩, by simp [mark], fun j hj => mark_le R k j hj, by omega⟩
    · intro j hj
      have : j ≠ k := by omega
      simp [mark, this]
      exact h.far j hj
    · intro e he
      by_cases ht : e.a = (k : Int) ∨ e.b = (k : Int)
      · exact Or.inr (Or.inl ((hm _).2 (Or.inr ⟨e, he, ht, rfl⟩)))
      · have hb := hin e he
        have h1 : e.a.toNat ≠ k := by omega
        have h2 : e.b.toNat ≠ k := by omega
        rcases h.edge e he with hh | hh | hh
        · exact Or.inl (by simp [mark, h1, h2, hh])
        · exact Or.inr (Or.inl ((hm _).2 (Or.inl hh)))
        · exact Or.inr (Or.inr hh)
    · intro x hx
      rcases (hm x).1 hx with hx | ⟨e, he, ht, rfl⟩
      · exact ⟨(h.heap x hx).1, (h.heap x hx).2.imp (mark_le R k _) (mark_le R k _)⟩
      · refine ⟨he, ht.imp (fun e1 => ?_) (fun e1 => ?_)⟩
        · have : e.a.toNat = k := by omega
          simp [mark, this]
        · have : e.b.toNat = k := by omega
          simp [mark, this]

theorem Jn.joined {ex : Nat → Prop} {W0 w : World} {gb cp : Nat} {sa : Option Addr} {es : List Ed} {N : Nat} {R : Nat → Bool} {cnt : Nat} {a : Option Addr} {c : Nat} {L : List Th} (h : Jn ex W0 w gb cp sa es N (fun _ => False) R cnt a 0 c L) (h0 : R 0 = true) (hN : N ≤ 10) : (cnt : Int) = (N : Int) ↔ Joined N es := by
  have hL : L = [] := List.eq_nil_of_length_eq_zero h.gw.heap.len
  have hc : Closed es R := fun e he => by
    rcases h.edge e he with hh | hh | hh
    · exact hh
    · rw [hL] at hh; cases hh
    · exact hh.elim
  rw [joined_iff h0 h.sound hc]
  have e1 : card R 10 = card R N := by
    have := card_far R N (10 - N) h.far
    rwa [show N + (10 - N) = 10 by omega] at this
  have := h.crd
  constructor
  · intro hh
    exact card_full R N (by omega)
  · intro hh
    have := card_all R N hh
    omega

set_option maxRecDepth 100000 in
set_option maxHeartbeats 400000 in
theorem joinAll_any (N cp : Nat) (sa : Option Addr) (es : List Ed) (w : World) (hsl : ESl w sa es) (hes : es.length ≤ 30) (hin : InN N es) (hN0 : 0 < N) (hN : N ≤ 10) :
    Calls Tryz.prog 56 #[.int .i64 (N : Int), .slice sa es.length cp] w fun r w' => ∃ b : Bool, r = .returned (.bool b) ∧ (b = true ↔ Joined N es) ∧ Keep nil w w' := by
  have HB : Unit → ESl w sa es ∧ es.length ≤ 30 ∧ InN N es ∧ 0 < N ∧ N ≤ 10 := fun _ => ⟨hsl, hes, hin, hN0, hN⟩
  clear hsl hes hin hN0 hN
  go_enter Tryz.func56, Tryz.ntmps56
  go_wp2_with fail
  obtain ⟨W1, hW1⟩ : ∃ W1, W1 = w.alloc (.cells (gcs (.slice sa es.length cp) (fun _ => false) 0 (.slice none 0 0)) 174) := ⟨_, rfl⟩
  have hbx : Blk W1 w.heap.size (gcs (.slice sa es.length cp) (fun _ => false) 0 (.slice none 0 0)) 174 := by rw [hW1]; exact Blk.new _ _ _
  have hk1 : Keep nil w W1 := by rw [hW1]; exact (Keep.refl nil w).alloc _
  unfold gcs at hW1
  simp only [Int.natCast_zero] at hW1
  rw [← hW1]
  obtain ⟨gb, hgb⟩ : ∃ gb, gb = w.heap.size := ⟨_, rfl⟩
  rw [← hgb] at hbx ⊢
  have HJ0 : Unit → Jn nil w W1 gb cp sa es N (fun _ => False) (fun _ => false) 0 none 0 0 [] := fun _ => by
    refine ⟨⟨hk1, Or.inr (by omega), ⟨hbx, rfl, rfl, Nat.le_refl _, Or.inl ⟨rfl, rfl, rfl⟩⟩, fun b e => by cases e⟩, by simp [card], fun _ _ => rfl, fun S h0 hS k hk => (Bool.noConfusion hk), fun e he => Or.inl rfl, fun x hx => (List.not_mem_nil hx).elim, by omega⟩
  clear hW1 hbx hgb hk1
  have HR0 : Unit → Calls Tryz.prog 102 #[.pointer (some ⟨gb, 0, none⟩), .int .i64 ((0 : Nat) : Int)] W1 fun r w' => r = .returned (.tuple #[]) ∧ ∃ R' cnt' a' n' c' L', Jn nil w w' gb cp sa es N (fun _ => False) R' cnt' a' n' c' L' ∧ R' 0 = true ∧ (∀ j, (fun _ => false) j = true → R' j = true) ∧ (10 - cnt') * 31 + n' ≤ (10 - 0) * 31 + 0 := fun _ =>
    reach_jn (HJ0 ()) 0 (HB ()).2.2.2.1 (HB ()).2.2.2.2 (zero0_sound es) (HB ()).1 (fun _ _ _ _ e => e) (HB ()).2.1 (HB ()).2.2.1
  refine Calls.mono (HR0 ()) ?_
  rintro r w2 ⟨rfl, R1, cnt1, a1, n1, c1, L1, hj1, hr1, _, _⟩
  have HJ1 : Unit → Jn nil w w2 gb cp sa es N (fun _ => False) R1 cnt1 a1 n1 c1 L1 ∧ R1 0 = true := fun _ => ⟨hj1, hr1⟩
  clear hj1 hr1 HR0 HJ0
  go_wp2_with fail
  go_loopw [] (fun wr => ∃ (R : Nat → Bool) (cnt : Nat) (a : Option Addr) (n c : Nat) (L : List Th), Jn nil w wr gb cp sa es N (fun _ => False) R cnt a n c L ∧ R 0 = true) (fun wr => meas wr gb)
  case atStart => exact ⟨R1, cnt1, a1, n1, c1, L1, (HJ1 ()).1, (HJ1 ()).2⟩
  case round =>
    obtain ⟨R, cnt, a, n, c, L, hj, hr⟩ := hrel
    have HJ : Unit → Jn nil w wr gb cp sa es N (fun _ => False) R cnt a n c L ∧ R 0 = true := fun _ => ⟨hj, hr⟩
    have hgl : gb < wr.heap.size := hj.gw.heap.blk.lt
    clear hr HJ1
    cases n with
    | zero =>
      as_aux_lemma =>
      have h12 := (hj.gw.heap.blk.cell 12).trans hj.gw.heap.at_
      have HT : Unit → _ := fun _ => take_none gb 12 a c wr h12
      clear hj h12
      go_wp2_with fail
      refine Calls.mono (HT ()) ?_
      rintro r w3 ⟨rfl, hk3⟩
      clear HT
      have h11 := ((HJ ()).1.gw.heap.blk.keep hk3 (fun e => e)).cell 11
      have hgl3 : gb < w3.heap.size := ((HJ ()).1.gw.heap.blk.keep hk3 (fun e => e)).lt
      simp [gcs] at h11
      have HK : Unit → Keep nil w w3 := fun _ => (HJ ()).1.gw.keep.trans hk3
      clear hk3 hgl
      go_wp2
      go_ret
      refine ⟨_, rfl, ?_, (HK ()).alloc _⟩
      rw [← (HJ ()).1.joined (HJ ()).2 (HB ()).2.2.2.2]
      simp
    | succ n =>
      as_aux_lemma =>
      have HT : Unit → _ := fun _ => take_some gb 12 _ 174 a n c L wr (HJ ()).1.gw.heap (by have := (HJ ()).1.num; have := (HJ ()).1.crd; have := card_le R 10; omega)
      clear hj
      go_wp2_with fail
      refine Calls.mono (HT ()) ?_
      rintro r w3 ⟨⟨⟨ta, tb, tw⟩, tww⟩, rfl, h3⟩
      clear HT
      obtain ⟨a2, n2, c2, L2, hg2, hl2, hs1, hs2, hs3⟩ := (HJ ()).1.gw.to h3
      have HG : Unit → Gw nil w w3 gb (.slice sa es.length cp) R cnt a2 n2 c2 L2 ∧ n2 = n ∧ (∀ x, x ∈ L → x = ⟨⟨ta, tb, tw⟩, tww⟩ ∨ x ∈ L2) ∧ (∀ x, x ∈ L2 → x ∈ L) ∧ (⟨⟨ta, tb, tw⟩, tww⟩ : Th) ∈ L := fun _ => ⟨hg2, by have := hg2.heap.len; omega, hs1, hs2, hs3⟩
      have hgl3 : gb < w3.heap.size := hg2.heap.blk.lt
      clear h3 hg2 hl2 hs1 hs2 hs3 hgl
      simp only at *
      have HE : Unit → (⟨ta, tb, tw⟩ : Ed) ∈ es ∧ (R ta.toNat = true ∨ R tb.toNat = true) ∧ 0 ≤ ta ∧ ta < (N : Int) ∧ 0 ≤ tb ∧ tb < (N : Int) := fun _ =>
        ⟨((HJ ()).1.heap _ (HG ()).2.2.2.2).1, ((HJ ()).1.heap _ (HG ()).2.2.2.2).2, (HB ()).2.2.1 _ ((HJ ()).1.heap _ (HG ()).2.2.2.2).1⟩
      obtain ⟨na, hna⟩ : ∃ na : Nat, ta = (na : Int) := ⟨ta.toNat, by have := HE (); omega⟩
      obtain ⟨nb, hnb⟩ : ∃ nb : Nat, tb = (nb : Int) := ⟨tb.toNat, by have := HE (); omega⟩
      subst hna hnb
      go_wp2_with fail
      obtain ⟨W4, hW4⟩ : ∃ W4, W4 = w3.alloc (.cells #[.int .i64 (na : Int), .int .i64 (nb : Int), .int .i64 tw] 30) := ⟨_, rfl⟩
      have hbx : Blk W4 w3.heap.size #[.int .i64 (na : Int), .int .i64 (nb : Int), .int .i64 tw] 30 := by rw [hW4]; exact Blk.new _ _ _
      have hk4 : Keep nil w3 W4 := by rw [hW4]; exact (Keep.refl nil w3).alloc _
      rw [← hW4]
      obtain ⟨xb, hxb⟩ : ∃ xb, xb = w3.heap.size := ⟨_, rfl⟩
      rw [← hxb] at hbx ⊢
      have HJ4 : Unit → Jn nil w W4 gb cp sa es N (fun e => e = ⟨(na : Int), (nb : Int), tw⟩) R cnt a2 n c2 L2 := fun _ => by
        have g := (HG ()).1.same hk4
        rw [(HG ()).2.1] at g
        refine ⟨g, (HJ ()).1.crd, (HJ ()).1.far, (HJ ()).1.sound, fun e he => ?_, fun x hx => (HJ ()).1.heap x ((HG ()).2.2.2.1 x hx), by have := (HJ ()).1.num; omega⟩
        rcases (HJ ()).1.edge e he with hh | hh | hh
        · exact Or.inl hh
        · rcases (HG ()).2.2.1 _ hh with h1 | h1
          · exact Or.inr (Or.inr (by injection h1))
          · exact Or.inr (Or.inl h1)
        · exact hh.elim
      have HX : Unit → Blk W4 xb #[.int .i64 (na : Int), .int .i64 (nb : Int), .int .i64 tw] 30 := fun _ => hbx
      have HL : Unit → gb < xb ∧ (∀ b, a2 = some ⟨b, 0, none⟩ → b < xb) ∧ ∀ bb bo, 0 < es.length → sa = some ⟨bb, bo, none⟩ → ¬ (bb = gb ∨ a2 = some ⟨bb, 0, none⟩) := fun _ => by
        refine ⟨by rw [hxb]; exact (HG ()).1.heap.blk.lt, fun b e => by rw [hxb]; exact (HG ()).1.pile_lt b e, fun bb bo he0 e => ?_⟩
        rcases (HB ()).1 with e1 | ⟨b1, o1, e1, h1, _⟩
        · rw [e1] at he0; simp at he0
        · rw [e1] at e
          cases e
          rintro (e2 | e2)
          · rcases (HG ()).1.g0 with e3 | e3
            · exact e3
            · omega
          · rcases (HG ()).1.pile _ e2 with e3 | e3
            · exact e3
            · omega
      clear hW4 hbx hxb hk4
      have z0 := (HX ()).cell 0
      simp at z0
      have HC1 : Unit → Calls Tryz.prog 102 #[.pointer (some ⟨gb, 0, none⟩), .int .i64 (na : Int)] W4 fun r w' => r = .returned (.tuple #[]) ∧ ∃ R' cnt' a' n' c' L', Jn (fun b => b = gb ∨ a2 = some ⟨b, 0, none⟩) W4 w' gb cp sa es N (fun e => e = ⟨(na : Int), (nb : Int), tw⟩) R' cnt' a' n' c' L' ∧ R' na = true ∧ (∀ j, R j = true → R' j = true) ∧ (10 - cnt') * 31 + n' ≤ (10 - cnt) * 31 + n := fun _ =>
        reach_jn (HJ4 ()).here na (by have := HE (); omega) (HB ()).2.2.2.2 ((HJ4 ()).sound.mark (HE ()).1 (HE ()).2.1 na (Or.inl (by simp))) ((HB ()).1.keep (HJ4 ()).gw.keep) (HL ()).2.2 (HB ()).2.1 (HB ()).2.2.1
      go_wp2_with fail
      refine Calls.mono (HC1 ()) ?_
      rintro r w5 ⟨rfl, R5, cnt5, a5, n5, c5, L5, hj5, hr5, hm5, hd5⟩
      have HJ5 : Unit → Jn nil w w5 gb cp sa es N (fun e => e = ⟨(na : Int), (nb : Int), tw⟩) R5 cnt5 a5 n5 c5 L5 ∧ R5 na = true ∧ (∀ j, R j = true → R5 j = true) ∧ (10 - cnt5) * 31 + n5 ≤ (10 - cnt) * 31 + n := fun _ => ⟨(HJ4 ()).back hj5, hr5, hm5, hd5⟩
      have hb5 : Blk w5 xb #[.int .i64 (na : Int), .int .i64 (nb : Int), .int .i64 tw] 30 := (HX ()).keep hj5.gw.keep (fun e => by
        rcases e with e | e
        · have := (HL ()).1; omega
        · have := (HL ()).2.1 _ e; omega)
      have z1 := hb5.cell 1
      simp at z1
      have hxw : xb < w5.heap.size := hb5.lt
      have hgw : gb < w5.heap.size := hj5.gw.heap.blk.lt
      clear hj5 hr5 hm5 hd5 hb5 HC1 z0
      have HC2 : Unit → Calls Tryz.prog 102 #[.pointer (some ⟨gb, 0, none⟩), .int .i64 (nb : Int)] w5 fun r w' => r = .returned (.tuple #[]) ∧ ∃ R' cnt' a' n' c' L', Jn nil w w' gb cp sa es N (fun e => e = ⟨(na : Int), (nb : Int), tw⟩) R' cnt' a' n' c' L' ∧ R' nb = true ∧ (∀ j, R5 j = true → R' j = true) ∧ (10 - cnt') * 31 + n' ≤ (10 - cnt5) * 31 + n5 := fun _ =>
        reach_jn (HJ5 ()).1 nb (by have := HE (); omega) (HB ()).2.2.2.2 ((HJ5 ()).1.sound.mark (HE ()).1 (Or.inl (by simpa using (HJ5 ()).2.1)) nb (Or.inr (by simp))) (HB ()).1 (fun _ _ _ _ e => e) (HB ()).2.1 (HB ()).2.2.1
      go_wp2_with fail
      refine Calls.mono (HC2 ()) ?_
      rintro r w6 ⟨rfl, R6, cnt6, a6, n6, c6, L6, hj6, hr6, hm6, hd6⟩
      have HJ6 : Unit → Jn nil w w6 gb cp sa es N (fun _ => False) R6 cnt6 a6 n6 c6 L6 ∧ R6 0 = true ∧ (10 - cnt6) * 31 + n6 ≤ (10 - cnt) * 31 + n := fun _ => by
        refine ⟨⟨hj6.gw, hj6.crd, hj6.far, hj6.sound, fun e he => ?_, hj6.heap, hj6.num⟩, hm6 0 ((HJ5 ()).2.2.1 0 (HJ ()).2), Nat.le_trans hd6 (HJ5 ()).2.2.2⟩
        rcases hj6.edge e he with hh | hh | hh
        · exact Or.inl hh
        · exact Or.inr (Or.inl hh)
        · refine Or.inl ?_
          rw [hh]
          simp [hr6, hm6 na (HJ5 ()).2.1]
      clear hj6 hr6 hm6 hd6 HC2 z1
      go_wp2
      go_roundw
      case rel => exact ⟨R6, cnt6, a6, n6, c6, L6, (HJ6 ()).1, (HJ6 ()).2.1⟩
      case measure =>
        rw [(HJ6 ()).1.meas, (HJ ()).1.meas]
        have := (HJ6 ()).2.2
        omega
end Go.Proofs.YtlfijfodklhplaaGreat
