/- What came: walks of keep and take. -/
import Derived.Test.YtlfijfodklhplaaEndA
namespace Go.Proofs.Ytlfijfodklhplaa
open Go.RowKit
set_option linter.unusedVariables false

theorem slots_get (l : List (Option Fr.Msg)) (i : Nat) (x : Option Fr.Msg) (h : l[i]? = some x) (j : Nat) (hj : j < 5) : (slots l)[i * 5 + j]? = (slot x)[j]? := by
  induction l generalizing i with
  | nil => simp at h
  | cons y r ih =>
    have hy : (slot y).length = 5 := rfl
    cases i with
    | zero =>
      simp at h
      subst h
      simp only [slots, List.flatMap_cons, Nat.zero_mul, Nat.zero_add]
      rw [List.getElem?_append_left (by omega)]
    | succ i =>
      have := ih i (by simpa using h)
      simp only [slots, List.flatMap_cons] at this ⊢
      rw [List.getElem?_append_right (by omega), ← this, hy]
      congr 1; omega
theorem cells_kept (e : En) (p : Pl) (i : Nat) (x : Option Fr.Msg) (h : e.kept[i]? = some x) (j : Nat) (hj : j < 5) : (e.cells p)[3 + i * 5 + j]? = (slot x)[j]? := by
  have hi := (List.getElem?_eq_some_iff.1 h).1
  have hl := slots_len e.kept
  have : (e.cells p)[3 + i * 5 + j]? = (slots e.kept ++ [.slice p.oa e.out.length p.oc])[i * 5 + j]? := by
    rw [show 3 + i * 5 + j = (i * 5 + j) + 1 + 1 + 1 by omega]; rfl
  rw [this, List.getElem?_append_left (by omega), slots_get e.kept i x h j hj]

set_option maxHeartbeats 1000000 in
theorem keep_far (b o n aw : Nat) (k l nn : Int) (f : Bool) (w : World) (h2 : w.cell? ⟨b, o + 2, none⟩ = some (.int .i64 (aw : Int))) (hn : (n : Int) ≤ 65536) (ha : (aw : Int) ≤ 65536) (hno : n < aw ∨ aw + 4 ≤ n) :
    Calls Try.prog 41 #[.pointer (some ⟨b, o + 2, none⟩), .int .i64 (n : Int), .agg #[.int .i64 k, .int .i64 l, .int .i64 nn, .bool f]] w fun r w' => r = .returned (.tuple #[]) ∧ Keep nil w w' := by
  have hbl : b < w.heap.size := World.block_lt_of_cell? w _ h2
  have h3 : (n : Int) - (aw : Int) < 0 ∨ 4 ≤ (n : Int) - (aw : Int) := by omega
  clear hno
  rcases h3 with h3 | h3
  · go_enter Try.func41, Try.ntmps41
    go_wp2
    go_end0
    exact ⟨rfl, (Keep.refl nil w).alloc _⟩
  · go_enter Try.func41, Try.ntmps41
    go_wp2
    go_end0
    exact ⟨rfl, (Keep.refl nil w).alloc _⟩

set_option maxHeartbeats 1000000 in
theorem keep_there (b o n aw k : Nat) (k' l nn : Int) (f : Bool) (w : World) (h2 : w.cell? ⟨b, o + 2, none⟩ = some (.int .i64 (aw : Int))) (hn : (n : Int) ≤ 65536) (ha : (aw : Int) ≤ 65536) (hk : (n : Int) - (aw : Int) = (k : Int)) (hk4 : (k : Int) < 4) (h3 : w.cell? ⟨b, o + 2 + 1 + k * 5 + 4, none⟩ = some (.bool true)) :
    Calls Try.prog 41 #[.pointer (some ⟨b, o + 2, none⟩), .int .i64 (n : Int), .agg #[.int .i64 k', .int .i64 l, .int .i64 nn, .bool f]] w fun r w' => r = .returned (.tuple #[]) ∧ Keep nil w w' := by
  have hbl : b < w.heap.size := World.block_lt_of_cell? w _ h2
  have hk0 : (0 : Int) ≤ (k : Int) := by omega
  go_enter Try.func41, Try.ntmps41
  go_wp2
  go_end0
  exact ⟨rfl, (Keep.refl nil w).alloc _⟩

theorem four_of {α : Type} (l : List α) (h : l.length = 4) : ∃ a b c d, l = [a, b, c, d] := by
  match l, h with
  | [a, b, c, d], _ => exact ⟨a, b, c, d, rfl⟩
/-- The cells of a slot, written anew. -/
def set5 (w : World) (b o : Nat) (m : Fr.Msg) (f : Bool) : World := ((((w.setCell ⟨b, o, none⟩ (.int .i64 (m.kind : Int))).setCell ⟨b, o + 1, none⟩ (.int .i64 (m.level : Int))).setCell ⟨b, o + 2, none⟩ (.int .i64 (m.name : Int))).setCell ⟨b, o + 3, none⟩ (.bool m.finding)).setCell ⟨b, o + 4, none⟩ (.bool f)
theorem cells_keep (e : En) (p : Pl) (h : e.kept.length = 4) (k : Nat) (hk : k < 4) (m : Fr.Msg) :
    (((((e.cells p).set (3 + k * 5) (.int .i64 (m.kind : Int))).set (3 + k * 5 + 1) (.int .i64 (m.level : Int))).set (3 + k * 5 + 2) (.int .i64 (m.name : Int))).set (3 + k * 5 + 3) (.bool m.finding)).set (3 + k * 5 + 4) (.bool true) = ({ e with kept := e.kept.set k (some m) } : En).cells p := by
  obtain ⟨f, wt, aw, kp, ot⟩ := e
  simp only at h
  obtain ⟨x0, x1, x2, x3, rfl⟩ := four_of kp h
  match k, hk with
  | 0, _ => rfl
  | 1, _ => rfl
  | 2, _ => rfl
  | 3, _ => rfl
theorem Rep.kept {w w1 : World} {c : Array Value} {t : TypeId} {b o : Nat} {e : En} {p : Pl} (h : Rep w c t b o e p) (hk1 : Keep nil w w1) (k : Nat) (hk : k < 4) (m : Fr.Msg) (hkn : e.await + k < 65536) :
    Rep (set5 w1 b (o + 3 + k * 5) m true) c t b o { e with kept := e.kept.set k (some m) } p ∧ Step w (set5 w1 b (o + 3 + k * 5) m true) b p p := by
  have l24 := cells_len e p h.four
  have h1 := h.keep hk1 (fun _ _ x => x)
  have ks : Keep (only b) w1 (set5 w1 b (o + 3 + k * 5) m true) := by
    unfold set5
    exact (((((Keep.refl (only b) w1).setCell (p := ⟨b, o + 3 + k * 5, none⟩) (fun _ => rfl) _).setCell (p := ⟨b, o + 3 + k * 5 + 1, none⟩) (fun _ => rfl) _).setCell (p := ⟨b, o + 3 + k * 5 + 2, none⟩) (fun _ => rfl) _).setCell (p := ⟨b, o + 3 + k * 5 + 3, none⟩) (fun _ => rfl) _).setCell (p := ⟨b, o + 3 + k * 5 + 4, none⟩) (fun _ => rfl) _
  have hblk : Blk (set5 w1 b (o + 3 + k * 5) m true) b (put c o (({ e with kept := e.kept.set k (some m) } : En).cells p)) t := by
    rw [← cells_keep e p h.four k hk m]
    have b0 := h1.blk.put_at h1.len (3 + k * 5) (by omega) (.int .i64 (m.kind : Int))
    have b1 := b0.put_at (by simpa using h1.len) (3 + k * 5 + 1) (by simp; omega) (.int .i64 (m.level : Int))
    have b2 := b1.put_at (by simpa using h1.len) (3 + k * 5 + 2) (by simp; omega) (.int .i64 (m.name : Int))
    have b3 := b2.put_at (by simpa using h1.len) (3 + k * 5 + 3) (by simp; omega) (.bool m.finding)
    have b4 := b3.put_at (by simpa using h1.len) (3 + k * 5 + 4) (by simp; omega) (.bool true)
    simp only [← Nat.add_assoc] at b4
    exact b4
  refine ⟨{ blk := hblk, fit := h.fit, four := by simpa using h.four, wrow := h1.wrow.keep ks (fun k hk hb => h.wb (hb ▸ hk)), orow := h1.orow.keep ks (fun k hk hb => h.ob (hb ▸ hk)), gl := h.gl, bufs := fun i g f hg hf => (h1.bufs i g f hg hf).keep ks (fun hb => h.gw g (List.mem_of_getElem? hg) (Or.inl hb)), wb := h.wb, ob := h.ob, wo := h.wo, gw := h.gw, gn := h.gn, wok := h.wok, most := h.most, awt := h.awt, kn := ?_, fok := h.fok }, (Step.of_keep b p hk1).trans ⟨fun _ h => Or.inl h, fun _ h => Or.inl h, ks.mono (fun _ _ e => Or.inl e)⟩⟩
  intro i m' hm'
  simp only [List.getElem?_set] at hm'
  by_cases hi : k = i
  · subst hi; exact hkn
  · rw [if_neg hi] at hm'; exact h.kn i m' hm'

set_option maxHeartbeats 1000000 in
theorem keep_new (c : Array Value) (t : TypeId) (b o : Nat) (e : En) (p : Pl) (n k : Nat) (m : Fr.Msg) (w : World) (h : Rep w c t b o e p) (hn : (n : Int) < 65536) (hk : (n : Int) - (e.await : Int) = (k : Int)) (hk4 : (k : Int) < 4) (hx : e.kept[k]? = some none) :
    Calls Try.prog 41 #[.pointer (some ⟨b, o + 2, none⟩), .int .i64 (n : Int), mv m] w fun r w' => r = .returned (.tuple #[]) ∧ Rep w' c t b o { e with kept := e.kept.set k (some m) } p ∧ Step w w' b p p := by
  have hbl := h.blk.lt
  have h2 := h.c2
  have ha : (e.await : Int) ≤ 65536 := by have := h.awt; omega
  have c0 := h.cell _ _ ((cells_kept e p k none hx 0 (by omega)).trans rfl)
  have c1 := h.cell _ _ ((cells_kept e p k none hx 1 (by omega)).trans rfl)
  have c2 := h.cell _ _ ((cells_kept e p k none hx 2 (by omega)).trans rfl)
  have c3 := h.cell _ _ ((cells_kept e p k none hx 3 (by omega)).trans rfl)
  have c4 := h.cell _ _ ((cells_kept e p k none hx 4 (by omega)).trans rfl)
  simp only [← Nat.add_assoc, Nat.add_zero] at c0 c1 c2 c3 c4
  have hfr := fun i => h.frozen i
  have HR : Unit → Rep w c t b o e p := fun _ => h
  clear h
  have hk0 : (0 : Int) ≤ (k : Int) := by omega
  go_enter Try.func41, Try.ntmps41
  go_wp2_with fail
  go_region
  all_goals
    go_wp2
    go_end0
    have hd := (HR ()).kept (Keep.refl nil w) k (by omega) m (by omega)
    have k2 : Keep nil (set5 w b (o + 3 + k * 5) m true) ((set5 w b (o + 3 + k * 5) m true).alloc (.cells (mcell m).toArray 24)).drew := ((Keep.refl nil _).alloc _).drew
    exact ⟨rfl, hd.1.keep k2 (fun _ _ x => x), hd.2.trans (Step.of_keep b p k2)⟩

theorem keep_any (c : Array Value) (t : TypeId) (b o : Nat) (e : En) (p : Pl) (n : Nat) (m : Fr.Msg) (w : World) (h : Rep w c t b o e p) (hn : (n : Int) < 65536) :
    Calls Try.prog 41 #[.pointer (some ⟨b, o + 2, none⟩), .int .i64 (n : Int), mv m] w fun r w' => r = .returned (.tuple #[]) ∧ Rep w' c t b o (e.keep n m) p ∧ Step w w' b p p := by
  have ha : (e.await : Int) ≤ 65536 := by have := h.awt; omega
  have same : ∀ {w' : World}, e.keep n m = e → Keep nil w w' → Rep w' c t b o (e.keep n m) p ∧ Step w w' b p p := fun he hk => by rw [he]; exact ⟨h.keep hk (fun _ _ x => x), Step.of_keep b p hk⟩
  by_cases h1 : e.await ≤ n
  · by_cases h2 : n < e.await + 4
    · obtain ⟨k, hk⟩ : ∃ k, k = n - e.await := ⟨_, rfl⟩
      have hk4 : k < e.kept.length := by rw [h.four]; omega
      have hkI : (n : Int) - (e.await : Int) = (k : Int) := by omega
      cases hx : e.kept[k] with
      | none =>
        have hx' : e.kept[k]? = some none := by rw [List.getElem?_eq_getElem hk4, hx]
        have he : e.keep n m = { e with kept := e.kept.set k (some m) } := by unfold En.keep; rw [if_pos h1, ← hk, hx']
        rw [he]
        exact keep_new c t b o e p n k m w h hn hkI (by omega) hx'
      | some y =>
        have hx' : e.kept[k]? = some (some y) := by rw [List.getElem?_eq_getElem hk4, hx]
        have he : e.keep n m = e := by unfold En.keep; rw [if_pos h1, ← hk, hx']
        have c4 := h.cell _ _ ((cells_kept e p k (some y) hx' 4 (by omega)).trans rfl)
        simp only [← Nat.add_assoc] at c4
        refine (keep_there b o n e.await k _ _ _ _ w h.c2 (by omega) ha hkI (by omega) c4).mono ?_
        rintro r w' ⟨rfl, hk'⟩
        exact ⟨rfl, same he hk'⟩
    · have he : e.keep n m = e := by
        unfold En.keep
        rw [if_pos h1, List.getElem?_eq_none (by rw [h.four]; omega)]
      refine (keep_far b o n e.await _ _ _ _ w h.c2 (by omega) ha (Or.inr (by omega))).mono ?_
      rintro r w' ⟨rfl, hk'⟩
      exact ⟨rfl, same he hk'⟩
  · have he : e.keep n m = e := by unfold En.keep; rw [if_neg h1]
    refine (keep_far b o n e.await _ _ _ _ w h.c2 (by omega) ha (Or.inl (by omega))).mono ?_
    rintro r w' ⟨rfl, hk'⟩
    exact ⟨rfl, same he hk'⟩
end Go.Proofs.Ytlfijfodklhplaa
