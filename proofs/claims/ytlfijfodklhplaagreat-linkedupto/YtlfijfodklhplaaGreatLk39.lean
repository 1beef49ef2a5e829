import Derived.Test.YtlfijfodklhplaaGreatLk36
import Derived.Test.YtlfijfodklhplaaGreatLk35
import Derived.Test.YtlfijfodklhplaaGreatLk16
/- The two ends side by side: one state. -/
namespace Go.Proofs.YtlfijfodklhplaaGreat
open Go.RowKit
set_option linter.unusedVariables false
set_option linter.unusedSimpArgs false

structure Lk (e : En) (r : Rf) : Prop where
  fi : e.first = r.acked
  wa : e.wait = r.sent.drop r.acked
  sh : r.shown = r.acked + e.shown
  aw : e.await = r.await
  ou : e.out = r.out
  four : e.kept.length = 4
  ka : ∀ n m, (n, m) ∈ r.kept ↔ r.await ≤ n ∧ e.kept[n - r.await]? = some (some m)
  nd : (r.kept.map (·.1)).Nodup
  cnt : r.kept.length = e.kept.countP (·.isSome)
  le : r.acked ≤ r.sent.length
theorem Lk.kl {e : En} {r : Rf} (h : Lk e r) : r.kept.length ≤ 4 := by
  rw [h.cnt, ← h.four]; exact List.countP_le_length
theorem Lk.new : Lk En.new Rf.new := by
  refine ⟨rfl, rfl, rfl, rfl, rfl, rfl, fun n m => ?_, List.nodup_nil, rfl, Nat.le_refl _⟩
  simp only [Rf.new, En.new, Nat.sub_zero, List.not_mem_nil, false_iff]
  rintro ⟨_, h⟩
  match n, h with
  | 0, h => simp at h
  | 1, h => simp at h
  | 2, h => simp at h
  | 3, h => simp at h
  | n + 4, h => simp at h
theorem shift {α : Type} (X : List α) (a k s : Nat) : (X.take (a + k)).drop (a + s) = ((X.drop a).take k).drop s := by
  rw [← List.drop_drop, List.drop_take, Nat.add_sub_cancel_left]
theorem Lk.len {e : En} {r : Rf} (h : Lk e r) : e.first + e.wait.length = r.sent.length := by
  rw [h.fi, h.wa, List.length_drop]; have := h.le; omega

theorem Lk.send {e : En} {r : Rf} (h : Lk e r) (m : Fr.Msg) : Lk (e.send m) (r.send m) := by
  have hl := h.len
  have hle := h.le
  have hfi := h.fi
  have hdr : (r.sent ++ [m]).drop r.acked = e.wait ++ [m] := by rw [List.drop_append_of_le_length hle, h.wa]
  have hT : max r.shown (min (r.sent.length + 1) (r.acked + 4)) = r.acked + min (e.wait.length + 1) 4 := by
    have := h.sh
    unfold En.shown at this
    omega
  refine ⟨hfi, ?_, ?_, h.aw, ?_, h.four, h.ka, h.nd, h.cnt, ?_⟩
  · show e.wait ++ [m] = (r.sent ++ [m]).drop r.acked
    exact hdr.symm
  · show max r.shown (min (r.sent.length + 1) (r.acked + 4)) = r.acked + min (e.wait ++ [m]).length 4
    rw [hT, List.length_append]; rfl
  · show e.out ++ En.frames (e.first + e.shown) (((e.wait ++ [m]).take 4).drop e.shown) = r.out ++ En.frames r.shown (((r.sent ++ [m]).take (max r.shown (min (r.sent.length + 1) (r.acked + 4)))).drop r.shown)
    have h2 := shift (r.sent ++ [m]) r.acked (min (e.wait.length + 1) 4) e.shown
    rw [hdr, ← h.sh] at h2
    rw [h.ou, hT, h2, hfi, ← h.sh]
    congr 3
    by_cases h4 : e.wait.length + 1 ≤ 4
    · rw [List.take_of_length_le (by simp; omega), List.take_of_length_le (by simp; omega)]
    · rw [show min (e.wait.length + 1) 4 = 4 by omega]
  · show r.acked ≤ (r.sent ++ [m]).length
    simp; omega

def Rf.ack (r : Rf) (n : Nat) : Rf := if r.acked < n ∧ n ≤ r.shown then ({ r with acked := n } : Rf).showsTo (max r.shown (min r.sent.length (n + 4))) else r
theorem Lk.ack {e : En} {r : Rf} (h : Lk e r) (n : Nat) : Lk (e.ack n) (r.ack n) := by
  have hsh := h.sh
  have hfi := h.fi
  have hl := h.len
  unfold En.ack Rf.ack
  by_cases hc : r.acked < n ∧ n ≤ r.shown
  · rw [if_pos (by rw [hfi]; omega), if_pos hc]
    have hs4 : e.shown = min e.wait.length 4 := rfl
    have hn1 : n - e.first ≤ e.wait.length := by omega
    have hdr : r.sent.drop n = e.wait.drop (n - e.first) := by
      rw [h.wa, List.drop_drop]; congr 1; omega
    have hT : max r.shown (min r.sent.length (n + 4)) = n + min (e.wait.length - (n - e.first)) 4 := by omega
    refine ⟨?_, ?_, ?_, h.aw, ?_, h.four, h.ka, h.nd, h.cnt, ?_⟩
    · show e.first + (n - e.first) = n
      omega
    · show e.wait.drop (n - e.first) = r.sent.drop n
      exact hdr.symm
    · show max r.shown (min r.sent.length (n + 4)) = n + min (e.wait.drop (n - e.first)).length 4
      rw [hT, List.length_drop]
    · show e.out ++ En.frames (e.first + (n - e.first) + (e.shown - (n - e.first))) (((e.wait.drop (n - e.first)).take 4).drop (e.shown - (n - e.first))) = r.out ++ En.frames r.shown ((r.sent.take (max r.shown (min r.sent.length (n + 4)))).drop r.shown)
      have h2 := shift r.sent n (min (e.wait.length - (n - e.first)) 4) (e.shown - (n - e.first))
      rw [hdr, show n + (e.shown - (n - e.first)) = r.shown by omega] at h2
      rw [h.ou, hT, h2, show e.first + (n - e.first) + (e.shown - (n - e.first)) = r.shown by omega]
      congr 3
      by_cases h4 : (e.wait.drop (n - e.first)).length ≤ 4
      · rw [List.take_of_length_le h4, List.take_of_length_le (by rw [List.length_drop] at h4 ⊢; omega)]
      · rw [List.length_drop] at h4
        rw [show min (e.wait.length - (n - e.first)) 4 = 4 by omega]
    · show n ≤ r.sent.length
      omega
  · rw [if_neg (by rw [hfi]; omega), if_neg hc]
    exact h

theorem Lk.tick {e : En} {r : Rf} (h : Lk e r) : Lk e.tick (r.again r.shown) := by
  refine ⟨h.fi, h.wa, h.sh, h.aw, ?_, h.four, h.ka, h.nd, h.cnt, h.le⟩
  show e.out ++ En.frames (e.first + 0) ((e.wait.take 4).drop 0) = r.out ++ En.frames r.acked ((r.sent.take r.shown).drop r.acked)
  have h2 := shift r.sent r.acked e.shown 0
  rw [Nat.add_zero, ← h.sh, ← h.wa] at h2
  rw [h2, h.ou, Nat.add_zero, h.fi]
  congr 2
  simp only [List.drop_zero]
  unfold En.shown
  by_cases h4 : e.wait.length ≤ 4
  · rw [List.take_of_length_le h4, List.take_of_length_le (by omega)]
  · rw [show min e.wait.length 4 = 4 by omega]
theorem Lk.outs {e : En} {r : Rf} (h : Lk e r) : Lk e.outs r.outs := ⟨h.fi, h.wa, h.sh, h.aw, rfl, h.four, h.ka, h.nd, h.cnt, h.le⟩
end Go.Proofs.YtlfijfodklhplaaGreat
/- One state for both ends: what is kept. -/
namespace Go.Proofs.YtlfijfodklhplaaGreat
open Go.RowKit
set_option linter.unusedVariables false
set_option linter.unusedSimpArgs false

theorem Lk.there {e : En} {r : Rf} (h : Lk e r) (n : Nat) : (∃ x ∈ r.kept, x.1 = n) ↔ r.await ≤ n ∧ ∃ m, e.kept[n - r.await]? = some (some m) := by
  constructor
  · rintro ⟨⟨n', m⟩, hx, rfl⟩
    have := (h.ka n' m).1 hx
    exact ⟨this.1, m, this.2⟩
  · rintro ⟨h1, m, h2⟩
    exact ⟨(n, m), (h.ka n m).2 ⟨h1, h2⟩, rfl⟩
/-- A message is put beside what is kept. -/
def Rf.add (r : Rf) (n : Nat) (m : Fr.Msg) : Rf := { r with kept := r.kept ++ [(n, m)] }
theorem Lk.add {e : En} {r : Rf} (h : Lk e r) (n : Nat) (m : Fr.Msg) (h1 : r.await ≤ n) (h2 : n < r.await + 4) (h3 : ¬ ∃ x ∈ r.kept, x.1 = n) : Lk (e.keep n m) (r.add n m) := by
  have haw := h.aw
  have h4 := h.four
  have hk : e.kept[n - e.await]? = some none := by
    have hlt : n - e.await < e.kept.length := by omega
    rw [List.getElem?_eq_getElem hlt]
    cases hx : e.kept[n - e.await] with
    | none => rfl
    | some m' =>
      exfalso
      exact h3 ((h.there n).2 ⟨h1, m', by rw [← haw, List.getElem?_eq_getElem hlt, hx]⟩)
  have hkeep : e.keep n m = { e with kept := e.kept.set (n - e.await) (some m) } := by
    unfold En.keep
    rw [if_pos (by omega), hk]
  rw [hkeep]
  refine ⟨h.fi, h.wa, h.sh, h.aw, h.ou, by simp [h4], fun n' m' => ?_, ?_, ?_, h.le⟩
  · show (n', m') ∈ r.kept ++ [(n, m)] ↔ r.await ≤ n' ∧ (e.kept.set (n - e.await) (some m))[n' - r.await]? = some (some m')
    rw [List.mem_append]
    by_cases hn : n' = n
    · subst hn
      have hnot : (n', m') ∉ r.kept := fun hx => h3 ⟨_, hx, rfl⟩
      rw [← haw, List.getElem?_set_self (by omega)]
      simp only [hnot, false_or, List.mem_singleton, Prod.mk.injEq, true_and, Option.some.injEq]
      constructor
      · rintro rfl; exact ⟨by omega, rfl⟩
      · rintro ⟨_, rfl⟩; rfl
    · have : (n', m') ∉ [(n, m)] := fun hx => hn (by simp at hx; exact hx.1)
      simp only [this, or_false]
      rw [h.ka n' m']
      refine and_congr_right (fun hle => ?_)
      rw [List.getElem?_set_ne (by omega)]
  · show ((r.kept ++ [(n, m)]).map (·.1)).Nodup
    rw [List.map_append, List.nodup_append]
    refine ⟨h.nd, by simp, fun a ha b hb => ?_⟩
    simp at hb
    subst hb
    rintro rfl
    obtain ⟨x, hx, rfl⟩ := List.mem_map.1 ha
    exact h3 ⟨x, hx, rfl⟩
  · show (r.kept ++ [(n, m)]).length = (e.kept.set (n - e.await) (some m)).countP (·.isSome)
    rw [List.length_append, h.cnt]
    obtain ⟨a, b, c, d, hl⟩ := four_of e.kept h4
    rw [hl] at hk ⊢
    have hlt : n - e.await < 4 := by omega
    generalize n - e.await = k at hk hlt
    match k, hlt with
    | 0, _ => simp at hk; subst hk; simp [List.countP_cons] <;> omega
    | 1, _ => simp at hk; subst hk; simp [List.countP_cons] <;> omega
    | 2, _ => simp at hk; subst hk; simp [List.countP_cons] <;> omega
    | 3, _ => simp at hk; subst hk; simp [List.countP_cons] <;> omega
theorem Lk.keep_no {e : En} {r : Rf} (h : Lk e r) (n : Nat) (m : Fr.Msg) (hno : ¬ (r.await ≤ n ∧ n < r.await + 4 ∧ ¬ ∃ x ∈ r.kept, x.1 = n)) : e.keep n m = e := by
  have haw := h.aw
  have h4 := h.four
  unfold En.keep
  by_cases h1 : e.await ≤ n
  · rw [if_pos h1]
    by_cases h2 : n < r.await + 4
    · have hx : ∃ x ∈ r.kept, x.1 = n := Classical.byContradiction fun h3 => hno ⟨by omega, h2, h3⟩
      obtain ⟨_, m', hm⟩ := (h.there n).1 hx
      rw [haw, hm]
    · rw [List.getElem?_eq_none (by omega)]
  · rw [if_neg h1]

theorem Lk.split {e : En} {r : Rf} (h : Lk e r) (m : Fr.Msg) (hm : e.kept[0]? = some (some m)) : ∃ l1 l2, r.kept = l1 ++ (r.await, m) :: l2 ∧ ∀ x ∈ l1, x.1 ≠ r.await := by
  have hx : (r.await, m) ∈ r.kept := (h.ka r.await m).2 ⟨Nat.le_refl _, by rw [Nat.sub_self]; exact hm⟩
  obtain ⟨l1, l2, hl⟩ := List.append_of_mem hx
  refine ⟨l1, l2, hl, fun x hx1 he => ?_⟩
  have hn := h.nd
  rw [hl, List.map_append, List.nodup_append] at hn
  exact hn.2.2 x.1 (List.mem_map.2 ⟨x, hx1, rfl⟩) r.await (by simp) he
theorem Lk.none0 {e : En} {r : Rf} (h : Lk e r) (hm : e.kept[0]? = some none) : ∀ x ∈ r.kept, x.1 ≠ r.await := fun x hx he => by
  have := (h.ka x.1 x.2).1 hx
  rw [he, Nat.sub_self, hm] at this
  cases this.2
/-- The message that is awaited is taken. -/
theorem Lk.pop {e : En} {r : Rf} (h : Lk e r) (m : Fr.Msg) (hm : e.kept[0]? = some (some m)) (l1 l2 : List (Nat × Fr.Msg)) (hl : r.kept = l1 ++ (r.await, m) :: l2) : Lk e.pop { r with kept := l1 ++ l2, await := r.await + 1 } := by
  obtain ⟨x0, x1, x2, x3, he⟩ := four_of e.kept h.four
  rw [he] at hm
  simp at hm
  subst hm
  have hn := h.nd
  rw [hl, List.map_append, List.map_cons, List.nodup_append, List.nodup_cons] at hn
  have hmem : ∀ x, x ∈ r.kept ↔ x ∈ l1 ++ l2 ∨ x = (r.await, m) := fun x => by
    rw [hl, List.mem_append, List.mem_cons, List.mem_append]
    constructor
    · rintro (a | a | a)
      · exact Or.inl (Or.inl a)
      · exact Or.inr a
      · exact Or.inl (Or.inr a)
    · rintro ((a | a) | a)
      · exact Or.inl a
      · exact Or.inr (Or.inr a)
      · exact Or.inr (Or.inl a)
  have hne : ∀ x ∈ l1 ++ l2, x.1 ≠ r.await := fun x hx e1 => by
    rcases List.mem_append.1 hx with a | a
    · exact hn.2.2 x.1 (List.mem_map.2 ⟨x, a, rfl⟩) r.await (by simp) e1
    · exact hn.2.1.1 (List.mem_map.2 ⟨x, a, e1⟩)
  refine ⟨h.fi, h.wa, h.sh, by show e.await + 1 = r.await + 1; rw [h.aw], h.ou, by simp [En.pop, he], fun n' m' => ?_, ?_, ?_, h.le⟩
  · show (n', m') ∈ l1 ++ l2 ↔ r.await + 1 ≤ n' ∧ (e.kept.drop 1 ++ [none])[n' - (r.await + 1)]? = some (some m')
    have h1 := h.ka n' m'
    rw [hmem] at h1
    rw [he] at h1 ⊢
    simp only [List.drop_succ_cons, List.drop_zero, List.cons_append, List.nil_append]
    constructor
    · intro hx
      have h2 := h1.1 (Or.inl hx)
      have h3 := hne _ hx
      simp only at h3
      refine ⟨by omega, ?_⟩
      have e1 : n' - r.await = (n' - (r.await + 1)) + 1 := by omega
      rw [e1, List.getElem?_cons_succ] at h2
      generalize n' - (r.await + 1) = k at h2
      match k, h2.2 with
      | 0, h => exact h
      | 1, h => exact h
      | 2, h => exact h
      | k + 3, h => simp at h
    · rintro ⟨h2, h3⟩
      have e1 : n' - r.await = (n' - (r.await + 1)) + 1 := by omega
      rw [e1, List.getElem?_cons_succ] at h1
      have h4 : [x1, x2, x3][n' - (r.await + 1)]? = some (some m') := by
        generalize n' - (r.await + 1) = k at h3
        match k, h3 with
        | 0, h => exact h
        | 1, h => exact h
        | 2, h => exact h
        | 3, h => simp at h
        | k + 4, h => simp at h
      rcases h1.2 ⟨by omega, h4⟩ with a | a
      · exact a
      · simp at a; omega
  · show ((l1 ++ l2).map (·.1)).Nodup
    rw [List.map_append, List.nodup_append]
    exact ⟨hn.1, hn.2.1.2, fun a ha b hb => hn.2.2 a ha b (by simp at hb ⊢; exact Or.inr hb)⟩
  · show (l1 ++ l2).length = (e.kept.drop 1 ++ [none]).countP Option.isSome
    have h1 := h.cnt
    rw [hl, he] at h1
    rw [he]
    simp [List.countP_cons] at h1 ⊢
    omega
def Rf.answer (r : Rf) : Rf := if r.await < 65536 then { r with out := r.out ++ [⟨false, r.await, Fr.none0⟩] } else r
theorem Lk.answer {e : En} {r : Rf} (h : Lk e r) : Lk e.answer r.answer := by
  unfold En.answer Rf.answer
  by_cases hc : r.await < 65536
  · rw [if_pos (by rw [h.aw]; exact hc), if_pos hc]
    exact ⟨h.fi, h.wa, h.sh, h.aw, by show e.out ++ [_] = r.out ++ [_]; rw [h.ou, h.aw], h.four, h.ka, h.nd, h.cnt, h.le⟩
  · rw [if_neg (by rw [h.aw]; exact hc), if_neg hc]; exact h
end Go.Proofs.YtlfijfodklhplaaGreat
/- The document's end: In, of bytes that are no frame, or a frame that acknowledges. -/
namespace Go.Proofs.YtlfijfodklhplaaGreat
open Go.RowKit
set_option linter.unusedVariables false
set_option linter.unusedSimpArgs false

theorem refIn_no (b : Nat) (v : Value) (w : World) (hd : Calls Tryz.prog 81 #[v] w fun e w' => e = .returned (.tuple #[.agg (fc false 0 0 0 0 false), .int .i64 9]) ∧ Keep nil w w') :
    Calls Tryz.prog 132 #[.pointer (some ⟨b, 0, none⟩), v] w fun r w' => r = .returned (.slice none 0 0) ∧ Keep nil w w' := by
  have HD : Unit → _ := fun _ => hd
  clear hd
  go_enter Tryz.func132, Tryz.ntmps132
  go_wp2_with fail
  refine (HD ()).mono ?_
  rintro r w1 ⟨rfl, hk1⟩
  have HK : Unit → Keep nil w w1 := fun _ => hk1
  clear HD hk1
  go_wp2
  go_ret
  exact ⟨rfl, (HK ()).alloc _⟩

set_option maxRecDepth 100000 in
set_option maxHeartbeats 2000000 in
theorem refIn_ack (b : Nat) (r : Rf) (p : Rp) (n : Nat) (v : Value) (w : World) (h : RRep w b r p) (hd : Calls Tryz.prog 81 #[v] w fun e w' => e = .returned (.tuple #[.agg (fc false (n : Int) 0 0 0 false), .int .i64 0]) ∧ Keep nil w w') (hn : (r.out.length : Int) < 5864061014000) :
    Calls Tryz.prog 132 #[.pointer (some ⟨b, 0, none⟩), v] w fun x w' => x = .returned (.slice none 0 0) ∧ ∃ p', RRep w' b (r.ack n) p' ∧ RStep w w' b p p' := by
  have HD : Unit → _ := fun _ => hd
  have HR : Unit → RRep w b r p := fun _ => h
  have HN : Unit → (r.out.length : Int) < 5864061014000 := fun _ => hn
  clear hd h hn
  go_enter Tryz.func132, Tryz.ntmps132
  go_wp2_with fail
  refine (HD ()).mono ?_
  rintro x w1 ⟨rfl, hk1⟩
  have HK : Unit → Keep nil w w1 := fun _ => hk1
  clear HD hk1
  go_upto_region 5 with fail
  obtain ⟨W1, hW1⟩ : ∃ W1, W1 = w1.alloc (.cells #[.bool false, .int .i64 (n : Int), .int .i64 0, .int .i64 0, .int .i64 0, .bool false] 78) := ⟨_, rfl⟩
  have hbx : Blk W1 w1.heap.size #[.bool false, .int .i64 (n : Int), .int .i64 0, .int .i64 0, .int .i64 0, .bool false] 78 := by rw [hW1]; exact Blk.new _ _ _
  have k1 : Keep nil w W1 := by rw [hW1]; exact (HK ()).alloc _
  rw [← hW1]
  obtain ⟨xb, hxb⟩ : ∃ xb, xb = w1.heap.size := ⟨_, rfl⟩
  rw [← hxb] at hbx ⊢
  have z1 := hbx.cell 1
  simp at z1
  have hxl := hbx.lt
  have h1 := (HR ()).keep k1 (fun _ _ x => x)
  have q1 := h1.blk.cell 1
  have q2 := h1.blk.cell 2
  simp [rcells] at q1 q2
  have f1 := h1.blk.frozen 1
  have hbl := h1.blk.lt
  have HB : Unit → Blk W1 xb #[.bool false, .int .i64 (n : Int), .int .i64 0, .int .i64 0, .int .i64 0, .bool false] 78 ∧ Keep nil w W1 := fun _ => ⟨hbx, k1⟩
  have HRW : Unit → RRep W1 b r p := fun _ => h1
  have hne : ¬ b = xb := by have h2 := (HR ()).blk.lt; have h3 := (HK ()).size; omega
  have hne' : ¬ xb = b := fun e => hne e.symm
  clear hW1 hbx hxb k1 h1
  by_cases hc1 : r.acked < n
  · have hc1I : (r.acked : Int) < (n : Int) := by omega
    by_cases hc2 : n ≤ r.shown
    · have hc2I : (n : Int) ≤ (r.shown : Int) := by omega
      go_wp2_with fail
      go_quiet (fail)
      obtain ⟨W2, hW2⟩ : ∃ W2, W2 = W1.drewN nq := ⟨_, rfl⟩
      have kd : Keep nil W1 W2 := by rw [hW2]; exact (Keep.refl nil W1).drewN nq
      rw [← hW2]
      replace q1 := (kd.cell b 1 hbl (fun e => e)).trans q1
      replace f1 := (kd.frozen b 1 hbl (fun e => e)).trans f1
      replace z1 := (kd.cell xb 1 hxl (fun e => e)).trans z1
      have hbl2 : b < W2.heap.size := Nat.lt_of_lt_of_le hbl kd.size
      have hxl2 : xb < W2.heap.size := Nat.lt_of_lt_of_le hxl kd.size
      have hset := ((HRW ()).keep kd (fun _ _ x => x)).set (e' := { r with acked := n }) 1 (.int .i64 (n : Int)) (by simp [rcells]) rfl rfl rfl (HR ()).sh hc2
      have HS : Unit → RRep (W2.setCell ⟨b, 1, none⟩ (.int .i64 (n : Int))) b { r with acked := n } p ∧ RStep w (W2.setCell ⟨b, 1, none⟩ (.int .i64 (n : Int))) b p p := fun _ => ⟨hset.1, (RStep.of_keep b p ((HB ()).2.trans kd)).trans hset.2⟩
      have HSH : Unit → Calls Tryz.prog 130 #[.pointer (some ⟨b, 0, none⟩)] (W2.setCell ⟨b, 1, none⟩ (.int .i64 (n : Int))) fun x w' => x = .returned (.tuple #[]) ∧ ∃ p', RRep w' b (r.ack n) p' ∧ RStep (W2.setCell ⟨b, 1, none⟩ (.int .i64 (n : Int))) w' b p p' ∧ p'.ka = p.ka ∧ p'.kc = p.kc := fun _ => by
        have := refShows_any b { r with acked := n } p _ (HS ()).1 (HN ())
        have e1 : ({ r with acked := n } : Rf).showsTo (max r.shown (min r.sent.length (n + 4))) = r.ack n := by
          unfold Rf.ack; rw [if_pos ⟨hc1, hc2⟩]
        rwa [e1] at this
      clear hW2 kd hset hbl hxl q2 hc1 hc2
      go_wp2_with fail
      refine Calls.mono (HSH ()) ?_
      rintro x w3 ⟨rfl, p3, hr3, hs3, _, _⟩
      have HQ : Unit → RRep w3 b (r.ack n) p3 ∧ RStep w w3 b p p3 := fun _ => ⟨hr3, (HS ()).2.trans hs3⟩
      clear hr3 hs3 HSH q1 f1 z1
      go_wp2
      go_ret
      exact ⟨rfl, p3, (HQ ()).1, (HQ ()).2⟩
    · have hc2I : (r.shown : Int) < (n : Int) := by omega
      have HE : Unit → r.ack n = r := fun _ => by unfold Rf.ack; rw [if_neg (fun h => hc2 h.2)]
      go_wp2_with fail
      go_quiet (fail)
      go_wp2
      go_ret
      refine ⟨rfl, p, ?_, RStep.of_keep b p ((HB ()).2.trans ((Keep.refl nil W1).drewN nq))⟩
      rw [HE ()]
      exact (HRW ()).keep ((Keep.refl nil W1).drewN nq) (fun _ _ x => x)
  · have hc1I : (n : Int) ≤ (r.acked : Int) := by omega
    have HE : Unit → r.ack n = r := fun _ => by unfold Rf.ack; rw [if_neg (fun h => hc1 h.1)]
    go_wp2_with fail
    go_quiet (fail)
    go_wp2
    go_ret
    refine ⟨rfl, p, ?_, RStep.of_keep b p ((HB ()).2.trans ((Keep.refl nil W1).drewN nq))⟩
    rw [HE ()]
    exact (HRW ()).keep ((Keep.refl nil W1).drewN nq) (fun _ _ x => x)
end Go.Proofs.YtlfijfodklhplaaGreat
