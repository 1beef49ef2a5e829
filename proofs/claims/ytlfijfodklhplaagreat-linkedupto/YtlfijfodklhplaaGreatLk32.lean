import Derived.Test.YtlfijfodklhplaaGreatLk09
import Derived.Test.YtlfijfodklhplaaGreatLk08
/- Rows of one's own that begin anywhere in their block: append and reslice; a piece of a block that is written anew. -/
namespace Go.Proofs.YtlfijfodklhplaaGreat
open Go.RowKit
set_option linter.unusedVariables false

/-- Block g holds, from o on, the cells vs and room for c elements of 'size' cells each in all. -/
def VBo (w : World) (g o : Nat) (e : TypeId) (size : Nat) (vs : List Value) (c : Nat) : Prop := ∃ pre sp : List Value, Blk w g (pre ++ vs ++ sp).toArray e ∧ pre.length = o ∧ c * size ≤ vs.length + sp.length
theorem VBo.keep {ex : Nat → Prop} {w w' : World} {g o : Nat} {e : TypeId} {size : Nat} {vs : List Value} {c : Nat} (h : VBo w g o e size vs c) (k : Keep ex w w') (hn : ¬ ex g) : VBo w' g o e size vs c :=
  let ⟨pre, sp, hb, hc⟩ := h; ⟨pre, sp, hb.keep k hn, hc⟩
theorem VBo.lt {w : World} {g o : Nat} {e : TypeId} {size : Nat} {vs : List Value} {c : Nat} (h : VBo w g o e size vs c) : g < w.heap.size := let ⟨_, _, hb, _⟩ := h; hb.lt
theorem VBo.cell {w : World} {g o : Nat} {e : TypeId} {size : Nat} {vs : List Value} {c : Nat} (h : VBo w g o e size vs c) (i : Nat) (u : Value) (hu : vs[i]? = some u) : w.cell? ⟨g, o + i, none⟩ = some u := by
  obtain ⟨pre, sp, hb, rfl, _⟩ := h
  have hi := (List.getElem?_eq_some_iff.1 hu).1
  rw [hb.cell, List.getElem?_toArray, List.append_assoc, List.getElem?_append_right (by omega), List.getElem?_append_left (by omega), ← hu]
  congr 1; omega
theorem VBo.frozen {w : World} {g o : Nat} {e : TypeId} {size : Nat} {vs : List Value} {c : Nat} (h : VBo w g o e size vs c) (i : Nat) : w.frozen? ⟨g, i, none⟩ = false := let ⟨_, _, hb, _⟩ := h; hb.frozen i
/-- The row from a later place on. -/
theorem VBo.drop {w : World} {g o : Nat} {e : TypeId} {size : Nat} {vs : List Value} {c : Nat} (h : VBo w g o e size vs c) (n : Nat) (hn : n * size ≤ vs.length) : VBo w g (o + n * size) e size (vs.drop (n * size)) (c - n) := by
  obtain ⟨pre, sp, hb, rfl, hl⟩ := h
  refine ⟨pre ++ vs.take (n * size), sp, ?_, by simp; omega, ?_⟩
  · rw [List.append_assoc pre, List.take_append_drop]; exact hb
  · rw [List.length_drop, Nat.sub_mul]; omega

/-- The end of the row, without room. -/
theorem VBo.stop {w : World} {g o : Nat} {e : TypeId} {size : Nat} {vs : List Value} {c : Nat} (h : VBo w g o e size vs c) : VBo w g o e size [] 0 := by
  obtain ⟨pre, sp, hb, hl, _⟩ := h
  exact ⟨pre, vs ++ sp, by simpa using hb, hl, by simp⟩

/-- In which block a slice lies. -/
def inB (a : Option Addr) (k : Nat) : Prop := ∃ o, a = some ⟨k, o, none⟩
theorem inB_none (k : Nat) : ¬ inB none k := fun ⟨_, h⟩ => by cases h
theorem inB_some {g o k : Nat} : inB (some ⟨g, o, none⟩) k ↔ k = g := ⟨fun ⟨_, h⟩ => by cases h; rfl, fun h => ⟨o, by rw [h]⟩⟩
theorem inB_self (g o : Nat) : inB (some ⟨g, o, none⟩) g := ⟨o, rfl⟩
/-- A slice that is nil, or a row of one's own. -/
def RV (w : World) (e : TypeId) (size : Nat) (a : Option Addr) (n c : Nat) (vs : List Value) : Prop :=
  vs.length = n * size ∧ n ≤ c ∧ ((a = none ∧ n = 0 ∧ c = 0) ∨ ∃ g o, a = some ⟨g, o, none⟩ ∧ VBo w g o e size vs c)
theorem RV.keep {ex : Nat → Prop} {w w' : World} {e : TypeId} {size : Nat} {a : Option Addr} {n c : Nat} {vs : List Value} (h : RV w e size a n c vs) (k : Keep ex w w') (hn : ∀ g, inB a g → ¬ ex g) : RV w' e size a n c vs := by
  obtain ⟨h1, h2, h3⟩ := h
  refine ⟨h1, h2, ?_⟩
  rcases h3 with h3 | ⟨g, o, rfl, hb⟩
  · exact Or.inl h3
  · exact Or.inr ⟨g, o, rfl, hb.keep k (hn g (inB_self g o))⟩
theorem RV.lt {w : World} {e : TypeId} {size : Nat} {a : Option Addr} {n c : Nat} {vs : List Value} (h : RV w e size a n c vs) : ∀ g, inB a g → g < w.heap.size := by
  obtain ⟨_, _, h3⟩ := h
  rintro g ⟨o, rfl⟩
  rcases h3 with ⟨h3, _⟩ | ⟨g', o', h, hb⟩
  · cases h3
  · cases h; exact hb.lt
theorem RV.drew {w : World} {e : TypeId} {size : Nat} {a : Option Addr} {n c : Nat} {vs : List Value} (h : RV w e size a n c vs) : RV w.drew e size a n c vs := h
theorem RV.alloc {w : World} {e : TypeId} {size : Nat} {a : Option Addr} {n c : Nat} {vs : List Value} (h : RV w e size a n c vs) (o : Obj) : RV (w.alloc o) e size a n c vs := h.keep ((Keep.refl nil w).alloc o) (fun _ _ e => e)
theorem RV.nil (w : World) (e : TypeId) (size : Nat) : RV w e size none 0 0 [] := ⟨by simp, Nat.le_refl _, Or.inl ⟨rfl, rfl, rfl⟩⟩

theorem run_append_room_at {P : Program} (w : World) (t ty e : TypeId) (i : TypeInfo) (ht : P.underlying t = some (.slice e)) (hi : P.info? e = some i)
    (g o sLen sCap : Nat) (cur : Array Value) (hg : w.heap[g]? = some (.cells cur e (0, 0)))
    (a : Addr) (m c : Nat) (news : List Value) (hl : news.length = m * i.size) (hnews : ∀ j u, news[j]? = some u → w.cell? (a.add j) = some u) (h1 : ∀ u ∈ news, u.oneCell' = true)
    (hroom : sLen + m ≤ sCap) (hfit : o + sLen * i.size + news.length ≤ cur.size) :
    (Builtin.append_ #[t, t] ty #[.slice (some ⟨g, o, none⟩) sLen sCap, .slice (some a) m c]).run P w =
      .ok (.slice (some ⟨g, o, none⟩) (sLen + m) sCap) (w.setRow g (cur.toList.take (o + sLen * i.size) ++ news ++ cur.toList.drop (o + sLen * i.size + news.length)).toArray) := by
  have hf := run_firstCells_some (P := P) w i.size m a m c news hl hnews
  have hst := run_storeCells_at P g (o + sLen * i.size) e news 0 cur w hg (by simpa using hfit) h1
  simp only [Nat.add_zero] at hst
  simp [Builtin.append_, run_underlying ht, sizeOf, typeInfo, hi, Builtin.lenOf, hroom, hf, Addr.add_lit, hst]

/-- append of cells that lie somewhere, onto nil or a row of one's own. -/
theorem run_append_rv {P : Program} (w : World) (t ty e : TypeId) (z : Value) (size bytes : Nat) (ht : P.underlying t = some (.slice e)) (hinfo : (P.info? e).map (fun i => (i.zero, i.size, i.bytes)) = some (some z, size, bytes)) (hzs : z.cells.size = size)
    (a : Option Addr) (n c : Nat) (vs : List Value) (hb : RV w e size a n c vs) (ad : Addr) (m c' : Nat) (h0 : 0 < m) (news : List Value) (hm : news.length = m * size)
    (hc : ∀ j u, news[j]? = some u → w.cell? (ad.add j) = some u) (h1 : ∀ u ∈ news, u.oneCell' = true) (hbytes : (n + m) * bytes ≤ 140737488355328) (h63 : n + m ≤ 9223372036854775807) :
    ∃ a' k' w', (Builtin.append_ #[t, t] ty #[.slice a n c, .slice (some ad) m c']).run P w = .ok (.slice a' (n + m) k') w' ∧ RV w' e size a' (n + m) k' (vs ++ news) ∧ (∀ g, inB a' g → inB a g ∨ g = w.heap.size) ∧ Keep (inB a) w w' := by
  obtain ⟨hn, hnc, hb⟩ := hb
  have hlen : (vs ++ news).length = (n + m) * size := by rw [List.length_append, hn, hm, Nat.add_mul]
  rcases hb with ⟨rfl, rfl, rfl⟩ | ⟨g, o, rfl, hb⟩
  · have hv : vs = [] := List.eq_nil_of_length_eq_zero (by simpa using hn)
    subst hv
    rw [Nat.zero_add] at hbytes h63 ⊢
    obtain ⟨k', w', hr, h2, h3, h4⟩ := run_append_new (P := P) w t ty e z size bytes ht hinfo hzs ad m c' h0 news hm hc hbytes h63
    obtain ⟨sp, hbl, hsp⟩ := h2
    refine ⟨_, k', w', hr, ⟨by simpa using hm, h3, Or.inr ⟨w.heap.size, 0, rfl, [], sp, by simpa using hbl, rfl, by simp at hsp ⊢; omega⟩⟩, fun g hg => Or.inr (inB_some.1 hg), h4.mono (fun _ _ e => e.elim)⟩
  · obtain ⟨i, hi, hz, hs, hby⟩ := info_parts hinfo
    have hb0 := hb
    obtain ⟨pre, sp, hbl, rfl, hl⟩ := hb
    by_cases hroom : n + m ≤ c
    · have hsp : m * size ≤ sp.length := by
        have : (n + m) * size ≤ c * size := Nat.mul_le_mul_right _ hroom
        rw [Nat.add_mul] at this; omega
      have hr := run_append_room_at (P := P) w t ty e i ht hi g pre.length n c (pre ++ vs ++ sp).toArray hbl ad m c' news (by rw [hm, hs]) hc h1 hroom (by simp [hs, hm, hn]; omega)
      refine ⟨_, c, _, hr, ⟨hlen, hroom, Or.inr ⟨g, pre.length, rfl, pre, sp.drop (m * size), ?_, rfl, by simp [hm, hn]; omega⟩⟩, fun k hk => Or.inl hk, ?_⟩
      · unfold Blk at hbl ⊢
        rw [setRow_heap w g _ _ _ _ hbl]
        have e1 : (pre ++ vs ++ sp).take (pre.length + n * i.size) = pre ++ vs := by rw [hs, ← hn, ← List.length_append]; exact List.take_left
        have e2 : (pre ++ vs ++ sp).drop (pre.length + n * i.size + news.length) = sp.drop (m * size) := by rw [hs, ← hn, hm, ← List.length_append, List.drop_append, List.drop_of_length_le (by omega)]; simp
        rw [e1, e2]; simp
      · exact ⟨rfl, rfl, rfl, by simp [World.setRow], fun k hk hn => setRow_other w g k _ (fun e => hn (inB_some.2 e))⟩
    · have hg : c < n + m := by omega
      have hr := run_append_grow (P := P) w t ty e i z ht hi hz ⟨g, pre.length, none⟩ n c vs (by rw [hn, hs]) (fun j v hv => by
        rw [Addr.add_lit]; exact hb0.cell j v hv) ad m c' news (by rw [hm, hs]) hc hg (by omega) (by rw [hby]; exact growslice_fits hg hbytes)
      have hge := grownCap_ge w (n + m) c e
      refine ⟨_, _, _, hr, ⟨hlen, hge, Or.inr ⟨w.heap.size, 0, rfl, [], (Builtin.zeroCells z.cells (grownCap w (n + m) c e - (n + m))).toList, ?_, rfl, ?_⟩⟩, fun k hk => Or.inr (inB_some.1 hk), ((Keep.refl _ w).drew).alloc _⟩
      · have := Blk.new w.drew (vs.toArray ++ news.toArray ++ Builtin.zeroCells z.cells (grownCap w (n + m) c e - (n + m))) e
        have e3 : vs.toArray ++ news.toArray ++ Builtin.zeroCells z.cells (grownCap w (n + m) c e - (n + m)) = ([] ++ (vs ++ news) ++ (Builtin.zeroCells z.cells (grownCap w (n + m) c e - (n + m))).toList).toArray := by
          apply Array.ext'; simp
        rw [e3] at this ⊢
        exact this
      · rw [zero_len, hzs, List.length_append, hn, hm, ← Nat.add_mul, ← Nat.add_mul]
        exact Nat.mul_le_mul_right _ (by omega)

theorem wpList_append_rv {P : Program} (w : World) {ops : Array Oper} {rest : List Oper} {o : Oper} {a : Act} {Q : Exit → Act → World → Prop}
    (hg : o.guard = none) (s x : Operand) (t : TypeId) (hop : o.op = Op.call { callee := Callee.builtin Builtin.append, args := #[s, x], argTypes := #[t, t] })
    (e : TypeId) (z : Value) (size bytes : Nat) (ht : P.underlying t = some (.slice e)) (hinfo : (P.info? e).map (fun i => (i.zero, i.size, i.bytes)) = some (some z, size, bytes)) (hzs : z.cells.size = size)
    (sa : Option Addr) (n c : Nat) (hs : a.eval s = .slice sa n c) (vs : List Value) (hb : RV w e size sa n c vs) (ad : Addr) (m c' : Nat) (h0 : 0 < m) (hx : a.eval x = .slice (some ad) m c') (news : List Value) (hm : news.length = m * size)
    (hc : ∀ j u, news[j]? = some u → w.cell? (ad.add j) = some u) (h1 : ∀ u ∈ news, u.oneCell' = true) (hbytes : (n + m) * bytes ≤ 140737488355328) (h63 : n + m ≤ 9223372036854775807)
    (hK : ∀ a' k' w', RV w' e size a' (n + m) k' (vs ++ news) → (∀ g, inB a' g → inB sa g ∨ g = w.heap.size) → Keep (inB sa) w w' → wpList P ops Q rest (a.put o.dst (.slice a' (n + m) k')) w') :
    wpList P ops Q (o :: rest) a w := by
  refine wpList_plain hg fun K hK' => ?_
  obtain ⟨a', k', w', hrun, r1, r2, r3⟩ := run_append_rv (P := P) w t o.type e z size bytes ht hinfo hzs sa n c vs hb ad m c' h0 news hm hc h1 hbytes h63
  unfold Oper.wp
  simp [execOp, hop, resolve, invoke, builtin, hs, hx, hrun, Result.andThen]
  exact hK' _ _ (hK a' k' w' r1 r2 r3)

theorem step_append_rv {P : Program} {ops : Array Oper} {o : Oper} {a : Act} {w : World} {K : Act → World → Prop} {Q : Exit → Act → World → Prop} {E : Prop}
    (hg : o.guard = none) (s x : Operand) (t : TypeId) (hop : o.op = Op.call { callee := Callee.builtin Builtin.append, args := #[s, x], argTypes := #[t, t] })
    (e : TypeId) (z : Value) (size bytes : Nat) (ht : P.underlying t = some (.slice e)) (hinfo : (P.info? e).map (fun i => (i.zero, i.size, i.bytes)) = some (some z, size, bytes)) (hzs : z.cells.size = size)
    (sa : Option Addr) (n c : Nat) (hs : a.eval s = .slice sa n c) (vs : List Value) (hb : RV w e size sa n c vs) (ad : Addr) (m c' : Nat) (h0 : 0 < m) (hx : a.eval x = .slice (some ad) m c') (news : List Value) (hm : news.length = m * size)
    (hc : ∀ j u, news[j]? = some u → w.cell? (ad.add j) = some u) (h1 : ∀ u ∈ news, u.oneCell' = true) (hbytes : (n + m) * bytes ≤ 140737488355328) (h63 : n + m ≤ 9223372036854775807)
    (hK : ∀ a' k' w', RV w' e size a' (n + m) k' (vs ++ news) → (∀ g, inB a' g → inB sa g ∨ g = w.heap.size) → Keep (inB sa) w w' → K (a.put o.dst (.slice a' (n + m) k')) w') :
    if Region.wanted o (yielded ops a.tmps) = true then Oper.wp P o a w K Q else E := by
  have hw : Region.wanted o (yielded ops a.tmps) = true := by simp [Region.wanted, hg]
  rw [if_pos hw]
  obtain ⟨a', k', w', hrun, r1, r2, r3⟩ := run_append_rv (P := P) w t o.type e z size bytes ht hinfo hzs sa n c vs hb ad m c' h0 news hm hc h1 hbytes h63
  unfold Oper.wp
  simp [execOp, hop, resolve, invoke, builtin, hs, hx, hrun, Result.andThen]
  exact hK a' k' w' r1 r2 r3

/-- The cells of a block, those from o on written anew. -/
def put (c : Array Value) (o : Nat) (l : List Value) : Array Value := (c.toList.take o ++ l ++ c.toList.drop (o + l.length)).toArray
theorem put_size (c : Array Value) (o : Nat) (l : List Value) (h : o + l.length ≤ c.size) : (put c o l).size = c.size := by
  simp [put]; omega
theorem put_get (c : Array Value) (o : Nat) (l : List Value) (h : o + l.length ≤ c.size) (i : Nat) (hi : i < l.length) : (put c o l)[o + i]? = l[i]? := by
  have h1 : (c.toList.take o).length = o := by simp; omega
  rw [put, List.getElem?_toArray, List.append_assoc, List.getElem?_append_right (by omega), h1, List.getElem?_append_left (by omega)]
  congr 1; omega
theorem put_set (c : Array Value) (o : Nat) (l : List Value) (h : o + l.length ≤ c.size) (i : Nat) (hi : i < l.length) (v : Value) : (put c o l).setIfInBounds (o + i) v = put c o (l.set i v) := by
  have h1 : (c.toList.take o).length = o := by simp; omega
  apply Array.ext'
  simp only [put, Array.toList_setIfInBounds, List.length_set]
  rw [List.append_assoc, List.append_assoc, List.set_append_right _ _ (by omega), h1, List.set_append_left _ _ (by omega)]
  congr 3; omega
theorem put_put (c : Array Value) (o : Nat) (l m : List Value) (h : o + l.length ≤ c.size) (hm : m.length = l.length) : put (put c o l) o m = put c o m := by
  have h1 : (c.toList.take o).length = o := by simp; omega
  apply Array.ext'
  simp only [put]
  rw [List.append_assoc (c.toList.take o) l, List.take_append_of_le_length (by omega), List.take_of_length_le (by omega), hm]
  congr 1
  rw [← List.append_assoc, List.drop_append, List.drop_of_length_le (by simp; omega)]
  simp; omega
theorem put_self (c : Array Value) (l : List Value) (h : l.length = c.size) : put c 0 l = l.toArray := by
  apply Array.ext'
  simp [put, h]
/-- A cell of the piece. -/
theorem Blk.at {w : World} {b : Nat} {c : Array Value} {t : TypeId} {o : Nat} {l : List Value} (h : Blk w b (put c o l) t) (hf : o + l.length ≤ c.size) (i : Nat) (v : Value) (hv : l[i]? = some v) : w.cell? ⟨b, o + i, none⟩ = some v := by
  rw [h.cell, put_get c o l hf i (List.getElem?_eq_some_iff.1 hv).1, hv]
theorem Blk.put_at {w : World} {b : Nat} {c : Array Value} {t : TypeId} {o : Nat} {l : List Value} (h : Blk w b (put c o l) t) (hf : o + l.length ≤ c.size) (i : Nat) (hi : i < l.length) (v : Value) : Blk (w.setCell ⟨b, o + i, none⟩ v) b (put c o (l.set i v)) t := by
  rw [← put_set c o l hf i hi v]
  exact h.set (o + i) v
end Go.Proofs.YtlfijfodklhplaaGreat
/- An end of a link: what it has, what each call does with it; how it lies in memory. -/
namespace Go.Proofs.YtlfijfodklhplaaGreat
open Go.RowKit
set_option linter.unusedVariables false

structure En where
  first : Nat
  wait : List Fr.Msg
  await : Nat
  kept : List (Option Fr.Msg)
  out : List Fr.Frm
namespace En
def new : En := ⟨0, [], 0, [none, none, none, none], []⟩
/-- Frames of messages, numbered from n on. -/
def frames (n : Nat) : List Fr.Msg → List Fr.Frm
  | [] => []
  | m :: r => ⟨true, n, m⟩ :: frames (n + 1) r
def shown (e : En) : Nat := min e.wait.length 4
def showFrom (e : En) (k : Nat) : En := { e with out := e.out ++ frames (e.first + k) ((e.wait.take 4).drop k) }
def put (e : En) (m : Fr.Msg) : En := { e with wait := e.wait ++ [m] }
def send (e : En) (m : Fr.Msg) : En := (e.put m).showFrom e.shown
def drop (e : En) (n : Nat) : En := { e with first := e.first + n, wait := e.wait.drop n }
def ack (e : En) (n : Nat) : En := if e.first < n ∧ n ≤ e.first + e.shown then (e.drop (n - e.first)).showFrom (e.shown - (n - e.first)) else e
def keep (e : En) (n : Nat) (m : Fr.Msg) : En := if e.await ≤ n then (match e.kept[n - e.await]? with | some none => { e with kept := e.kept.set (n - e.await) (some m) } | _ => e) else e
/-- The messages that are there from the first place on. -/
def ready : List (Option Fr.Msg) → List Fr.Msg
  | some m :: r => m :: ready r
  | _ => []
def take (e : En) : En := { e with await := e.await + (ready e.kept).length, kept := e.kept.drop (ready e.kept).length ++ List.replicate (ready e.kept).length none }
def answer (e : En) : En := if e.await < 65536 then { e with out := e.out ++ [⟨false, e.await, Fr.none0⟩] } else e
def came (e : En) (n : Nat) (m : Fr.Msg) : En := (e.keep n m).take.answer
def told (e : En) (n : Nat) (m : Fr.Msg) : List Fr.Msg := ready (e.keep n m).kept
def tick (e : En) : En := e.showFrom 0
def outs (e : En) : En := { e with out := [] }
end En
theorem frames_len (n : Nat) (l : List Fr.Msg) : (En.frames n l).length = l.length := by
  induction l generalizing n with
  | nil => rfl
  | cons m r ih => simp [En.frames, ih]
theorem frames_append (n : Nat) (l k : List Fr.Msg) : En.frames n (l ++ k) = En.frames n l ++ En.frames (n + l.length) k := by
  induction l generalizing n with
  | nil => simp [En.frames]
  | cons m r ih => simp only [List.cons_append, En.frames, ih, List.length_cons]; rw [Nat.add_right_comm, ← Nat.add_assoc]

/- How it lies in memory. -/
def mcell (m : Fr.Msg) : List Value := [.int .i64 (m.kind : Int), .int .i64 (m.level : Int), .int .i64 (m.name : Int), .bool m.finding]
def mcells (l : List Fr.Msg) : List Value := l.flatMap mcell
theorem mcells_len (l : List Fr.Msg) : (mcells l).length = l.length * 4 := by
  induction l with
  | nil => rfl
  | cons e t ih => simp only [mcells, List.flatMap_cons, List.length_append, List.length_cons] at ih ⊢; rw [ih]; simp [mcell]; omega
theorem mcells_append (l m : List Fr.Msg) : mcells (l ++ m) = mcells l ++ mcells m := by simp [mcells]
theorem mcells_drop (l : List Fr.Msg) (n : Nat) : (mcells l).drop (n * 4) = mcells (l.drop n) := by
  induction l generalizing n with
  | nil => simp [mcells]
  | cons m r ih =>
    cases n with
    | zero => simp
    | succ n =>
      have := ih n
      simp only [mcells, List.flatMap_cons, List.drop_succ_cons] at this ⊢
      rw [← this, List.drop_append, List.drop_of_length_le (by simp [mcell]; omega), List.nil_append]
      congr 1
      simp [mcell]; omega
theorem mcells_one (l : List Fr.Msg) : ∀ u ∈ mcells l, u.oneCell' = true := by
  intro u hu
  obtain ⟨e, _, h⟩ := List.mem_flatMap.1 hu
  simp only [mcell, List.mem_cons, List.not_mem_nil, or_false] at h
  rcases h with rfl | rfl | rfl | rfl <;> rfl
theorem mcells_get (l : List Fr.Msg) (i : Nat) (m : Fr.Msg) (h : l[i]? = some m) (j : Nat) (hj : j < 4) : (mcells l)[i * 4 + j]? = (mcell m)[j]? := by
  have h1 : (mcells l).drop (i * 4) = mcell m ++ mcells (l.drop (i + 1)) := by
    rw [mcells_drop]
    obtain ⟨hi, rfl⟩ := List.getElem?_eq_some_iff.1 h
    rw [List.drop_eq_getElem_cons hi]; rfl
  have h2 : (mcells l)[i * 4 + j]? = ((mcells l).drop (i * 4))[j]? := by rw [List.getElem?_drop]
  rw [h2, h1, List.getElem?_append_left (by simpa [mcell] using hj)]

def mof : Option Fr.Msg → Fr.Msg
  | some m => m
  | none => Fr.none0
def slot (x : Option Fr.Msg) : List Value := mcell (mof x) ++ [.bool x.isSome]
def slots (l : List (Option Fr.Msg)) : List Value := l.flatMap slot
theorem slots_len (l : List (Option Fr.Msg)) : (slots l).length = l.length * 5 := by
  induction l with
  | nil => rfl
  | cons e t ih => simp only [slots, List.flatMap_cons, List.length_append, List.length_cons] at ih ⊢; rw [ih]; simp [slot, mcell]; omega
def fval (g : Nat) (f : Fr.Frm) : Value := .slice (some ⟨g, 0, none⟩) (flen f) 10
def ovals (gs : List Nat) (l : List Fr.Frm) : List Value := List.zipWith fval gs l

/-- Where its lists lie. -/
structure Pl where
  wa : Option Addr
  wc : Nat
  oa : Option Addr
  oc : Nat
  gs : List Nat
def En.cells (e : En) (p : Pl) : List Value := .int .i64 (e.first : Int) :: .slice p.wa e.wait.length p.wc :: .int .i64 (e.await : Int) :: (slots e.kept ++ [.slice p.oa e.out.length p.oc])
theorem cells_len (e : En) (p : Pl) (h : e.kept.length = 4) : (e.cells p).length = 24 := by simp [En.cells, slots_len, h]

def MOk (m : Fr.Msg) : Prop := m.kind < 256 ∧ m.level < 256 ∧ m.name < 65536 ∧ may (m.kind : Int) (m.level : Int) (m.name : Int) m.finding = true
/-- Which blocks are its own. -/
def Mine (b : Nat) (p : Pl) (k : Nat) : Prop := k = b ∨ inB p.wa k ∨ inB p.oa k ∨ k ∈ p.gs
/-- Those that a call may write. -/
def Wri (b : Nat) (p : Pl) (k : Nat) : Prop := k = b ∨ inB p.wa k ∨ inB p.oa k
structure Rep (w : World) (c : Array Value) (t : TypeId) (b o : Nat) (e : En) (p : Pl) : Prop where
  blk : Blk w b (put c o (e.cells p)) t
  fit : o + 24 ≤ c.size
  four : e.kept.length = 4
  wrow : RV w 76 4 p.wa e.wait.length p.wc (mcells e.wait)
  orow : RV w 56 1 p.oa e.out.length p.oc (ovals p.gs e.out)
  gl : p.gs.length = e.out.length
  bufs : ∀ (i g : Nat) (f : Fr.Frm), p.gs[i]? = some g → e.out[i]? = some f → Buf w g (Fr.enc f) 10
  wb : ¬ inB p.wa b
  ob : ¬ inB p.oa b
  wo : ∀ k, inB p.wa k → ¬ inB p.oa k
  gw : ∀ k, k ∈ p.gs → ¬ Wri b p k
  gn : p.gs.Nodup
  wok : ∀ m ∈ e.wait, MOk m
  most : e.first + e.wait.length ≤ 65536
  awt : e.await ≤ 65536
  kn : ∀ (i : Nat) (m : Fr.Msg), e.kept[i]? = some (some m) → e.await + i < 65536
  fok : ∀ f ∈ e.out, FrOk f
theorem Rep.keep {ex : Nat → Prop} {w w' : World} {c : Array Value} {t : TypeId} {b o : Nat} {e : En} {p : Pl} (h : Rep w c t b o e p) (k : Keep ex w w') (hn : ∀ i, Mine b p i → ¬ ex i) : Rep w' c t b o e p where
  blk := h.blk.keep k (hn b (Or.inl rfl))
  fit := h.fit
  four := h.four
  wrow := h.wrow.keep k (fun g hg => hn g (Or.inr (Or.inl hg)))
  orow := h.orow.keep k (fun g hg => hn g (Or.inr (Or.inr (Or.inl hg))))
  gl := h.gl
  bufs := fun i g f hg hf => (h.bufs i g f hg hf).keep k (hn g (Or.inr (Or.inr (Or.inr (List.mem_of_getElem? hg)))))
  wb := h.wb
  ob := h.ob
  wo := h.wo
  gw := h.gw
  gn := h.gn
  wok := h.wok
  most := h.most
  awt := h.awt
  kn := h.kn
  fok := h.fok
theorem Rep.lt {w : World} {c : Array Value} {t : TypeId} {b o : Nat} {e : En} {p : Pl} (h : Rep w c t b o e p) : ∀ i, Mine b p i → i < w.heap.size := by
  rintro i (rfl | hi | hi | hi)
  · exact h.blk.lt
  · exact h.wrow.lt i hi
  · exact h.orow.lt i hi
  · obtain ⟨j, hj, rfl⟩ := List.getElem_of_mem hi
    have hj' : j < e.out.length := by have := h.gl; omega
    exact (h.bufs j p.gs[j] e.out[j] (List.getElem?_eq_getElem hj) (List.getElem?_eq_getElem hj')).lt
theorem Rep.len {w : World} {c : Array Value} {t : TypeId} {b o : Nat} {e : En} {p : Pl} (h : Rep w c t b o e p) : o + (e.cells p).length ≤ c.size := by rw [cells_len e p h.four]; exact h.fit
theorem Rep.cell {w : World} {c : Array Value} {t : TypeId} {b o : Nat} {e : En} {p : Pl} (h : Rep w c t b o e p) (i : Nat) (v : Value) (hv : (e.cells p)[i]? = some v) : w.cell? ⟨b, o + i, none⟩ = some v := h.blk.at h.len i v hv
theorem Rep.frozen {w : World} {c : Array Value} {t : TypeId} {b o : Nat} {e : En} {p : Pl} (h : Rep w c t b o e p) (i : Nat) : w.frozen? ⟨b, i, none⟩ = false := h.blk.frozen i
theorem Rep.c0 {w : World} {c : Array Value} {t : TypeId} {b o : Nat} {e : En} {p : Pl} (h : Rep w c t b o e p) : w.cell? ⟨b, o, none⟩ = some (.int .i64 (e.first : Int)) := h.cell 0 _ rfl
theorem Rep.c1 {w : World} {c : Array Value} {t : TypeId} {b o : Nat} {e : En} {p : Pl} (h : Rep w c t b o e p) : w.cell? ⟨b, o + 1, none⟩ = some (.slice p.wa e.wait.length p.wc) := h.cell 1 _ rfl
theorem Rep.c2 {w : World} {c : Array Value} {t : TypeId} {b o : Nat} {e : En} {p : Pl} (h : Rep w c t b o e p) : w.cell? ⟨b, o + 2, none⟩ = some (.int .i64 (e.await : Int)) := h.cell 2 _ rfl
theorem cells_23 (e : En) (p : Pl) (h : e.kept.length = 4) : (e.cells p)[23]? = some (.slice p.oa e.out.length p.oc) := by
  have h1 : (slots e.kept).length = 20 := by rw [slots_len, h]
  simp only [En.cells, List.getElem?_cons_succ]
  rw [List.getElem?_append_right (by omega), h1]; rfl
theorem Rep.c23 {w : World} {c : Array Value} {t : TypeId} {b o : Nat} {e : En} {p : Pl} (h : Rep w c t b o e p) : w.cell? ⟨b, o + 23, none⟩ = some (.slice p.oa e.out.length p.oc) := h.cell 23 _ (cells_23 e p h.four)
theorem cells_set1 (e : En) (p : Pl) (l : List Fr.Msg) (a : Option Addr) (c : Nat) : (e.cells p).set 1 (.slice a l.length c) = ({ e with wait := l } : En).cells { p with wa := a, wc := c } := rfl
theorem cells_set0 (e : En) (p : Pl) (n : Nat) : (e.cells p).set 0 (.int .i64 (n : Int)) = ({ e with first := n } : En).cells p := rfl
theorem cells_set2 (e : En) (p : Pl) (n : Nat) : (e.cells p).set 2 (.int .i64 (n : Int)) = ({ e with await := n } : En).cells p := rfl
theorem cells_set23 (e : En) (p : Pl) (h : e.kept.length = 4) (l : List Fr.Frm) (a : Option Addr) (c : Nat) (gs : List Nat) : (e.cells p).set 23 (.slice a l.length c) = ({ e with out := l } : En).cells { p with oa := a, oc := c, gs := gs } := by
  have h1 : (slots e.kept).length = 20 := by rw [slots_len, h]
  simp only [En.cells, List.set_cons_succ]
  rw [List.set_append_right _ _ (by omega), h1]; rfl
theorem msg_info : (Tryz.prog.info? 76).map (fun i => (i.zero, i.size, i.bytes)) = some (some (.agg #[.int .i64 0, .int .i64 0, .int .i64 0, .bool false]), 4, 32) := by kernel_rfl
theorem list_info : (Tryz.prog.info? 56).map (fun i => (i.zero, i.size, i.bytes)) = some (some (.slice none 0 0), 1, 24) := by kernel_rfl
end Go.Proofs.YtlfijfodklhplaaGreat
/- Walks of what an end has sent: next, shown, add, drop, frame. -/
namespace Go.Proofs.YtlfijfodklhplaaGreat
open Go.RowKit
set_option linter.unusedVariables false

set_option maxHeartbeats 1000000 in
theorem next_any (b o n l wc : Nat) (wa : Option Addr) (w : World) (h0 : w.cell? ⟨b, o, none⟩ = some (.int .i64 (n : Int))) (h1 : w.cell? ⟨b, o + 1, none⟩ = some (.slice wa l wc)) (hm : (n : Int) + (l : Int) ≤ 65536) :
    Calls Tryz.prog 162 #[.pointer (some ⟨b, o, none⟩)] w fun e w' => e = .returned (.int .i64 ((n : Int) + (l : Int))) ∧ Keep nil w w' := by
  go_enter Tryz.func162, Tryz.ntmps162
  go_wp2_with fail
  go_quiet (fail)
  all_goals
    go_wp2
    go_ret
    exact ⟨rfl, Keep.refl _ _ |>.drewN _⟩

set_option maxHeartbeats 1000000 in
theorem shown_any (b o l wc : Nat) (wa : Option Addr) (w : World) (h1 : w.cell? ⟨b, o + 1, none⟩ = some (.slice wa l wc)) (hm : (l : Int) ≤ 65536) :
    Calls Tryz.prog 163 #[.pointer (some ⟨b, o, none⟩)] w fun e w' => e = .returned (.int .i64 ((min l 4 : Nat) : Int)) ∧ w = w' := by
  go_enter Tryz.func163, Tryz.ntmps163
  go_wp2
  all_goals
    go_ret
    exact ⟨ret_int (by omega), rfl⟩

abbrev mv (m : Fr.Msg) : Value := .agg #[.int .i64 (m.kind : Int), .int .i64 (m.level : Int), .int .i64 (m.name : Int), .bool m.finding]

set_option maxHeartbeats 1000000 in
theorem sentAdd_any (b o n l wc : Nat) (wa : Option Addr) (vs : List Value) (m : Fr.Msg) (w : World) (h1 : w.cell? ⟨b, o + 1, none⟩ = some (.slice wa l wc)) (hf : w.frozen? ⟨b, o + 1, none⟩ = false) (hr : RV w 76 4 wa l wc vs) (hb : ¬ inB wa b) (hm : (l : Int) ≤ 65536) :
    Calls Tryz.prog 164 #[.pointer (some ⟨b, o, none⟩), mv m] w fun e w' => e = .returned (.tuple #[]) ∧ ∃ a' c' w1, RV w1 76 4 a' (l + 1) c' (vs ++ mcell m) ∧ (∀ g, inB a' g → inB wa g ∨ w.heap.size ≤ g) ∧ Keep (inB wa) w w1 ∧ w' = w1.setCell ⟨b, o + 1, none⟩ (.slice a' (l + 1) c') := by
  have hbl : b < w.heap.size := World.block_lt_of_cell? w _ h1
  go_enter Tryz.func164, Tryz.ntmps164
  go_wp2_with fail
  go_region_law (refine step_append_rv rfl (.tmp 8) (.tmp 10) 112 rfl 76 (.agg #[.int .i64 0, .int .i64 0, .int .i64 0, .bool false]) 4 32 Tryz.underlying112 msg_info rfl wa l wc rfl vs ((hr.alloc _).drew.alloc _) ⟨w.heap.size + 1, 0, none⟩ 1 1 (by omega) rfl (mcell m) rfl (cells_list (w.alloc (.cells (mcell m).toArray 76)).drew (mcell m) 76 _ (by simp)) (by simpa [mcells] using mcells_one [m]) (by omega) (by omega) ?_; intro a' c' w1 hr1 hg1 hk1; have hk2 : Keep (inB wa) w w1 := ((((Keep.refl _ w).alloc _).drew).alloc _).trans hk1; have q1 := (hk2.cell b (o + 1) hbl hb).trans h1; have q2 := (hk2.frozen b (o + 1) hbl hb).trans hf)
  all_goals
    go_wp2
    go_end0
    exact ⟨rfl, a', c', w1, hr1, fun g hg => (hg1 g hg).imp id (fun e => by rw [e]; simp; omega), hk2, rfl⟩

set_option maxHeartbeats 1000000 in
theorem drop_any (b o g wo n k l wc : Nat) (w : World) (h0 : w.cell? ⟨b, o, none⟩ = some (.int .i64 (n : Int))) (h1 : w.cell? ⟨b, o + 1, none⟩ = some (.slice (some ⟨g, wo, none⟩) l wc)) (hf0 : w.frozen? ⟨b, o, none⟩ = false) (hf : w.frozen? ⟨b, o + 1, none⟩ = false) (hn : (n : Int) ≤ 65536) (hk : k ≤ l) (hl : l ≤ wc) (hl' : (l : Int) ≤ 65536) :
    Calls Tryz.prog 197 #[.pointer (some ⟨b, o, none⟩), .int .i64 (k : Int)] w fun e w' => e = .returned (.tuple #[]) ∧ ∃ wo', (wo' = wo + k * 4 ∨ (wc = k ∧ wo' = wo)) ∧ w' = (w.setCell ⟨b, o, none⟩ (.int .i64 ((n : Int) + (k : Int)))).setCell ⟨b, o + 1, none⟩ (.slice (some ⟨g, wo', none⟩) (l - k) (wc - k)) := by
  by_cases hc : wc = k
  · subst hc
    go_enter Tryz.func197, Tryz.ntmps197
    have hlw : l = wc := by omega
    subst hlw
    go_wp2
    go_end0
    exact ⟨rfl, wo, Or.inr ⟨trivial, rfl⟩, by simp⟩
  · have hc' : ¬ wc - k = 0 := by omega
    go_enter Tryz.func197, Tryz.ntmps197
    go_wp2
    go_end0
    exact ⟨rfl, wo + k * 4, Or.inl rfl, rfl⟩

set_option maxHeartbeats 1000000 in
theorem frame_any (b o g wo n k l wc : Nat) (m : Fr.Msg) (w : World) (h0 : w.cell? ⟨b, o, none⟩ = some (.int .i64 (n : Int))) (h1 : w.cell? ⟨b, o + 1, none⟩ = some (.slice (some ⟨g, wo, none⟩) l wc)) (hn : (n : Int) ≤ 65536) (hk : k < l) (hl : (l : Int) ≤ 65536)
    (hm : ∀ j u, (mcell m)[j]? = some u → w.cell? ⟨g, wo + k * 4 + j, none⟩ = some u) :
    Calls Tryz.prog 194 #[.pointer (some ⟨b, o, none⟩), .int .i64 (k : Int)] w fun e w' => e = .returned (.agg (fc true ((n : Int) + (k : Int)) (m.kind : Int) (m.level : Int) (m.name : Int) m.finding)) ∧ Keep nil w w' := by
  have hbl : b < w.heap.size := World.block_lt_of_cell? w _ h1
  have m0 := hm 0 _ rfl
  have m1 := hm 1 _ rfl
  have m2 := hm 2 _ rfl
  have m3 := hm 3 _ rfl
  have hgl : g < w.heap.size := World.block_lt_of_cell? w _ m0
  rw [Nat.add_zero] at m0
  clear hm
  go_enter Tryz.func194, Tryz.ntmps194
  go_wp2_with fail
  go_region
  all_goals
    go_wp2
    refine bodyPost_ret (v := .agg (fc true ((n : Int) + (k : Int)) (m.kind : Int) (m.level : Int) (m.name : Int) m.finding)) ?_ rfl ⟨rfl, ?_⟩
    · simp [results, Tryz.results194, go_sem]
    · exact ((Keep.refl _ _).alloc _).drew
end Go.Proofs.YtlfijfodklhplaaGreat
