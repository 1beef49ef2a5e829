import Derived.Test.YtlfijfodklhplaaGreatLk01
import Derived.Test.YtlfijfodklhplaaGreatLk05
import Derived.Laws.AppendOwn
import Derived.OwnWalk
import Derived.Laws.BytesString
/- append onto a row of one's own, of whatever element type: it stays in its block, or moves into a new one. -/
namespace Go.Proofs.YtlfijfodklhplaaGreat
open Go.RowKit
set_option linter.unusedVariables false

/-- Block g holds the cells vs at its head, and room for c elements of 'size' cells each. -/
def VBuf (w : World) (g : Nat) (e : TypeId) (size : Nat) (vs : List Value) (c : Nat) : Prop := ∃ sp : List Value, Blk w g (vs ++ sp).toArray e ∧ vs.length + sp.length = c * size
theorem VBuf.keep {ex : Nat → Prop} {w w' : World} {g : Nat} {e : TypeId} {size : Nat} {vs : List Value} {c : Nat} (h : VBuf w g e size vs c) (k : Keep ex w w') (hn : ¬ ex g) : VBuf w' g e size vs c :=
  let ⟨sp, hb, hc⟩ := h; ⟨sp, hb.keep k hn, hc⟩
theorem VBuf.lt {w : World} {g : Nat} {e : TypeId} {size : Nat} {vs : List Value} {c : Nat} (h : VBuf w g e size vs c) : g < w.heap.size := let ⟨_, hb, _⟩ := h; hb.lt
theorem VBuf.drew {w : World} {g : Nat} {e : TypeId} {size : Nat} {vs : List Value} {c : Nat} (h : VBuf w g e size vs c) : VBuf w.drew g e size vs c := h
theorem VBuf.alloc {w : World} {g : Nat} {e : TypeId} {size : Nat} {vs : List Value} {c : Nat} (h : VBuf w g e size vs c) (o : Obj) : VBuf (w.alloc o) g e size vs c := h.keep ((Keep.refl nil w).alloc o) (fun e => e)
theorem VBuf.cell {w : World} {g : Nat} {e : TypeId} {size : Nat} {vs : List Value} {c : Nat} (h : VBuf w g e size vs c) (i : Nat) (u : Value) (hu : vs[i]? = some u) : w.cell? ⟨g, i, none⟩ = some u := by
  obtain ⟨sp, hb, _⟩ := h
  have hi := (List.getElem?_eq_some_iff.1 hu).1
  rw [hb.cell, List.getElem?_toArray, List.getElem?_append_left hi, hu]
theorem VBuf.frozen {w : World} {g : Nat} {e : TypeId} {size : Nat} {vs : List Value} {c : Nat} (h : VBuf w g e size vs c) (i : Nat) : w.frozen? ⟨g, i, none⟩ = false := let ⟨_, hb, _⟩ := h; hb.frozen i
/-- The room may be taken for cells, whatever lies there. -/
theorem VBuf.less {w : World} {g : Nat} {e : TypeId} {size : Nat} {vs : List Value} {c : Nat} (h : VBuf w g e size vs c) (n : Nat) : VBuf w g e size (vs.take n) c := by
  obtain ⟨sp, hb, hc⟩ := h
  refine ⟨vs.drop n ++ sp, ?_, ?_⟩
  · rw [← List.append_assoc, List.take_append_drop]; exact hb
  · simp; omega

/-- Behind an append the elder list reads as it did. -/
theorem VBuf.after {w w' : World} {g g' : Nat} {e : TypeId} {size : Nat} {vs news : List Value} {c k' : Nat} {m : Prop} (h : VBuf w g e size vs c) (h' : VBuf w' g' e size (vs ++ news) k') (hd : (g' = g ∧ k' = c) ∨ (g' = w.heap.size ∧ m ∧ Keep nil w w')) : VBuf w' g e size vs c := by
  rcases hd with ⟨rfl, rfl⟩ | ⟨_, _, hk⟩
  · have := h'.less vs.length
    rwa [List.take_left] at this
  · exact h.keep hk (fun e => e)
/-- A block of so many cells at least, which may be written. -/
def Room (w : World) (g : Nat) (e : TypeId) (m : Nat) : Prop := ∃ cs : Array Value, Blk w g cs e ∧ m ≤ cs.size
theorem VBuf.room {w : World} {g : Nat} {e : TypeId} {size : Nat} {vs : List Value} {c : Nat} (h : VBuf w g e size vs c) : Room w g e (c * size) := by
  obtain ⟨sp, hb, hc⟩ := h
  exact ⟨_, hb, by simp; omega⟩
theorem Room.keep {ex : Nat → Prop} {w w' : World} {g : Nat} {e : TypeId} {m : Nat} (h : Room w g e m) (k : Keep ex w w') (hn : ¬ ex g) : Room w' g e m := let ⟨cs, hb, hm⟩ := h; ⟨cs, hb.keep k hn, hm⟩
theorem Room.less {w : World} {g : Nat} {e : TypeId} {m n : Nat} (h : Room w g e m) (hn : n ≤ m) : Room w g e n := let ⟨cs, hb, hm⟩ := h; ⟨cs, hb, Nat.le_trans hn hm⟩
theorem Room.set {w : World} {g : Nat} {e : TypeId} {m : Nat} (h : Room w g e m) (p : Addr) (v : Value) (hp : p.spot = none) : Room (w.setCell p v) g e m := by
  obtain ⟨cs, hb, hm⟩ := h
  by_cases hg : p.block = g
  · obtain ⟨b, o, sp⟩ := p
    simp only at hg hp
    subst hg hp
    exact ⟨_, hb.set o v, by simpa using hm⟩
  · exact ⟨cs, hb.keep ((Keep.refl (only p.block) w).setCell (fun _ => rfl) v) (fun e => hg e.symm), hm⟩
theorem Room.lt {w : World} {g : Nat} {e : TypeId} {m : Nat} (h : Room w g e m) : g < w.heap.size := let ⟨_, hb, _⟩ := h; hb.lt
theorem Room.some {w : World} {g : Nat} {e : TypeId} {m : Nat} (h : Room w g e m) (i : Nat) (hi : i < m) : ∃ v, w.cell? ⟨g, i, none⟩ = some v := by
  obtain ⟨cs, hb, hm⟩ := h
  exact ⟨cs[i], by rw [hb.cell, Array.getElem?_eq_getElem (by omega)]⟩
theorem Room.frozen {w : World} {g : Nat} {e : TypeId} {m : Nat} (h : Room w g e m) (i : Nat) : w.frozen? ⟨g, i, none⟩ = false := let ⟨_, hb, _⟩ := h; hb.frozen i

theorem zero_len (z : Array Value) (n : Nat) : (Builtin.zeroCells z n).toList.length = n * z.size := by simp [size_zeroCells]

/-- append of cells that lie somewhere, onto a row of one's own. -/
theorem run_append_any {P : Program} (w : World) (t ty e : TypeId) (z : Value) (size bytes : Nat) (ht : P.underlying t = some (.slice e)) (hinfo : (P.info? e).map (fun i => (i.zero, i.size, i.bytes)) = some (some z, size, bytes)) (hzs : z.cells.size = size)
    (g n c : Nat) (vs : List Value) (hn : vs.length = n * size) (hb : VBuf w g e size vs c) (ad : Addr) (m c' : Nat) (news : List Value) (hm : news.length = m * size)
    (hc : ∀ j u, news[j]? = some u → w.cell? (ad.add j) = some u) (h1 : ∀ u ∈ news, u.oneCell' = true) (hbytes : (n + m) * bytes ≤ 140737488355328) (h63 : n + m ≤ 9223372036854775807) :
    ∃ g' k' w', (Builtin.append_ #[t, t] ty #[.slice (some ⟨g, 0, none⟩) n c, .slice (some ad) m c']).run P w = .ok (.slice (some ⟨g', 0, none⟩) (n + m) k') w' ∧ VBuf w' g' e size (vs ++ news) k' ∧ n + m ≤ k' ∧ ((g' = g ∧ k' = c) ∨ (g' = w.heap.size ∧ c < n + m ∧ Keep nil w w')) ∧ Keep (only g) w w' := by
  obtain ⟨i, hi, hz, hs, hby⟩ := info_parts hinfo
  obtain ⟨sp, hb, hl⟩ := hb
  by_cases hroom : n + m ≤ c
  · have hsp : m * size ≤ sp.length := by
      have : (n + m) * size ≤ c * size := Nat.mul_le_mul_right _ hroom
      rw [Nat.add_mul] at this; omega
    have hr := run_append_room (P := P) w t ty e i ht hi g n c (vs ++ sp).toArray hb ad m c' news (by rw [hm, hs]) hc h1 hroom (by simp [hs, hm, hn]; omega)
    refine ⟨g, c, _, hr, ⟨sp.drop (m * size), ?_, by simp [hm, hn]; omega⟩, hroom, Or.inl ⟨rfl, rfl⟩, ?_⟩
    · unfold Blk at hb ⊢
      rw [setRow_heap w g _ _ _ _ hb]
      have e1 : (vs ++ sp).take (n * i.size) = vs := by rw [hs, ← hn]; exact List.take_left
      have e2 : (vs ++ sp).drop (n * i.size + news.length) = sp.drop (m * size) := by rw [hs, ← hn, hm, List.drop_append, List.drop_of_length_le (by omega)]; simp
      rw [e1, e2]
    · exact ⟨rfl, rfl, rfl, by simp [World.setRow], fun k hk hn => setRow_other w g k _ hn⟩
  · have hg : c < n + m := by omega
    have hr := run_append_grow (P := P) w t ty e i z ht hi hz ⟨g, 0, none⟩ n c vs (by rw [hn, hs]) (fun j v hv => by
      rw [Addr.add_lit, Nat.zero_add]
      have hj := (List.getElem?_eq_some_iff.1 hv).1
      rw [Blk.cell hb, List.getElem?_toArray, List.getElem?_append_left hj, hv]) ad m c' news (by rw [hm, hs]) hc hg (by omega) (by rw [hby]; exact growslice_fits hg hbytes)
    have hge := grownCap_ge w (n + m) c e
    refine ⟨w.heap.size, _, _, hr, ⟨(Builtin.zeroCells z.cells (grownCap w (n + m) c e - (n + m))).toList, ?_, ?_⟩, hge, Or.inr ⟨rfl, hg, ((Keep.refl nil w).drew).alloc _⟩, ((Keep.refl (only g) w).drew).alloc _⟩
    · have := Blk.new w.drew (vs.toArray ++ news.toArray ++ Builtin.zeroCells z.cells (grownCap w (n + m) c e - (n + m))) e
      have e3 : vs.toArray ++ news.toArray ++ Builtin.zeroCells z.cells (grownCap w (n + m) c e - (n + m)) = (vs ++ news ++ (Builtin.zeroCells z.cells (grownCap w (n + m) c e - (n + m))).toList).toArray := by
        apply Array.ext'; simp
      rw [e3] at this ⊢
      exact this
    · rw [zero_len, hzs, List.length_append, hn, hm, ← Nat.add_mul, ← Nat.add_mul]
      congr 1
      omega

/-- append onto nil: a new row. -/
theorem run_append_new {P : Program} (w : World) (t ty e : TypeId) (z : Value) (size bytes : Nat) (ht : P.underlying t = some (.slice e)) (hinfo : (P.info? e).map (fun i => (i.zero, i.size, i.bytes)) = some (some z, size, bytes)) (hzs : z.cells.size = size)
    (ad : Addr) (m c' : Nat) (h0 : 0 < m) (news : List Value) (hm : news.length = m * size)
    (hc : ∀ j u, news[j]? = some u → w.cell? (ad.add j) = some u) (hbytes : m * bytes ≤ 140737488355328) (h63 : m ≤ 9223372036854775807) :
    ∃ k' w', (Builtin.append_ #[t, t] ty #[.slice none 0 0, .slice (some ad) m c']).run P w = .ok (.slice (some ⟨w.heap.size, 0, none⟩) m k') w' ∧ VBuf w' w.heap.size e size news k' ∧ m ≤ k' ∧ Keep nil w w' := by
  obtain ⟨i, hi, hz, hs, hby⟩ := info_parts hinfo
  have hr := run_append_nil (P := P) w t ty e i z ht hi hz ad m c' news (by rw [hm, hs]) hc h0 (by omega) (by rw [hby]; omega)
  have hge := grownCap_ge w m 0 e
  refine ⟨_, _, hr, ⟨(Builtin.zeroCells z.cells (grownCap w m 0 e - m)).toList, ?_, ?_⟩, hge, ((Keep.refl nil w).drew).alloc _⟩
  · have := Blk.new w.drew (news.toArray ++ Builtin.zeroCells z.cells (grownCap w m 0 e - m)) e
    have e3 : news.toArray ++ Builtin.zeroCells z.cells (grownCap w m 0 e - m) = (news ++ (Builtin.zeroCells z.cells (grownCap w m 0 e - m)).toList).toArray := by
      apply Array.ext'; simp
    rw [e3] at this ⊢
    exact this
  · rw [zero_len, hzs, hm, ← Nat.add_mul]
    congr 1
    omega

theorem wpList_append_any {P : Program} (w : World) {ops : Array Oper} {rest : List Oper} {o : Oper} {a : Act} {Q : Exit → Act → World → Prop}
    (hg : o.guard = none) (s x : Operand) (t : TypeId) (hop : o.op = Op.call { callee := Callee.builtin Builtin.append, args := #[s, x], argTypes := #[t, t] })
    (e : TypeId) (z : Value) (size bytes : Nat) (ht : P.underlying t = some (.slice e)) (hinfo : (P.info? e).map (fun i => (i.zero, i.size, i.bytes)) = some (some z, size, bytes)) (hzs : z.cells.size = size)
    (g n c : Nat) (hs : a.eval s = .slice (some ⟨g, 0, none⟩) n c) (vs : List Value) (hn : vs.length = n * size) (hb : VBuf w g e size vs c) (ad : Addr) (m c' : Nat) (hx : a.eval x = .slice (some ad) m c') (news : List Value) (hm : news.length = m * size)
    (hc : ∀ j u, news[j]? = some u → w.cell? (ad.add j) = some u) (h1 : ∀ u ∈ news, u.oneCell' = true) (hbytes : (n + m) * bytes ≤ 140737488355328) (h63 : n + m ≤ 9223372036854775807)
    (hK : ∀ g' k' w', VBuf w' g' e size (vs ++ news) k' → n + m ≤ k' → ((g' = g ∧ k' = c) ∨ (g' = w.heap.size ∧ c < n + m ∧ Keep nil w w')) → Keep (only g) w w' → wpList P ops Q rest (a.put o.dst (.slice (some ⟨g', 0, none⟩) (n + m) k')) w') :
    wpList P ops Q (o :: rest) a w := by
  refine wpList_plain hg fun K hK' => ?_
  obtain ⟨g', k', w', hrun, r1, r2, r3, r4⟩ := run_append_any (P := P) w t o.type e z size bytes ht hinfo hzs g n c vs hn hb ad m c' news hm hc h1 hbytes h63
  unfold Oper.wp
  simp [execOp, hop, resolve, invoke, builtin, hs, hx, hrun, Result.andThen]
  exact hK' _ _ (hK g' k' w' r1 r2 r3 r4)

theorem wpList_append_new {P : Program} (w : World) {ops : Array Oper} {rest : List Oper} {o : Oper} {a : Act} {Q : Exit → Act → World → Prop}
    (hg : o.guard = none) (s x : Operand) (t : TypeId) (hop : o.op = Op.call { callee := Callee.builtin Builtin.append, args := #[s, x], argTypes := #[t, t] })
    (e : TypeId) (z : Value) (size bytes : Nat) (ht : P.underlying t = some (.slice e)) (hinfo : (P.info? e).map (fun i => (i.zero, i.size, i.bytes)) = some (some z, size, bytes)) (hzs : z.cells.size = size)
    (hs : a.eval s = .slice none 0 0) (ad : Addr) (m c' : Nat) (h0 : 0 < m) (hx : a.eval x = .slice (some ad) m c') (news : List Value) (hm : news.length = m * size)
    (hc : ∀ j u, news[j]? = some u → w.cell? (ad.add j) = some u) (hbytes : m * bytes ≤ 140737488355328) (h63 : m ≤ 9223372036854775807)
    (hK : ∀ k' w', VBuf w' w.heap.size e size news k' → m ≤ k' → Keep nil w w' → wpList P ops Q rest (a.put o.dst (.slice (some ⟨w.heap.size, 0, none⟩) m k')) w') :
    wpList P ops Q (o :: rest) a w := by
  refine wpList_plain hg fun K hK' => ?_
  obtain ⟨k', w', hrun, r1, r2, r3⟩ := run_append_new (P := P) w t o.type e z size bytes ht hinfo hzs ad m c' h0 news hm hc hbytes h63
  unfold Oper.wp
  simp [execOp, hop, resolve, invoke, builtin, hs, hx, hrun, Result.andThen]
  exact hK' _ _ (hK k' w' r1 r2 r3)
end Go.Proofs.YtlfijfodklhplaaGreat
/- Rows of bytes: facts that the walks of lent, returned and the book share. -/
namespace Go.Proofs.YtlfijfodklhplaaGreat
open Go.RowKit
set_option linter.unusedVariables false

/-- A row of bytes, and room. -/
abbrev BRow (w : World) (g : Nat) (l : List Nat) (c : Nat) : Prop := VBuf w g 5 1 (l.map bv) c
theorem brow_row {w : World} {g : Nat} {l : List Nat} {c : Nat} (h : BRow w g l c) : Row w g 0 l := by
  intro i hi
  rw [Nat.zero_add]
  exact h.cell i _ (by simp [hi, bv])
theorem cells_list (w : World) (vs : List Value) (t : TypeId) (n : Nat) (hn : n = w.heap.size) : ∀ j u, vs[j]? = some u → (w.alloc (.cells vs.toArray t)).cell? ((⟨n, 0, none⟩ : Addr).add j) = some u := by
  intro j u hu
  subst hn
  rw [Addr.add_lit, Nat.zero_add, World.cell?_alloc_new, List.getElem?_toArray]
  exact hu
theorem cells_row {w : World} {b o : Nat} {l : List Nat} (h : Row w b o l) : ∀ j u, (l.map bv)[j]? = some u → w.cell? ((⟨b, o, none⟩ : Addr).add j) = some u := by
  intro j u hu
  rw [List.getElem?_map] at hu
  obtain ⟨x, hx, rfl⟩ := Option.map_eq_some_iff.1 hu
  obtain ⟨hj, rfl⟩ := List.getElem?_eq_some_iff.1 hx
  rw [Addr.add_lit]
  exact h j hj
end Go.Proofs.YtlfijfodklhplaaGreat
/- Bytes as a string. -/
namespace Go.Proofs.YtlfijfodklhplaaGreat
open Go.RowKit
set_option linter.unusedVariables false

def bstr (l : List Nat) : ByteArray := (l.map (fun x : Nat => (x : Int))).foldl (fun r n => r.push (UInt8.ofNat n.toNat)) ByteArray.empty
theorem bstr_fold (l : List Nat) (r : ByteArray) : ((l.map (fun x : Nat => (x : Int))).foldl (fun r n => r.push (UInt8.ofNat n.toNat)) r).data.toList = r.data.toList ++ l.map UInt8.ofNat := by
  induction l generalizing r with
  | nil => simp
  | cons x t ih => simp only [List.map_cons, List.foldl_cons]; rw [ih]; simp [ByteArray.push]
theorem bstr_toList (l : List Nat) : (bstr l).toList = l.map UInt8.ofNat := by
  rw [ByteArray.toList_eq, bstr, bstr_fold]; rfl
theorem ofNat_inj {l m : List Nat} (hl : ∀ x ∈ l, x < 256) (hm : ∀ x ∈ m, x < 256) (h : l.map UInt8.ofNat = m.map UInt8.ofNat) : l = m := by
  have e : ∀ l : List Nat, (∀ x ∈ l, x < 256) → (l.map UInt8.ofNat).map UInt8.toNat = l := fun l hl => by
    rw [List.map_map]
    conv => rhs; rw [← List.map_id l]
    refine List.map_congr_left fun x hx => ?_
    simp only [Function.comp, id, UInt8.toNat_ofNat']
    have := hl x hx
    omega
  rw [← e l hl, ← e m hm, h]
theorem bstr_eq (l m : List Nat) (hl : ∀ x ∈ l, x < 256) (hm : ∀ x ∈ m, x < 256) : ((bstr l).toList == (bstr m).toList) = decide (l = m) := by
  rw [bstr_toList, bstr_toList, Bool.eq_iff_iff, beq_iff_eq, decide_eq_true_eq]
  exact ⟨ofNat_inj hl hm, fun h => by rw [h]⟩

theorem conv_row (w : World) (b o c : Nat) (l : List Nat) (hrow : Row w b o l) : (convert 56 9 (.slice (some ⟨b, o, none⟩) l.length c)).run Tryz.prog w = .ok (.string (bstr l)) w := by
  rw [run_convert_bytes_string w 56 9 5 (some ⟨b, o, none⟩) l.length c Tryz.underlying56 Tryz.underlying5 Tryz.underlying9]
  refine run_bytesToString w ⟨b, o, none⟩ l.length c (l.map (fun x : Nat => (x : Int))) ?_
  have := run_loadCells_list (P := Tryz.prog) w ⟨b, o, none⟩ (l.map bv) (cells_row hrow)
  rw [List.length_map] at this
  rw [this, List.map_map]
  rfl
theorem conv_nil (w : World) : (convert 56 9 (.slice none 0 0)).run Tryz.prog w = .ok (.string (bstr [])) w := by
  rw [run_convert_bytes_string w 56 9 5 none 0 0 Tryz.underlying56 Tryz.underlying5 Tryz.underlying9]
  rfl
end Go.Proofs.YtlfijfodklhplaaGreat
