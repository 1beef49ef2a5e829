import Derived.Test.YtlfijfodklhplaaGreatAk02
import Derived.Test.YtlfijfodklhplaaGreatAk38
import Derived.Test.YtlfijfodklhplaaGreatAk35
import Derived.Test.YtlfijfodklhplaaGreatAk14
import Derived.Laws.BytesString
/- Bytes as a string. -/
namespace Go.Proofs.YtlfijfodklhplaaGreat
open Go.RowKit
set_option linter.unusedSimpArgs false
set_option linter.unusedVariables false

def bstr (l : List Nat) : ByteArray := (l.map (fun x : Nat => (x : Int))).foldl (fun r n => r.push (UInt8.ofNat n.toNat)) ByteArray.empty
theorem bstr_fold (l : List Nat) (r : ByteArray) : ((l.map (fun x : Nat => (x : Int))).foldl (fun r n => r.push (UInt8.ofNat n.toNat)) r).data.toList = r.data.toList ++ l.map UInt8.ofNat := by
  induction l generalizing r with
  | nil => simp
  | cons x t ih => simp only [List.map_cons, List.foldl_cons]; rw [ih]; simp [ByteArray.push]
theorem bstr_toList (l : List Nat) : (bstr l).toList = l.map UInt8.ofNat := by
  rw [ByteArray.toList_eq, bstr, bstr_fold]; rfl
theorem ofNat_inj {l m : List Nat} (hl : ∀ x ∈ l, x < 256) (hm : ∀ x ∈ m, x < 256) (h : l.map UInt8.ofNat = m.map UInt8.ofNat) : l = m := by
  have e : ∀ l : List Nat, (∀ x ∈ l, x < 256) → (l.map UInt8.ofNat).map UInt8.toNat = l := fun l hl => by
    rw [List.map_map]
    conv => rhs; rw [← List.map_id l]
    refine List.map_congr_left fun x hx => ?_
    simp only [Function.comp, id, UInt8.toNat_ofNat']
    have := hl x hx
    omega
  rw [← e l hl, ← e m hm, h]
theorem bstr_eq (l m : List Nat) (hl : ∀ x ∈ l, x < 256) (hm : ∀ x ∈ m, x < 256) : ((bstr l).toList == (bstr m).toList) = decide (l = m) := by
  rw [bstr_toList, bstr_toList, Bool.eq_iff_iff, beq_iff_eq, decide_eq_true_eq]
  exact ⟨ofNat_inj hl hm, fun h => by rw [h]⟩

theorem conv_row (w : World) (b o c : Nat) (l : List Nat) (hrow : Row w b o l) : (convert 56 9 (.slice (some ⟨b, o, none⟩) l.length c)).run Tryz.prog w = .ok (.string (bstr l)) w := by
  rw [run_convert_bytes_string w 56 9 5 (some ⟨b, o, none⟩) l.length c Tryz.underlying56 Tryz.underlying5 Tryz.underlying9]
  refine run_bytesToString w ⟨b, o, none⟩ l.length c (l.map (fun x : Nat => (x : Int))) ?_
  have := run_loadCells_list (P := Tryz.prog) w ⟨b, o, none⟩ (l.map bv) (cells_row hrow)
  rw [List.length_map] at this
  rw [this, List.map_map]
  rfl
theorem conv_nil (w : World) : (convert 56 9 (.slice none 0 0)).run Tryz.prog w = .ok (.string (bstr [])) w := by
  rw [run_convert_bytes_string w 56 9 5 none 0 0 Tryz.underlying56 Tryz.underlying5 Tryz.underlying9]
  rfl
end Go.Proofs.YtlfijfodklhplaaGreat
/- Packets that were told of two nets: read, and written over. -/
namespace Go.Proofs.YtlfijfodklhplaaGreat
open Go.RowKit
set_option linter.unusedVariables false
set_option linter.unusedSimpArgs false

theorem tkcells_get (l : List Pk) : ∀ (k : Nat) (x : Pk), l[k]? = some x → (tkcells l)[k * 3]? = some (.int .i64 (x.from_ : Int)) ∧ (tkcells l)[k * 3 + 1]? = some (.int .i64 (x.to_ : Int)) ∧ (tkcells l)[k * 3 + 2]? = some x.slice := by
  induction l with
  | nil => intro k e h; simp at h
  | cons x t ih =>
    intro k e h
    have hc : tkcells (x :: t) = tkcell x ++ tkcells t := by simp [tkcells]
    rw [hc]
    cases k with
    | zero =>
      simp at h
      subst h
      exact ⟨rfl, rfl, rfl⟩
    | succ k =>
      rw [List.getElem?_cons_succ] at h
      have := ih k e h
      have hl : (tkcell x).length = 3 := rfl
      rw [List.getElem?_append_right (by omega), List.getElem?_append_right (by omega), List.getElem?_append_right (by omega), hl]
      rw [show (k + 1) * 3 - 3 = k * 3 by omega, show (k + 1) * 3 + 1 - 3 = k * 3 + 1 by omega, show (k + 1) * 3 + 2 - 3 = k * 3 + 2 by omega]
      exact this
theorem tk_at {w : World} {a : Option Addr} {n c : Nat} {l : List Pk} (h : RV w 58 3 a n c (tkcells l)) {k : Nat} {x : Pk} (hx : l[k]? = some x) (hk : k < n) :
    ∃ g q, a = some ⟨g, q, none⟩ ∧ g < w.heap.size ∧ w.cell? ⟨g, q + k * 3, none⟩ = some (.int .i64 (x.from_ : Int)) ∧ w.cell? ⟨g, q + k * 3 + 1, none⟩ = some (.int .i64 (x.to_ : Int)) ∧ w.cell? ⟨g, q + k * 3 + 2, none⟩ = some x.slice := by
  obtain ⟨g, q, h1, h2⟩ := rv_pos h (by omega)
  obtain ⟨c0, c1, c2⟩ := tkcells_get l k x hx
  refine ⟨g, q, h1, h2.lt, h2.cell _ _ c0, ?_, ?_⟩
  · rw [Nat.add_assoc]; exact h2.cell _ _ c1
  · rw [Nat.add_assoc]; exact h2.cell _ _ c2
theorem tri_pair {T U : List Pk} (h : T.map Pk.tri = U.map Pk.tri) {k : Nat} {x : Pk} (hx : T[k]? = some x) : ∃ y, U[k]? = some y ∧ y.from_ = x.from_ ∧ y.to_ = x.to_ ∧ y.l = x.l := by
  have h1 : (U.map Pk.tri)[k]? = some x.tri := by rw [← h, List.getElem?_map, hx]; rfl
  rw [List.getElem?_map] at h1
  obtain ⟨y, h2, h3⟩ := Option.map_eq_some_iff.1 h1
  unfold Pk.tri at h3
  simp only [Prod.mk.injEq] at h3
  exact ⟨y, h2, h3.1, h3.2.1, h3.2.2⟩
theorem tri_len {T U : List Pk} (h : T.map Pk.tri = U.map Pk.tri) : T.length = U.length := by
  have := congrArg List.length h
  simpa using this
theorem tri_abs {N M : Nt} (h : N.abs = M.abs) : N.L.map Pk.tri = M.L.map Pk.tri := by
  have h1 : N.L.map Pk.abs = M.L.map Pk.abs := congrArg AN.bag h
  have h2 := congrArg (List.map (fun x : AP => (x.f, x.t, x.l))) h1
  simp only [List.map_map] at h2
  exact h2
theorem tri_mem {T L : List Pk} (h : T.map Pk.tri = L.map Pk.tri) {x : Pk} (hx : x ∈ T) : ∃ y ∈ L, y.l = x.l := by
  have h1 : x.tri ∈ L.map Pk.tri := by rw [← h]; exact List.mem_map_of_mem hx
  obtain ⟨y, hy, e⟩ := List.mem_map.1 h1
  unfold Pk.tri at e
  simp only [Prod.mk.injEq] at e
  exact ⟨y, hy, e.2.2⟩
/-- A packet of a sound net is short, and its bytes are bytes. -/
theorem told_ok {N : Nt} {B : Nat} (h : AOk N.abs B) {T : List Pk} (hT : T.map Pk.tri = N.L.map Pk.tri) {x : Pk} (hx : x ∈ T) : (∀ v ∈ x.l, v < 256) ∧ (x.l.length : Int) < 1000 := by
  obtain ⟨y, hy, e⟩ := tri_mem hT hx
  obtain ⟨p1, p2, p3, _⟩ := h.pk y.abs (List.mem_map_of_mem hy)
  have e2 : y.abs.l = x.l := e
  rw [e2] at p1 p3
  exact ⟨p1, by omega⟩
theorem prow_row {w : World} {g c : Nat} {l : List Nat} (h : PRow w g l c) : Row w g 0 l := by
  obtain ⟨h1, h2, h3⟩ := h
  rcases h3 with ⟨e, _⟩ | ⟨g', o', e, hb⟩
  · cases e
  · cases e
    intro i hi
    exact hb.cell i _ (by simp [hi, bv])
/-- A byte is written over. -/
theorem PRow.wipe {w : World} {g c : Nat} {l : List Nat} (h : PRow w g l c) {j : Nat} (hj : j < l.length) : PRow (w.setCell ⟨g, j, none⟩ (.int .u8 0)) g (l.set j 0) c := by
  have h1 := RV.setAt h j (by simpa using hj) (.int .u8 0)
  rw [Nat.zero_add] at h1
  unfold PRow
  have e1 : (l.set j 0).length = l.length := by simp
  have e2 : (l.set j 0).map bv = (l.map bv).set j (.int .u8 0) := by rw [List.map_set]; rfl
  rw [e1, e2]
  exact h1
theorem PRow.cellAt {w : World} {g c : Nat} {l : List Nat} (h : PRow w g l c) {j : Nat} (hj : j < l.length) : (∃ v, w.cell? ⟨g, j, none⟩ = some v) ∧ w.frozen? ⟨g, j, none⟩ = false ∧ g < w.heap.size := by
  obtain ⟨h1, h2, h3⟩ := h
  rcases h3 with ⟨e, _⟩ | ⟨g', o', e, hb⟩
  · cases e
  · cases e
    obtain ⟨pre, sp, hbl, hp, hc⟩ := id hb
    have := hb.cell j _ (by simp [hj]; rfl)
    rw [Nat.zero_add] at this
    exact ⟨⟨_, this⟩, hbl.frozen j, hbl.lt⟩
/-- What was told of both is read, while the first of one's packets are written over. -/
theorem told_at {w2 w3 w4 wr : World} {L L' T U : List Pk} {ta ua : Option Addr} {tc uc : Nat} (h3 : Tel w2 w3 L T ta tc) (h4 : Tel w3 w4 L' U ua uc) {k : Nat} (kw : Keep (fun g => ∃ x ∈ T.take k, x.g = g) w4 wr) {x y : Pk} (hx : T[k]? = some x) (hy : U[k]? = some y) :
    RV wr 58 3 ta T.length tc (tkcells T) ∧ RV wr 58 3 ua U.length uc (tkcells U) ∧ PRow wr x.g x.l x.c ∧ PRow wr y.g y.l y.c := by
  have tg : ∀ z ∈ T, z.g < w3.heap.size := fun z hz => (h3.each z hz).1.lt z.g (inB_self _ _)
  have mt : ∀ z ∈ T.take k, z ∈ T := fun z hz => List.mem_of_mem_take hz
  refine ⟨(h3.row.keep h4.keep (fun _ _ e => e)).keep kw (fun g hg e => ?_), h4.row.keep kw (fun g hg e => ?_), ((h3.each x (List.mem_of_getElem? hx)).1.keep h4.keep (fun _ _ e => e)).keep kw (fun g hg e => ?_), (h4.each y (List.mem_of_getElem? hy)).1.keep kw (fun g hg e => ?_)⟩
  · obtain ⟨z, hz, rfl⟩ := e
    exact (h3.each z (mt z hz)).2.2 hg
  · obtain ⟨z, hz, rfl⟩ := e
    have := h4.new _ hg
    have := tg z (mt z hz)
    omega
  · obtain ⟨z, hz, e⟩ := e
    rw [inB_some.1 hg] at e
    obtain ⟨i, hi, rfl⟩ := List.getElem_of_mem hz
    have hik : i < k := by rw [List.length_take] at hi; omega
    have hiT : i < T.length := by rw [List.length_take] at hi; omega
    rw [List.getElem_take] at e
    obtain ⟨h1, h2⟩ := List.getElem?_eq_some_iff.1 hx
    have hp := h3.apart
    rw [List.pairwise_iff_getElem] at hp
    have := hp i k hiT h1 hik
    rw [h2] at this
    exact this e
  · obtain ⟨z, hz, rfl⟩ := e
    have h1 := (h4.each y (List.mem_of_getElem? hy)).2.1
    have h2 : z.g = y.g := inB_some.1 hg
    have := tg z (mt z hz)
    omega
end Go.Proofs.YtlfijfodklhplaaGreat
/- A tree that grows: reach and joinAll. -/
namespace Go.Proofs.YtlfijfodklhplaaGreat
open Go.RowKit
set_option linter.unusedVariables false
set_option linter.unusedSimpArgs false

/-- The cells of a growth. -/
def gcs (esv : Value) (R : Nat → Bool) (cnt : Nat) (sl : Value) : Array Value :=
  #[esv, .bool (R 0), .bool (R 1), .bool (R 2), .bool (R 3), .bool (R 4), .bool (R 5), .bool (R 6), .bool (R 7), .bool (R 8), .bool (R 9), .int .i64 (cnt : Int), sl]
def mark (R : Nat → Bool) (k : Nat) (i : Nat) : Bool := if i = k then true else R i
theorem gcs_get (esv : Value) (R : Nat → Bool) (cnt : Nat) (sl : Value) (k : Nat) (hk : k < 10) : (gcs esv R cnt sl)[1 + k]? = some (.bool (R k)) := by
  match k, hk with
  | 0, _ => rfl
  | 1, _ => rfl
  | 2, _ => rfl
  | 3, _ => rfl
  | 4, _ => rfl
  | 5, _ => rfl
  | 6, _ => rfl
  | 7, _ => rfl
  | 8, _ => rfl
  | 9, _ => rfl
theorem gcs_mark (esv : Value) (R : Nat → Bool) (cnt : Nat) (sl : Value) (k : Nat) (hk : k < 10) : (gcs esv R cnt sl).setIfInBounds (1 + k) (.bool true) = gcs esv (mark R k) cnt sl := by
  match k, hk with
  | 0, _ => rfl
  | 1, _ => rfl
  | 2, _ => rfl
  | 3, _ => rfl
  | 4, _ => rfl
  | 5, _ => rfl
  | 6, _ => rfl
  | 7, _ => rfl
  | 8, _ => rfl
  | 9, _ => rfl
/-- What a growth is: all that it has made is new since W0. -/
structure Gw (ex : Nat → Prop) (W0 w : World) (gb : Nat) (esv : Value) (R : Nat → Bool) (cnt : Nat) (a : Option Addr) (n c : Nat) (L : List Th) : Prop where
  keep : Keep ex W0 w
  g0 : ex gb ∨ W0.heap.size ≤ gb
  heap : HeapAt w gb 12 (gcs esv R cnt (.slice a n c)) 174 a n c L
  pile : ∀ b, a = some ⟨b, 0, none⟩ → ex b ∨ W0.heap.size ≤ b
theorem Gw.same {ex : Nat → Prop} {W0 w w1 : World} {gb : Nat} {esv : Value} {R : Nat → Bool} {cnt : Nat} {a : Option Addr} {n c : Nat} {L : List Th} (h : Gw ex W0 w gb esv R cnt a n c L) (k : Keep nil w w1) : Gw ex W0 w1 gb esv R cnt a n c L :=
  ⟨h.keep.trans' k (fun _ _ e => e.elim), h.g0, ⟨h.heap.blk.keep k (fun e => e), h.heap.at_, h.heap.len, h.heap.cap, h.heap.row.imp id (fun ⟨pb, h1, h2, h3⟩ => ⟨pb, h1, h2, h3.keep k (fun e => e)⟩)⟩, h.pile⟩
theorem Gw.to {ex : Nat → Prop} {W0 w w' : World} {gb : Nat} {esv : Value} {R : Nat → Bool} {cnt : Nat} {a : Option Addr} {n c : Nat} {L : List Th} {P : List Th → Prop} (h : Gw ex W0 w gb esv R cnt a n c L) (ht : HeapTo w w' gb 12 (gcs esv R cnt (.slice a n c)) 174 a P) :
    ∃ a' n' c' L', Gw ex W0 w' gb esv R cnt a' n' c' L' ∧ P L' := by
  obtain ⟨a', n', c', L', g1, g2, g3, g4⟩ := ht
  have hs := h.keep.size
  refine ⟨a', n', c', L', ⟨h.keep.trans' g4 (fun i hi e => ?_), h.g0, g1, fun b hb => ?_⟩, g2⟩
  · rcases e with e | e
    · rcases h.g0 with e2 | e2
      · rw [e]; exact e2
      · omega
    · rcases h.pile i e with e2 | e2
      · exact e2
      · omega
  · rcases g3 b hb with e | e
    · exact h.pile b e
    · exact Or.inr (by omega)
/-- The same growth, told from here on. -/
theorem Gw.here {ex : Nat → Prop} {W0 w : World} {gb : Nat} {esv : Value} {R : Nat → Bool} {cnt : Nat} {a : Option Addr} {n c : Nat} {L : List Th} (h : Gw ex W0 w gb esv R cnt a n c L) : Gw (fun b => b = gb ∨ a = some ⟨b, 0, none⟩) w w gb esv R cnt a n c L :=
  ⟨Keep.refl _ _, Or.inl (Or.inl rfl), h.heap, fun b e => Or.inl (Or.inr e)⟩
theorem Gw.back {ex : Nat → Prop} {W0 w w' : World} {gb : Nat} {esv : Value} {R : Nat → Bool} {cnt : Nat} {a : Option Addr} {n c : Nat} {L : List Th} {esv' : Value} {R' : Nat → Bool} {cnt' : Nat} {a' : Option Addr} {n' c' : Nat} {L' : List Th}
    (h : Gw ex W0 w gb esv R cnt a n c L) (h' : Gw (fun b => b = gb ∨ a = some ⟨b, 0, none⟩) w w' gb esv' R' cnt' a' n' c' L') : Gw ex W0 w' gb esv' R' cnt' a' n' c' L' := by
  have hs := h.keep.size
  refine ⟨h.keep.trans' h'.keep (fun i hi e => ?_), h.g0, h'.heap, fun b hb => ?_⟩
  · rcases e with e | e
    · rcases h.g0 with e2 | e2
      · rw [e]; exact e2
      · omega
    · rcases h.pile i e with e2 | e2
      · exact e2
      · omega
  · rcases h'.pile b hb with (e | e) | e
    · rw [e]; exact h.g0
    · exact h.pile b e
    · exact Or.inr (by omega)

/-- The edges at a node, as things. -/
def touch (es : List Ed) (k : Int) (x : Th) : Prop := ∃ e ∈ es, (e.a = k ∨ e.b = k) ∧ x = ⟨e, e.wt⟩

set_option maxRecDepth 100000 in
set_option maxHeartbeats 2000000 in
theorem reach_old (ex : Nat → Prop) (W0 w : World) (gb : Nat) (esv : Value) (R : Nat → Bool) (cnt : Nat) (a : Option Addr) (n c : Nat) (L : List Th) (k : Nat) (h : Gw ex W0 w gb esv R cnt a n c L) (hk : k < 10) (hR : R k = true) :
    Calls Tryz.prog 102 #[.pointer (some ⟨gb, 0, none⟩), .int .i64 (k : Int)] w fun r w' => r = .returned (.tuple #[]) ∧ w = w' := by
  have hc := h.heap.blk.cell (1 + k)
  rw [gcs_get _ _ _ _ _ hk, hR] at hc
  have hkI : (k : Int) < 10 := by omega
  clear h hR
  go_enter Tryz.func102, Tryz.ntmps102
  go_wp2
  refine bodyPost_ret (results_none rfl _ _ _) rfl ?_
  exact ⟨rfl, rfl⟩

theorem touch_succ {es : List Ed} {i : Nat} {e : Ed} (he : es[i]? = some e) (k : Int) (x : Th) : touch (es.take (i + 1)) k x ↔ touch (es.take i) k x ∨ ((e.a = k ∨ e.b = k) ∧ x = ⟨e, e.wt⟩) := by
  have hl := (List.getElem?_eq_some_iff.1 he).1
  have hx := (List.getElem?_eq_some_iff.1 he).2
  have e1 : es.take (i + 1) = es.take i ++ [e] := by rw [List.take_add_one, he]; rfl
  unfold touch
  rw [e1]
  constructor
  · rintro ⟨u, hu, h1, h2⟩
    rcases List.mem_append.1 hu with h | h
    · exact Or.inl ⟨u, h, h1, h2⟩
    · simp at h; subst h; exact Or.inr ⟨h1, h2⟩
  · rintro (⟨u, hu, h1, h2⟩ | ⟨h1, h2⟩)
    · exact ⟨u, List.mem_append_left _ hu, h1, h2⟩
    · exact ⟨e, by simp, h1, h2⟩
theorem Gw.mark {ex : Nat → Prop} {W0 w : World} {gb : Nat} {esv : Value} {R : Nat → Bool} {cnt : Nat} {a : Option Addr} {n c : Nat} {L : List Th} (h : Gw ex W0 w gb esv R cnt a n c L) (k : Nat) (hk : k < 10) :
    Gw ex W0 ((w.setCell ⟨gb, 1 + k, none⟩ (.bool true)).setCell ⟨gb, 11, none⟩ (.int .i64 ((cnt : Int) + 1))) gb esv (Go.Proofs.YtlfijfodklhplaaGreat.mark R k) (cnt + 1) a n c L := by
  have ks : Keep (only gb) w ((w.setCell ⟨gb, 1 + k, none⟩ (.bool true)).setCell ⟨gb, 11, none⟩ (.int .i64 ((cnt : Int) + 1))) := ((Keep.refl (only gb) w).setCell (p := ⟨gb, 1 + k, none⟩) (fun _ => rfl) _).setCell (p := ⟨gb, 11, none⟩) (fun _ => rfl) _
  have hb := (h.heap.blk.set (1 + k) (.bool true)).set 11 (.int .i64 ((cnt : Int) + 1))
  rw [gcs_mark _ _ _ _ _ hk] at hb
  refine ⟨h.keep.trans' ks (fun i hi e => by
    simp only [only] at e
    rcases h.g0 with e2 | e2
    · rw [e]; exact e2
    · omega), h.g0, ⟨?_, rfl, h.heap.len, h.heap.cap, h.heap.row.imp id (fun ⟨pb, h1, h2, h3⟩ => ⟨pb, h1, h2, h3.keep ks (fun e => h2 e.symm)⟩)⟩, h.pile⟩
  have e : ((gcs esv (Go.Proofs.YtlfijfodklhplaaGreat.mark R k) cnt (.slice a n c)).setIfInBounds 11 (.int .i64 ((cnt : Int) + 1))) = gcs esv (Go.Proofs.YtlfijfodklhplaaGreat.mark R k) (cnt + 1) (.slice a n c) := by
    unfold gcs
    simp
  rw [e] at hb
  exact hb

end Go.Proofs.YtlfijfodklhplaaGreat
