import Derived.Test.YtlfijfodklhplaaGreatLk25
import Derived.Test.YtlfijfodklhplaaGreatLk22
/- A tree that grows: reach and joinAll. -/
namespace Go.Proofs.YtlfijfodklhplaaGreat
open Go.RowKit
set_option linter.unusedVariables false
set_option linter.unusedSimpArgs false

/-- The cells of a growth. -/
def gcs (esv : Value) (R : Nat → Bool) (cnt : Nat) (sl : Value) : Array Value :=
  #[esv, .bool (R 0), .bool (R 1), .bool (R 2), .bool (R 3), .bool (R 4), .bool (R 5), .bool (R 6), .bool (R 7), .bool (R 8), .bool (R 9), .int .i64 (cnt : Int), sl]
def mark (R : Nat → Bool) (k : Nat) (i : Nat) : Bool := if i = k then true else R i
theorem gcs_get (esv : Value) (R : Nat → Bool) (cnt : Nat) (sl : Value) (k : Nat) (hk : k < 10) : (gcs esv R cnt sl)[1 + k]? = some (.bool (R k)) := by
  match k, hk with
  | 0, _ => rfl
  | 1, _ => rfl
  | 2, _ => rfl
  | 3, _ => rfl
  | 4, _ => rfl
  | 5, _ => rfl
  | 6, _ => rfl
  | 7, _ => rfl
  | 8, _ => rfl
  | 9, _ => rfl
theorem gcs_mark (esv : Value) (R : Nat → Bool) (cnt : Nat) (sl : Value) (k : Nat) (hk : k < 10) : (gcs esv R cnt sl).setIfInBounds (1 + k) (.bool true) = gcs esv (mark R k) cnt sl := by
  match k, hk with
  | 0, _ => rfl
  | 1, _ => rfl
  | 2, _ => rfl
  | 3, _ => rfl
  | 4, _ => rfl
  | 5, _ => rfl
  | 6, _ => rfl
  | 7, _ => rfl
  | 8, _ => rfl
  | 9, _ => rfl
/-- What a growth is: all that it has made is new since W0. -/
structure Gw (ex : Nat → Prop) (W0 w : World) (gb : Nat) (esv : Value) (R : Nat → Bool) (cnt : Nat) (a : Option Addr) (n c : Nat) (L : List Th) : Prop where
  keep : Keep ex W0 w
  g0 : ex gb ∨ W0.heap.size ≤ gb
  heap : HeapAt w gb 12 (gcs esv R cnt (.slice a n c)) 174 a n c L
  pile : ∀ b, a = some ⟨b, 0, none⟩ → ex b ∨ W0.heap.size ≤ b
theorem Gw.same {ex : Nat → Prop} {W0 w w1 : World} {gb : Nat} {esv : Value} {R : Nat → Bool} {cnt : Nat} {a : Option Addr} {n c : Nat} {L : List Th} (h : Gw ex W0 w gb esv R cnt a n c L) (k : Keep nil w w1) : Gw ex W0 w1 gb esv R cnt a n c L :=
  ⟨h.keep.trans' k (fun _ _ e => e.elim), h.g0, ⟨h.heap.blk.keep k (fun e => e), h.heap.at_, h.heap.len, h.heap.cap, h.heap.row.imp id (fun ⟨pb, h1, h2, h3⟩ => ⟨pb, h1, h2, h3.keep k (fun e => e)⟩)⟩, h.pile⟩
theorem Gw.to {ex : Nat → Prop} {W0 w w' : World} {gb : Nat} {esv : Value} {R : Nat → Bool} {cnt : Nat} {a : Option Addr} {n c : Nat} {L : List Th} {P : List Th → Prop} (h : Gw ex W0 w gb esv R cnt a n c L) (ht : HeapTo w w' gb 12 (gcs esv R cnt (.slice a n c)) 174 a P) :
    ∃ a' n' c' L', Gw ex W0 w' gb esv R cnt a' n' c' L' ∧ P L' := by
  obtain ⟨a', n', c', L', g1, g2, g3, g4⟩ := ht
  have hs := h.keep.size
  refine ⟨a', n', c', L', ⟨h.keep.trans' g4 (fun i hi e => ?_), h.g0, g1, fun b hb => ?_⟩, g2⟩
  · rcases e with e | e
    · rcases h.g0 with e2 | e2
      · rw [e]; exact e2
      · omega
    · rcases h.pile i e with e2 | e2
      · exact e2
      · omega
  · rcases g3 b hb with e | e
    · exact h.pile b e
    · exact Or.inr (by omega)
/-- The same growth, told from here on. -/
theorem Gw.here {ex : Nat → Prop} {W0 w : World} {gb : Nat} {esv : Value} {R : Nat → Bool} {cnt : Nat} {a : Option Addr} {n c : Nat} {L : List Th} (h : Gw ex W0 w gb esv R cnt a n c L) : Gw (fun b => b = gb ∨ a = some ⟨b, 0, none⟩) w w gb esv R cnt a n c L :=
  ⟨Keep.refl _ _, Or.inl (Or.inl rfl), h.heap, fun b e => Or.inl (Or.inr e)⟩
theorem Gw.back {ex : Nat → Prop} {W0 w w' : World} {gb : Nat} {esv : Value} {R : Nat → Bool} {cnt : Nat} {a : Option Addr} {n c : Nat} {L : List Th} {esv' : Value} {R' : Nat → Bool} {cnt' : Nat} {a' : Option Addr} {n' c' : Nat} {L' : List Th}
    (h : Gw ex W0 w gb esv R cnt a n c L) (h' : Gw (fun b => b = gb ∨ a = some ⟨b, 0, none⟩) w w' gb esv' R' cnt' a' n' c' L') : Gw ex W0 w' gb esv' R' cnt' a' n' c' L' := by
  have hs := h.keep.size
  refine ⟨h.keep.trans' h'.keep (fun i hi e => ?_), h.g0, h'.heap, fun b hb => ?_⟩
  · rcases e with e | e
    · rcases h.g0 with e2 | e2
      · rw [e]; exact e2
      · omega
    · rcases h.pile i e with e2 | e2
      · exact e2
      · omega
  · rcases h'.pile b hb with (e | e) | e
    · rw [e]; exact h.g0
    · exact h.pile b e
    · exact Or.inr (by omega)

/-- The edges at a node, as things. -/
def touch (es : List Ed) (k : Int) (x : Th) : Prop := ∃ e ∈ es, (e.a = k ∨ e.b = k) ∧ x = ⟨e, e.wt⟩

set_option maxRecDepth 100000 in
set_option maxHeartbeats 2000000 in
theorem reach_old (ex : Nat → Prop) (W0 w : World) (gb : Nat) (esv : Value) (R : Nat → Bool) (cnt : Nat) (a : Option Addr) (n c : Nat) (L : List Th) (k : Nat) (h : Gw ex W0 w gb esv R cnt a n c L) (hk : k < 10) (hR : R k = true) :
    Calls Tryz.prog 102 #[.pointer (some ⟨gb, 0, none⟩), .int .i64 (k : Int)] w fun r w' => r = .returned (.tuple #[]) ∧ w = w' := by
  have hc := h.heap.blk.cell (1 + k)
  rw [gcs_get _ _ _ _ _ hk, hR] at hc
  have hkI : (k : Int) < 10 := by omega
  clear h hR
  go_enter Tryz.func102, Tryz.ntmps102
  go_wp2
  refine bodyPost_ret (results_none rfl _ _ _) rfl ?_
  exact ⟨rfl, rfl⟩

theorem touch_succ {es : List Ed} {i : Nat} {e : Ed} (he : es[i]? = some e) (k : Int) (x : Th) : touch (es.take (i + 1)) k x ↔ touch (es.take i) k x ∨ ((e.a = k ∨ e.b = k) ∧ x = ⟨e, e.wt⟩) := by
  have hl := (List.getElem?_eq_some_iff.1 he).1
  have hx := (List.getElem?_eq_some_iff.1 he).2
  have e1 : es.take (i + 1) = es.take i ++ [e] := by rw [List.take_add_one, he]; rfl
  unfold touch
  rw [e1]
  constructor
  · rintro ⟨u, hu, h1, h2⟩
    rcases List.mem_append.1 hu with h | h
    · exact Or.inl ⟨u, h, h1, h2⟩
    · simp at h; subst h; exact Or.inr ⟨h1, h2⟩
  · rintro (⟨u, hu, h1, h2⟩ | ⟨h1, h2⟩)
    · exact ⟨u, List.mem_append_left _ hu, h1, h2⟩
    · exact ⟨e, by simp, h1, h2⟩
theorem Gw.mark {ex : Nat → Prop} {W0 w : World} {gb : Nat} {esv : Value} {R : Nat → Bool} {cnt : Nat} {a : Option Addr} {n c : Nat} {L : List Th} (h : Gw ex W0 w gb esv R cnt a n c L) (k : Nat) (hk : k < 10) :
    Gw ex W0 ((w.setCell ⟨gb, 1 + k, none⟩ (.bool true)).setCell ⟨gb, 11, none⟩ (.int .i64 ((cnt : Int) + 1))) gb esv (Go.Proofs.YtlfijfodklhplaaGreat.mark R k) (cnt + 1) a n c L := by
  have ks : Keep (only gb) w ((w.setCell ⟨gb, 1 + k, none⟩ (.bool true)).setCell ⟨gb, 11, none⟩ (.int .i64 ((cnt : Int) + 1))) := ((Keep.refl (only gb) w).setCell (p := ⟨gb, 1 + k, none⟩) (fun _ => rfl) _).setCell (p := ⟨gb, 11, none⟩) (fun _ => rfl) _
  have hb := (h.heap.blk.set (1 + k) (.bool true)).set 11 (.int .i64 ((cnt : Int) + 1))
  rw [gcs_mark _ _ _ _ _ hk] at hb
  refine ⟨h.keep.trans' ks (fun i hi e => by
    simp only [only] at e
    rcases h.g0 with e2 | e2
    · rw [e]; exact e2
    · omega), h.g0, ⟨?_, rfl, h.heap.len, h.heap.cap, h.heap.row.imp id (fun ⟨pb, h1, h2, h3⟩ => ⟨pb, h1, h2, h3.keep ks (fun e => h2 e.symm)⟩)⟩, h.pile⟩
  have e : ((gcs esv (Go.Proofs.YtlfijfodklhplaaGreat.mark R k) cnt (.slice a n c)).setIfInBounds 11 (.int .i64 ((cnt : Int) + 1))) = gcs esv (Go.Proofs.YtlfijfodklhplaaGreat.mark R k) (cnt + 1) (.slice a n c) := by
    unfold gcs
    simp
  rw [e] at hb
  exact hb

end Go.Proofs.YtlfijfodklhplaaGreat
/- Walk of reach, at a node that is new. -/
namespace Go.Proofs.YtlfijfodklhplaaGreat
open Go.RowKit
set_option linter.unusedVariables false
set_option linter.unusedSimpArgs false

set_option maxRecDepth 100000 in
set_option maxHeartbeats 400000 in
theorem reach_new (ex : Nat → Prop) (W0 w : World) (gb cp : Nat) (sa : Option Addr) (es : List Ed) (R : Nat → Bool) (cnt : Nat) (a : Option Addr) (n c : Nat) (L : List Th) (k : Nat) (h : Gw ex W0 w gb (.slice sa es.length cp) R cnt a n c L) (hk : k < 10) (hR : R k = false)
    (hsl : ESl W0 sa es) (hsx : ∀ bb bo, 0 < es.length → sa = some ⟨bb, bo, none⟩ → ¬ ex bb) (hes : es.length ≤ 30) (hn : (n : Int) < 1000) (hcnt : (cnt : Int) < 1000) :
    Calls Tryz.prog 102 #[.pointer (some ⟨gb, 0, none⟩), .int .i64 (k : Int)] w fun r w' => r = .returned (.tuple #[]) ∧ ∃ a' n' c' L', Gw ex W0 w' gb (.slice sa es.length cp) (mark R k) (cnt + 1) a' n' c' L' ∧
      n' ≤ n + es.length ∧ ∀ x, x ∈ L' ↔ x ∈ L ∨ touch es (k : Int) x := by
  have hc := h.heap.blk.cell (1 + k)
  rw [gcs_get _ _ _ _ _ hk, hR] at hc
  have hf := h.heap.blk.frozen (1 + k)
  have hc0 := h.heap.blk.cell 0
  have hc11 := h.heap.blk.cell 11
  have hf11 := h.heap.blk.frozen 11
  simp [gcs] at hc0 hc11
  have hkI : (k : Int) < 10 := by omega
  have hk11 : ¬ (1 + k = 11) := by omega
  have hk0 : ¬ (1 + k = 0) := by omega
  have HG : Unit → Gw ex W0 w gb (.slice sa es.length cp) R cnt a n c L := fun _ => h
  have HB : Unit → ESl W0 sa es ∧ es.length ≤ 30 ∧ (n : Int) < 1000 ∧ (cnt : Int) < 1000 ∧ k < 10 := fun _ => ⟨hsl, hes, hn, hcnt, hk⟩
  have HSX : Unit → ∀ bb bo, 0 < es.length → sa = some ⟨bb, bo, none⟩ → ¬ ex bb := fun _ => hsx
  have hwc : wrap64 ((cnt : Int) + 1) = (cnt : Int) + 1 := by unfold wrap64; omega
  clear h hR hsl hes hn hcnt hsx
  go_enter Tryz.func102, Tryz.ntmps102
  go_wp2_with fail
  try simp only [hwc]
  clear hwc
  obtain ⟨W1, hW1⟩ : ∃ W1, W1 = (w.setCell ⟨gb, 1 + k, none⟩ (.bool true)).setCell ⟨gb, 11, none⟩ (.int .i64 ((cnt : Int) + 1)) := ⟨_, rfl⟩
  rw [← hW1]
  have HG1 : Unit → Gw ex W0 W1 gb (.slice sa es.length cp) (mark R k) (cnt + 1) a n c L := fun _ => by rw [hW1]; exact (HG ()).mark k (HB ()).2.2.2.2
  clear hW1 hc hf hc0 hc11 hf11
  go_loopw [29] (fun v wr => ∃ (i : Nat) (a' : Option Addr) (n' c' : Nat) (L' : List Th), i ≤ es.length ∧ v = .int .i64 (i : Int) ∧ Gw ex W0 wr gb (.slice sa es.length cp) (mark R k) (cnt + 1) a' n' c' L' ∧ n' ≤ n + i ∧ ∀ x, x ∈ L' ↔ x ∈ L ∨ touch (es.take i) (k : Int) x) (fun v _ => es.length - (intOf v).toNat)
  case atStart => exact ⟨0, a, n, c, L, by omega, rfl, HG1 (), by omega, fun x => ⟨Or.inl, fun h => h.elim id (fun ⟨e, he, _⟩ => by simp at he)⟩⟩
  case round =>
    obtain ⟨i, a', n', c', L', hi, rfl, hg, hn', hmem⟩ := hrel
    have HR : Unit → Gw ex W0 wr gb (.slice sa es.length cp) (mark R k) (cnt + 1) a' n' c' L' ∧ n' ≤ n + i ∧ ∀ x, x ∈ L' ↔ x ∈ L ∨ touch (es.take i) (k : Int) x := fun _ => ⟨hg, hn', hmem⟩
    clear hg hn' hmem
    by_cases hil : i < es.length
    · obtain ⟨e, he⟩ : ∃ e, es[i]? = some e := ⟨_, List.getElem?_eq_getElem hil⟩
      obtain ⟨bb, bo, rfl, hbb, hrow⟩ := (HB ()).1.some hil
      obtain ⟨q0, q1, q2⟩ := erow_get (hrow.keep (HR ()).1.keep hbb (HSX () _ _ (by omega) rfl)) i e he
      have hbw : bb < wr.heap.size := Nat.lt_of_lt_of_le hbb (HR ()).1.keep.size
      have hiI : (i : Int) < (es.length : Int) := by omega
      have hwi : (i : Int) < 1000 := by have := HB (); omega
      obtain ⟨ea, eb, ew⟩ := e
      simp only at q0 q1 q2
      have HE : Unit → es[i]? = some ⟨ea, eb, ew⟩ := fun _ => he
      clear he hrow hbb
      by_cases h1 : ea = (k : Int)
      · as_aux_lemma =>
        subst h1
        have HM : Unit → ∀ x, touch (es.take (i + 1)) (k : Int) x ↔ touch (es.take i) (k : Int) x ∨ x = ⟨⟨(k : Int), eb, ew⟩, ew⟩ := fun _ x => by
          rw [touch_succ (HE ())]
          exact ⟨fun h => h.imp id (fun h => h.2), fun h => h.imp id (fun h => ⟨Or.inl rfl, h⟩)⟩
        go_wp2_with fail
        obtain ⟨W2, hW2⟩ : ∃ W2, W2 = wr.alloc (.cells #[.int .i64 (k : Int), .int .i64 eb, .int .i64 ew] 30) := ⟨_, rfl⟩
        have hbx : Blk W2 wr.heap.size #[.int .i64 (k : Int), .int .i64 eb, .int .i64 ew] 30 := by rw [hW2]; exact Blk.new _ _ _
        have hk2 : Keep nil wr W2 := by rw [hW2]; exact (Keep.refl nil wr).alloc _
        rw [← hW2]
        obtain ⟨xb, hxb⟩ : ∃ xb, xb = wr.heap.size := ⟨_, rfl⟩
        rw [← hxb] at hbx ⊢
        have z0 := hbx.cell 0
        have z1 := hbx.cell 1
        have z2 := hbx.cell 2
        simp at z0 z1 z2
        have HG2 : Unit → Gw ex W0 W2.drew gb (.slice (some ⟨bb, bo, none⟩) es.length cp) (mark R k) (cnt + 1) a' n' c' L' := fun _ => (HR ()).1.same hk2.drew
        clear hW2 hbx hxb q0 q1 q2
        have HA : Unit → Calls Tryz.prog 147 #[.pointer (some ⟨gb, 12, none⟩), .agg #[.int .i64 (k : Int), .int .i64 eb, .int .i64 ew], .int .i64 ew] W2.drew fun r w' => r = .returned (.tuple #[]) ∧ HeapTo W2.drew w' gb 12 (gcs (.slice (some ⟨bb, bo, none⟩) es.length cp) (mark R k) (cnt + 1) (.slice a' n' c')) 174 a' (fun L'' => SameT L'' (L' ++ [⟨⟨(k : Int), eb, ew⟩, ew⟩])) := fun _ => add_any gb 12 _ 174 a' n' c' L' ⟨(k : Int), eb, ew⟩ ew W2.drew (HG2 ()).heap (by have := (HR ()).2.1; have := HB (); omega)
        go_still_tail 6, (by kernel_rfl)
        go_wp2_with fail
        refine (HA ()).mono ?_
        rintro r w3 ⟨rfl, h3⟩
        obtain ⟨a2, n2, c2, L2, hg2, hs2⟩ := (HG2 ()).to h3
        have HP : Unit → Gw ex W0 w3 gb (.slice (some ⟨bb, bo, none⟩) es.length cp) (mark R k) (cnt + 1) a2 n2 c2 L2 ∧ SameT L2 (L' ++ [⟨⟨(k : Int), eb, ew⟩, ew⟩]) := fun _ => ⟨hg2, hs2⟩
        clear h3 hg2 hs2 HA z0 z1 z2
        go_wp2
        go_roundw
        case rel =>
          refine ⟨i + 1, a2, n2, c2, L2, by omega, by go_num, (HP ()).1, ?_, fun x => ?_⟩
          · have h1 := (HP ()).1.heap.len
            have h2 := (HP ()).2.1
            have h3 := (HR ()).1.heap.len
            have h4 := (HR ()).2.1
            rw [List.length_append] at h2
            simp at h2
            omega
          · rw [(HP ()).2.2 x, List.mem_append, (HR ()).2.2 x, HM () x, or_assoc]
            simp
        case measure => simp [intOf]; omega
      · by_cases h2 : eb = (k : Int)
        · as_aux_lemma =>
          subst h2
          have HM : Unit → ∀ x, touch (es.take (i + 1)) (k : Int) x ↔ touch (es.take i) (k : Int) x ∨ x = ⟨⟨ea, (k : Int), ew⟩, ew⟩ := fun _ x => by
            rw [touch_succ (HE ())]
            exact ⟨fun h => h.imp id (fun h => h.2), fun h => h.imp id (fun h => ⟨Or.inr rfl, h⟩)⟩
          go_wp2_with fail
          clear h1
          obtain ⟨W2, hW2⟩ : ∃ W2, W2 = wr.alloc (.cells #[.int .i64 ea, .int .i64 (k : Int), .int .i64 ew] 30) := ⟨_, rfl⟩
          have hbx : Blk W2 wr.heap.size #[.int .i64 ea, .int .i64 (k : Int), .int .i64 ew] 30 := by rw [hW2]; exact Blk.new _ _ _
          have hk2 : Keep nil wr W2 := by rw [hW2]; exact (Keep.refl nil wr).alloc _
          rw [← hW2]
          obtain ⟨xb, hxb⟩ : ∃ xb, xb = wr.heap.size := ⟨_, rfl⟩
          rw [← hxb] at hbx ⊢
          have z0 := hbx.cell 0
          have z1 := hbx.cell 1
          have z2 := hbx.cell 2
          simp at z0 z1 z2
          have HG2 : Unit → Gw ex W0 W2.drew gb (.slice (some ⟨bb, bo, none⟩) es.length cp) (mark R k) (cnt + 1) a' n' c' L' := fun _ => (HR ()).1.same hk2.drew
          clear hW2 hbx hxb q0 q1 q2
          have HA : Unit → Calls Tryz.prog 147 #[.pointer (some ⟨gb, 12, none⟩), .agg #[.int .i64 ea, .int .i64 (k : Int), .int .i64 ew], .int .i64 ew] W2.drew fun r w' => r = .returned (.tuple #[]) ∧ HeapTo W2.drew w' gb 12 (gcs (.slice (some ⟨bb, bo, none⟩) es.length cp) (mark R k) (cnt + 1) (.slice a' n' c')) 174 a' (fun L'' => SameT L'' (L' ++ [⟨⟨ea, (k : Int), ew⟩, ew⟩])) := fun _ => add_any gb 12 _ 174 a' n' c' L' ⟨ea, (k : Int), ew⟩ ew W2.drew (HG2 ()).heap (by have := (HR ()).2.1; have := HB (); omega)
          go_still_tail 6, (by kernel_rfl)
          go_wp2_with fail
          refine (HA ()).mono ?_
          rintro r w3 ⟨rfl, h3⟩
          obtain ⟨a2, n2, c2, L2, hg2, hs2⟩ := (HG2 ()).to h3
          have HP : Unit → Gw ex W0 w3 gb (.slice (some ⟨bb, bo, none⟩) es.length cp) (mark R k) (cnt + 1) a2 n2 c2 L2 ∧ SameT L2 (L' ++ [⟨⟨ea, (k : Int), ew⟩, ew⟩]) := fun _ => ⟨hg2, hs2⟩
          clear h3 hg2 hs2 HA z0 z1 z2
          go_wp2
          go_roundw
          case rel =>
            refine ⟨i + 1, a2, n2, c2, L2, by omega, by go_num, (HP ()).1, ?_, fun x => ?_⟩
            · have h1 := (HP ()).1.heap.len
              have h2 := (HP ()).2.1
              have h3 := (HR ()).1.heap.len
              have h4 := (HR ()).2.1
              rw [List.length_append] at h2
              simp at h2
              omega
            · rw [(HP ()).2.2 x, List.mem_append, (HR ()).2.2 x, HM () x, or_assoc]
              simp
          case measure => simp [intOf]; omega
        · as_aux_lemma =>
          have HM : Unit → ∀ x, touch (es.take (i + 1)) (k : Int) x ↔ touch (es.take i) (k : Int) x := fun _ x => by
            rw [touch_succ (HE ())]
            exact ⟨fun h => h.elim id (fun h => (h.1.elim h1 h2).elim), Or.inl⟩
          go_wp2_with fail
          · rename_i h; simp [h1, h2] at h
          · clear h1 h2
            go_roundw
            case rel => exact ⟨i + 1, a', n', c', L', by omega, by go_num, (HR ()).1.same ((Keep.refl nil wr).alloc _), by have := (HR ()).2.1; omega, fun x => by rw [HM ()]; exact (HR ()).2.2 x⟩
            case measure => simp [intOf]; omega
    · have ei : i = es.length := by omega
      subst ei
      go_wp2
      go_end0
      refine ⟨rfl, a', n', c', L', (HR ()).1, (HR ()).2.1, fun x => ?_⟩
      have := (HR ()).2.2 x
      rwa [List.take_length] at this
end Go.Proofs.YtlfijfodklhplaaGreat
/- What Check answers: the mathematics. -/
namespace Go.Proofs.YtlfijfodklhplaaGreat
open Go.RowKit
set_option linter.unusedVariables false
set_option linter.unusedSimpArgs false

/-- How many of the first n are marked. -/
def card (R : Nat → Bool) : Nat → Nat
  | 0 => 0
  | n + 1 => card R n + (if R n = true then 1 else 0)
theorem card_le (R : Nat → Bool) (n : Nat) : card R n ≤ n := by
  induction n with
  | zero => exact Nat.le_refl _
  | succ n ih => simp only [card]; split <;> omega
theorem card_full (R : Nat → Bool) (n : Nat) (h : card R n = n) : ∀ k, k < n → R k = true := by
  induction n with
  | zero => intro k hk; omega
  | succ n ih =>
    simp only [card] at h
    have := card_le R n
    intro k hk
    by_cases e : R n = true
    · rw [if_pos e] at h
      by_cases hkn : k = n
      · rw [hkn]; exact e
      · exact ih (by omega) k (by omega)
    · rw [if_neg e] at h; omega
theorem card_all (R : Nat → Bool) (n : Nat) (h : ∀ k, k < n → R k = true) : card R n = n := by
  induction n with
  | zero => rfl
  | succ n ih => simp only [card]; rw [ih (fun k hk => h k (by omega)), if_pos (h n (by omega))]
theorem card_far (R : Nat → Bool) (n d : Nat) (h : ∀ k, n ≤ k → R k = false) : card R (n + d) = card R n := by
  induction d with
  | zero => rfl
  | succ d ih => rw [← Nat.add_assoc]; simp only [card]; rw [ih, h (n + d) (by omega)]; simp
theorem card_eq (R S : Nat → Bool) (n : Nat) (h : ∀ k, k < n → R k = S k) : card R n = card S n := by
  induction n with
  | zero => rfl
  | succ n ih => simp only [card]; rw [ih (fun k hk => h k (by omega)), h n (by omega)]
theorem card_mark (R : Nat → Bool) (n k : Nat) (hk : k < n) (h : R k = false) : card (mark R k) n = card R n + 1 := by
  induction n with
  | zero => omega
  | succ n ih =>
    simp only [card]
    by_cases e : k = n
    · subst e
      rw [card_eq (mark R k) R k (fun j hj => by simp [mark]; omega), h]
      simp [mark]
    · rw [ih (by omega)]
      have : mark R k n = R n := by simp [mark]; omega
      rw [this]; omega
theorem card_mono (R S : Nat → Bool) (n : Nat) (h : ∀ k, R k = true → S k = true) : card R n ≤ card S n := by
  induction n with
  | zero => exact Nat.le_refl _
  | succ n ih =>
    simp only [card]
    by_cases e : R n = true
    · rw [if_pos e, if_pos (h n e)]; omega
    · rw [if_neg e]; omega

/-- The edges join all nodes: a set that has node 0, and with one end of an edge the other, has all. -/
def Joined (n : Nat) (es : List Ed) : Prop := ∀ S : Nat → Prop, S 0 → (∀ e ∈ es, S e.a.toNat ↔ S e.b.toNat) → ∀ k, k < n → S k
/-- What is marked is in each such set. -/
def Sound (es : List Ed) (R : Nat → Bool) : Prop := ∀ S : Nat → Prop, S 0 → (∀ e ∈ es, S e.a.toNat ↔ S e.b.toNat) → ∀ k, R k = true → S k
def Closed (es : List Ed) (R : Nat → Bool) : Prop := ∀ e ∈ es, R e.a.toNat = R e.b.toNat
theorem Sound.mark {es : List Ed} {R : Nat → Bool} (h : Sound es R) {e : Ed} (he : e ∈ es) (ht : R e.a.toNat = true ∨ R e.b.toNat = true) (k : Nat) (hk : k = e.a.toNat ∨ k = e.b.toNat) : Sound es (mark R k) := by
  intro S h0 hS j hj
  have hb : S e.a.toNat ∧ S e.b.toNat := by
    rcases ht with ht | ht
    · exact ⟨h S h0 hS _ ht, (hS e he).1 (h S h0 hS _ ht)⟩
    · exact ⟨(hS e he).2 (h S h0 hS _ ht), h S h0 hS _ ht⟩
  unfold Go.Proofs.YtlfijfodklhplaaGreat.mark at hj
  split at hj
  · rename_i e1; rcases hk with rfl | rfl
    · rw [e1]; exact hb.1
    · rw [e1]; exact hb.2
  · exact h S h0 hS j hj
theorem joined_iff {n : Nat} {es : List Ed} {R : Nat → Bool} (h0 : R 0 = true) (hs : Sound es R) (hc : Closed es R) : Joined n es ↔ ∀ k, k < n → R k = true :=
  ⟨fun h k hk => h (fun j => R j = true) h0 (fun e he => by rw [hc e he]) k hk, fun h S s0 sS k hk => hs S s0 sS k (h k hk)⟩

/-- One edge's mark goes on. -/
def spr (M : Nat → Bool) (e : Ed) : Nat → Bool := if (M e.a.toNat || M e.b.toNat) = true then mark (mark M e.a.toNat) e.b.toNat else M
def pass (M : Nat → Bool) (es : List Ed) : Nat → Bool := es.foldl spr M
theorem mark_same {M : Nat → Bool} {k : Nat} (h : M k = true) : mark M k = M := by
  funext j; unfold mark; split
  · rename_i e; rw [e, h]
  · rfl
theorem mark_le (M : Nat → Bool) (k j : Nat) (h : M j = true) : mark M k j = true := by unfold mark; split <;> simp [*]
theorem spr_le (M : Nat → Bool) (e : Ed) (j : Nat) (h : M j = true) : spr M e j = true := by
  unfold spr; split
  · exact mark_le _ _ _ (mark_le _ _ _ h)
  · exact h
theorem pass_le (es : List Ed) (M : Nat → Bool) (j : Nat) (h : M j = true) : pass M es j = true := by
  induction es generalizing M with
  | nil => exact h
  | cons e t ih => exact ih (spr M e) (spr_le M e j h)
theorem spr_same {M : Nat → Bool} {e : Ed} (h : M e.a.toNat = M e.b.toNat) : spr M e = M := by
  unfold spr
  split
  · rename_i h1
    rw [h] at h1
    simp at h1
    rw [mark_same (M := M) (by rw [h]; exact h1), mark_same h1]
  · rfl
theorem pass_closed {es : List Ed} {M : Nat → Bool} (h : Closed es M) : pass M es = M := by
  induction es generalizing M with
  | nil => rfl
  | cons e t ih =>
    show pass (spr M e) t = M
    rw [spr_same (h e (by simp))]
    exact ih (fun x hx => h x (by simp [hx]))
theorem spr_more {M : Nat → Bool} {e : Ed} {n : Nat} (ha : e.a.toNat < n) (hb : e.b.toNat < n) (h : M e.a.toNat ≠ M e.b.toNat) : card M n + 1 ≤ card (spr M e) n := by
  unfold spr
  cases h1 : M e.a.toNat <;> cases h2 : M e.b.toNat
  · rw [h1, h2] at h; exact (h rfl).elim
  · rw [if_pos (by simp), mark_same (M := mark M e.a.toNat) (mark_le _ _ _ h2), card_mark _ _ _ ha h1]
    exact Nat.le_refl _
  · rw [if_pos (by simp), mark_same h1, card_mark _ _ _ hb h2]
    exact Nat.le_refl _
  · rw [h1, h2] at h; exact (h rfl).elim
theorem pass_more {es : List Ed} {M : Nat → Bool} {n : Nat} (hr : ∀ e ∈ es, e.a.toNat < n ∧ e.b.toNat < n) (h : ¬ Closed es M) : card M n + 1 ≤ card (pass M es) n := by
  induction es generalizing M with
  | nil => exact (h (fun e he => by simp at he)).elim
  | cons e t ih =>
    show card M n + 1 ≤ card (pass (spr M e) t) n
    by_cases he : M e.a.toNat = M e.b.toNat
    · rw [spr_same he]
      refine ih (fun x hx => hr x (by simp [hx])) (fun hc => h (fun x hx => ?_))
      rcases List.mem_cons.1 hx with rfl | hx
      · exact he
      · exact hc x hx
    · exact Nat.le_trans (spr_more (hr e (by simp)).1 (hr e (by simp)).2 he) (card_mono _ _ n (fun k hk => pass_le t _ k hk))
theorem spr_sound {es : List Ed} {M : Nat → Bool} (h : Sound es M) {e : Ed} (he : e ∈ es) : Sound es (spr M e) := by
  unfold spr
  split
  · rename_i h1
    simp at h1
    refine Sound.mark (Sound.mark h he h1 _ (Or.inl rfl)) he ?_ _ (Or.inr rfl)
    exact h1.imp (mark_le _ _ _) (mark_le _ _ _)
  · exact h
theorem pass_sound {es l : List Ed} {M : Nat → Bool} (h : Sound es M) (hl : ∀ e ∈ l, e ∈ es) : Sound es (pass M l) := by
  induction l generalizing M with
  | nil => exact h
  | cons e t ih => exact ih (spr_sound h (hl e (by simp))) (fun x hx => hl x (by simp [hx]))
/-- Rounds over all edges. -/
def rounds (es : List Ed) (M : Nat → Bool) : Nat → Nat → Bool
  | 0 => M
  | r + 1 => pass (rounds es M r) es
theorem rounds_sound {es : List Ed} {M : Nat → Bool} (h : Sound es M) (r : Nat) : Sound es (rounds es M r) := by
  induction r with
  | zero => exact h
  | succ r ih => exact pass_sound ih (fun e he => he)
theorem rounds_le (es : List Ed) (M : Nat → Bool) (r j : Nat) (h : M j = true) : rounds es M r j = true := by
  induction r with
  | zero => exact h
  | succ r ih => exact pass_le es _ j ih
theorem rounds_more {es : List Ed} {M : Nat → Bool} {n : Nat} (hr : ∀ e ∈ es, e.a.toNat < n ∧ e.b.toNat < n) (h1 : 1 ≤ card M n) (r : Nat) : Closed es (rounds es M r) ∨ r + 1 ≤ card (rounds es M r) n := by
  induction r with
  | zero => exact Or.inr h1
  | succ r ih =>
    by_cases hc : Closed es (rounds es M r)
    · refine Or.inl ?_
      show Closed es (pass (rounds es M r) es)
      rw [pass_closed hc]; exact hc
    · rcases ih with ih | ih
      · exact (hc ih).elim
      · refine Or.inr ?_
        have := pass_more hr hc
        show r + 1 + 1 ≤ card (pass (rounds es M r) es) n
        omega
theorem rounds_closed {es : List Ed} {M : Nat → Bool} {n : Nat} (hr : ∀ e ∈ es, e.a.toNat < n ∧ e.b.toNat < n) (h1 : 1 ≤ card M n) : Closed es (rounds es M n) := by
  rcases rounds_more hr h1 n with h | h
  · exact h
  · have := card_le (rounds es M n) n; omega
def zero0 : Nat → Bool := mark (fun _ => false) 0
theorem zero0_sound (es : List Ed) : Sound es zero0 := by
  intro S h0 _ k hk
  unfold zero0 mark at hk
  split at hk
  · rename_i e; rw [e]; exact h0
  · cases hk
theorem rounds_joined {es : List Ed} {n : Nat} (hn : 0 < n) (hr : ∀ e ∈ es, e.a.toNat < n ∧ e.b.toNat < n) : Joined n es ↔ ∀ k, k < n → rounds es zero0 n k = true := by
  refine joined_iff (rounds_le es _ n 0 rfl) (rounds_sound (zero0_sound es) n) (rounds_closed hr ?_)
  have : card zero0 n = card (fun _ => false) n + 1 := card_mark _ n 0 hn rfl
  omega

/-- Faults of edges. -/
def Stray (n : Int) (e : Ed) : Prop := e.a < 0 ∨ n ≤ e.a ∨ e.b < 0 ∨ n ≤ e.b ∨ e.a = e.b
def Heavy (e : Ed) : Prop := e.wt < 1 ∨ 1000 < e.wt
def Two (p : Ed → Ed → Prop) (es : List Ed) : Prop := ∃ (i j : Nat) (e f : Ed), j < i ∧ es[i]? = some e ∧ es[j]? = some f ∧ p e f
def SameW (e f : Ed) : Prop := e.wt = f.wt
def SameE (e f : Ed) : Prop := (e.a = f.a ∧ e.b = f.b) ∨ (e.a = f.b ∧ e.b = f.a)
/-- What Check answers. -/
def BadSize (n : Int) (es : List Ed) : Prop := n < 1 ∨ 10 < n ∨ 30 < es.length
def BadEdge (n : Int) (es : List Ed) : Prop := ∃ e ∈ es, Stray n e
def BadW (es : List Ed) : Prop := (∃ e ∈ es, Heavy e) ∨ Two SameW es
def Chk (n : Int) (es : List Ed) (r : Int) : Prop :=
  (BadSize n es → r = 1) ∧ (¬ BadSize n es → (BadEdge n es → r = 2) ∧ (¬ BadEdge n es → (BadW es → r = 3) ∧ (¬ BadW es → (Two SameE es → r = 4) ∧ (¬ Two SameE es → (¬ Joined n.toNat es → r = 5) ∧ (Joined n.toNat es → r = 0)))))
theorem Chk.uniq {n : Int} {es : List Ed} {r r' : Int} (h : Chk n es r) (h' : Chk n es r') : r = r' := by
  by_cases h1 : BadSize n es
  · rw [h.1 h1, h'.1 h1]
  have g := h.2 h1
  have g' := h'.2 h1
  by_cases h2 : BadEdge n es
  · rw [g.1 h2, g'.1 h2]
  have g := g.2 h2
  have g' := g'.2 h2
  by_cases h3 : BadW es
  · rw [g.1 h3, g'.1 h3]
  have g := g.2 h3
  have g' := g'.2 h3
  by_cases h4 : Two SameE es
  · rw [g.1 h4, g'.1 h4]
  have g := g.2 h4
  have g' := g'.2 h4
  by_cases h5 : Joined n.toNat es
  · rw [g.2 h5, g'.2 h5]
  · rw [g.1 h5, g'.1 h5]
theorem Chk.mk1 {n : Int} {es : List Ed} (h : BadSize n es) : Chk n es 1 := ⟨fun _ => rfl, fun h' => (h' h).elim⟩
theorem Chk.mk2 {n : Int} {es : List Ed} (h1 : ¬ BadSize n es) (h : BadEdge n es) : Chk n es 2 := ⟨fun h' => (h1 h').elim, fun _ => ⟨fun _ => rfl, fun h' => (h' h).elim⟩⟩
theorem Chk.mk3 {n : Int} {es : List Ed} (h1 : ¬ BadSize n es) (h2 : ¬ BadEdge n es) (h : BadW es) : Chk n es 3 := ⟨fun h' => (h1 h').elim, fun _ => ⟨fun h' => (h2 h').elim, fun _ => ⟨fun _ => rfl, fun h' => (h' h).elim⟩⟩⟩
theorem Chk.mk4 {n : Int} {es : List Ed} (h1 : ¬ BadSize n es) (h2 : ¬ BadEdge n es) (h3 : ¬ BadW es) (h : Two SameE es) : Chk n es 4 := ⟨fun h' => (h1 h').elim, fun _ => ⟨fun h' => (h2 h').elim, fun _ => ⟨fun h' => (h3 h').elim, fun _ => ⟨fun _ => rfl, fun h' => (h' h).elim⟩⟩⟩⟩
theorem Chk.mk5 {n : Int} {es : List Ed} (h1 : ¬ BadSize n es) (h2 : ¬ BadEdge n es) (h3 : ¬ BadW es) (h4 : ¬ Two SameE es) (h : ¬ Joined n.toNat es) : Chk n es 5 := ⟨fun h' => (h1 h').elim, fun _ => ⟨fun h' => (h2 h').elim, fun _ => ⟨fun h' => (h3 h').elim, fun _ => ⟨fun h' => (h4 h').elim, fun _ => ⟨fun _ => rfl, fun h' => (h h').elim⟩⟩⟩⟩⟩
theorem Chk.mk0 {n : Int} {es : List Ed} (h1 : ¬ BadSize n es) (h2 : ¬ BadEdge n es) (h3 : ¬ BadW es) (h4 : ¬ Two SameE es) (h : Joined n.toNat es) : Chk n es 0 := ⟨fun h' => (h1 h').elim, fun _ => ⟨fun h' => (h2 h').elim, fun _ => ⟨fun h' => (h3 h').elim, fun _ => ⟨fun h' => (h4 h').elim, fun _ => ⟨fun h' => (h' h).elim, fun _ => rfl⟩⟩⟩⟩⟩
end Go.Proofs.YtlfijfodklhplaaGreat
