import Derived.Test.YtlfijfodklhplaaGreatAk42
import Derived.Test.YtlfijfodklhplaaGreatAk40
import Derived.Test.YtlfijfodklhplaaGreatAk39
import Derived.Shelf.SlSortCmp.WholeK
import Derived.Shelf.SlLaysF0
import Derived.Test.YtlfijfodklhplaaGreatProg
/- The edges' row behind the sort, in our words. -/
namespace Go.Proofs.YtlfijfodklhplaaGreat
open Go.RowKit Go.Sort
set_option linter.unusedVariables false
set_option linter.unusedSimpArgs false

instance : Inhabited Ed := ⟨⟨0, 0, 0⟩⟩
theorem ecells_size (l : List Ed) : (ecells l).length = l.length * 3 := by
  induction l with
  | nil => rfl
  | cons e t ih =>
    have : ecells (e :: t) = e.cells ++ ecells t := by simp [ecells]
    rw [this, List.length_append, ih]
    simp [Ed.cells]; omega
theorem flat_ecells (l : List Ed) : (flatK Ed.cells 3 l.toArray).toList = ecells l := by
  apply List.ext_getElem?
  intro t
  by_cases h : t < l.length * 3
  · have hk : t / 3 < l.length := by omega
    have hx : l[t / 3]? = some l[t / 3] := List.getElem?_eq_getElem hk
    obtain ⟨c0, c1, c2⟩ := ecells_get l (t / 3) _ hx
    have hs : t < (flatK Ed.cells 3 l.toArray).size := by simpa using h
    have e1 : (flatK Ed.cells 3 l.toArray).toList[t]? = some ((flatK Ed.cells 3 l.toArray)[t]!) := by
      rw [getElem!_pos _ t hs, Array.getElem?_toList, Array.getElem?_eq_getElem hs]
    have e2 : l.toArray[t / 3]! = l[t / 3] := by
      rw [getElem!_pos l.toArray (t / 3) (by simpa using hk)]; simp
    rw [e1, get_flatK _ _ _ t (by simpa using h), e2]
    have h3 : t % 3 = 0 ∨ t % 3 = 1 ∨ t % 3 = 2 := by omega
    rcases h3 with h3 | h3 | h3
    · have : t = t / 3 * 3 := by omega
      rw [h3, show (ecells l)[t]? = (ecells l)[t / 3 * 3]? from by rw [← this], c0]; rfl
    · have : t = t / 3 * 3 + 1 := by omega
      rw [h3, show (ecells l)[t]? = (ecells l)[t / 3 * 3 + 1]? from by rw [← this], c1]; rfl
    · have : t = t / 3 * 3 + 2 := by omega
      rw [h3, show (ecells l)[t]? = (ecells l)[t / 3 * 3 + 2]? from by rw [← this], c2]; rfl
  · rw [List.getElem?_eq_none (by simp; omega), List.getElem?_eq_none (by rw [ecells_size]; omega)]
theorem holds_edges {w : World} {g o c : Nat} {t : TypeId} {es : List Ed} (h : VBo w g o t 3 (ecells es) c) : HoldsK Ed.cells 3 w g o es.toArray := by
  intro j hj
  obtain ⟨pre, sp, hb, _, _⟩ := id h
  have hs : (flatK Ed.cells 3 es.toArray)[j]? = some ((flatK Ed.cells 3 es.toArray)[j]!) := by
    rw [getElem!_pos _ j hj, Array.getElem?_eq_getElem hj]
  have h2 : (ecells es)[j]? = some ((flatK Ed.cells 3 es.toArray)[j]!) := by
    rw [← flat_ecells, Array.getElem?_toList, hs]
  exact ⟨h.cell j _ h2, hb.frozen _⟩
theorem put_row (pre vs vs' sp : List Value) (F : Array Value) (hF : F.toList = vs') (hl : vs'.length = vs.length) : putCells id pre.length F (pre ++ vs ++ sp).toArray = (pre ++ vs' ++ sp).toArray := by
  have hFs : F.size = vs.length := by rw [← hl, ← hF]; simp
  unfold putCells
  apply Array.ext
  · simp; omega
  · intro k h1 h2
    simp only [Array.getElem_mapIdx, List.getElem_toArray]
    have hk : k < pre.length + vs.length + sp.length := by simp at h1; omega
    by_cases ha : k < pre.length
    · rw [if_neg (by omega), List.getElem_append_left (by simp; omega), List.getElem_append_left ha, List.getElem_append_left (by simp; omega), List.getElem_append_left ha]
    · by_cases hb : k < pre.length + vs.length
      · rw [if_pos ⟨by omega, by omega⟩]
        have hkF : k - pre.length < F.size := by omega
        rw [getElem!_pos F _ hkF]
        rw [List.getElem_append_left (show k < (pre ++ vs').length by simp; omega), List.getElem_append_right (by omega)]
        subst hF
        simp
      · rw [if_neg (by omega), List.getElem_append_right (by simp; omega), List.getElem_append_right (by simp; omega)]
        simp only [List.length_append, hl]
theorem sort_world {w : World} {g o c : Nat} {t : TypeId} {es es' : List Ed} (h : VBo w g o t 3 (ecells es) c) (hl : es'.length = es.length) (n : Nat) (os : Array Obj) :
    VBo (sortWorldK Ed.cells 3 w g o n es'.toArray os) g o t 3 (ecells es') c ∧ Keep (only g) w (sortWorldK Ed.cells 3 w g o n es'.toArray os) := by
  obtain ⟨pre, sp, hb, ho, hc⟩ := h
  have hgl := hb.lt
  have hsz : (putRow id (Sort.ahead w n) g o (flatK Ed.cells 3 es'.toArray)).heap.size = w.heap.size := by rw [size_putRow]; rfl
  refine ⟨⟨pre, sp, ?_, ho, ?_⟩, ?_⟩
  · unfold Blk at hb ⊢
    unfold sortWorldK grow putRowK
    simp only
    rw [Array.getElem?_append_left (by rw [hsz]; exact hgl)]
    unfold putRow mapBlock
    simp only
    have hah : (Sort.ahead w n).heap = w.heap := rfl
    rw [hah, Array.getElem?_modify, if_pos rfl, hb]
    simp only [Option.map_some, onCells]
    rw [← ho, put_row pre (ecells es) (ecells es') sp _ (flat_ecells es') (by rw [ecells_size, ecells_size, hl])]
  · rw [ecells_size, hl]; rw [ecells_size] at hc; exact hc
  · refine ⟨rfl, rfl, rfl, ?_, ?_⟩
    · unfold sortWorldK grow putRowK
      simp only [Array.size_append, hsz]
      omega
    · intro k hk hn
      unfold sortWorldK grow putRowK
      simp only
      rw [Array.getElem?_append_left (by rw [hsz]; exact hk)]
      unfold putRow mapBlock
      simp only
      have hah : (Sort.ahead w n).heap = w.heap := rfl
      rw [hah, Array.getElem?_modify, if_neg (fun e => hn e.symm)]
/-- The order by weight. -/
def cfw (x y : Ed) : Int := Lib.compareInt x.wt y.wt
theorem ltw (x y : Ed) : ltOf cfw x y = decide (x.wt < y.wt) := by
  unfold ltOf cfw Lib.compareInt
  by_cases h1 : x.wt < y.wt
  · simp [h1]
  · by_cases h2 : y.wt < x.wt <;> simp [h1, h2]
theorem swow : SWO (ltOf cfw) where
  irrefl x := by rw [ltw]; simp
  trans x y z h1 h2 := by rw [ltw] at *; simp at *; omega
  ntrans x y z h1 h2 := by rw [ltw] at *; simp at *; omega
/-- The edges, by rising weight. -/
def srt (es : List Ed) : List Ed := (pdq (ltOf cfw) es.toArray 0 es.toArray.size (Lib.bitLen es.toArray.size) true true).toList
theorem srt_arr (es : List Ed) : (srt es).toArray = pdq (ltOf cfw) es.toArray 0 es.toArray.size (Lib.bitLen es.toArray.size) true true := by unfold srt; simp
theorem srt_ok (es : List Ed) : PermIn 0 es.toArray.size es.toArray (srt es).toArray ∧ SortedIn (ltOf cfw) 0 es.toArray.size (srt es).toArray := by
  rw [srt_arr]
  exact pdq_sorts (ltOf cfw) swow es.toArray 0 es.toArray.size (Lib.bitLen es.toArray.size) true true (Nat.zero_le _) (Nat.le_refl _) (Or.inl rfl)
theorem srt_perm (es : List Ed) : (srt es).Perm es := by
  obtain ⟨⟨h1, _, h2⟩, _⟩ := srt_ok es
  have e1 : ((srt es).toArray.extract 0 es.toArray.size).toList = srt es := by rw [← h1]; simp
  have e2 : (es.toArray.extract 0 es.toArray.size).toList = es := by simp
  rw [e1, e2] at h2
  exact h2
theorem srt_len (es : List Ed) : (srt es).length = es.length := (srt_perm es).length_eq
theorem srt_rise (es : List Ed) : (srt es).Pairwise (fun e f => e.wt ≤ f.wt) := by
  rw [List.pairwise_iff_getElem]
  intro i j hi hj hij
  have h := (srt_ok es).2 i j (Nat.zero_le _) hij (by rw [srt_len] at hj; simpa using hj)
  rw [ltw, getElem!_pos (srt es).toArray j (by simpa using hj), getElem!_pos (srt es).toArray i (by simpa using hi)] at h
  simp at h
  exact h
theorem chk0_parts {n : Int} {es : List Ed} (h : Chk n es 0) : ¬ BadSize n es ∧ ¬ BadEdge n es ∧ ¬ BadW es := by
  have h1 : ¬ BadSize n es := fun e => by have := h.1 e; omega
  have h2 : ¬ BadEdge n es := fun e => by have := (h.2 h1).1 e; omega
  exact ⟨h1, h2, fun e => by have := ((h.2 h1).2 h2).1 e; omega⟩
theorem srt_ses {n : Nat} {es : List Ed} (h : Chk (n : Int) es 0) : SEs n (srt es) ∧ 1 ≤ n ∧ n ≤ 10 := by
  obtain ⟨h1, h2, h3⟩ := chk0_parts h
  unfold BadSize at h1
  refine ⟨⟨by rw [srt_len]; omega, fun e he => ?_, srt_rise es⟩, by omega, by omega⟩
  have hm : e ∈ es := (srt_perm es).mem_iff.1 he
  have hs : ¬ Stray (n : Int) e := fun x => h2 ⟨e, hm, x⟩
  have hw : ¬ Heavy e := fun x => h3 (Or.inl ⟨e, hm, x⟩)
  unfold Stray at hs
  unfold Heavy at hw
  obtain ⟨a, b, c⟩ := e
  simp only at hs hw
  refine ⟨a.toNat, b.toNat, c.toNat, ?_, by omega, by omega, by omega⟩
  rw [Int.toNat_of_nonneg (by omega), Int.toNat_of_nonneg (by omega), Int.toNat_of_nonneg (by omega)]
end Go.Proofs.YtlfijfodklhplaaGreat
/- slices.SortFunc at edges: the shelf's laying, in plain words (made by the kit's lay-plain.mjs at b5895e3: the numbers are that dump's). -/
namespace Go.Proofs.YtlfijfodklhplaaGreat
open Go.Shelf
set_option linter.unusedVariables false
set_option linter.unusedSimpArgs false
def sortE_ren : Go.Shelf.Ren := ⟨fun | 6 => 58 | 15 => 105 | 14 => 104 | 28 => 157 | 29 => 158 | 20 => 149 | 21 => 150 | 22 => 151 | 23 => 152 | 24 => 153 | 25 => 154 | 26 => 155 | 27 => 156 | 46 => 187 | 47 => 188 | 48 => 189 | 49 => 190 | 50 => 191 | 57 => 221 | n => n, fun | 22 => 26 | 24 => 30 | 25 => 121 | 3 => 3 | 39 => 179 | 0 => 0 | 53 => 249 | 55 => 251 | 4 => 4 | 46 => 242 | 45 => 241 | 50 => 246 | 5 => 5 | 9 => 9 | 66 => 295 | 70 => 299 | 76 => 335 | 77 => 336 | n => n, fun | n => n⟩
theorem sortE : Go.Proofs.SlLaysF0.n6 Tryz.prog sortE_ren := {
  mixed := by kernel_rfl
  f6 := ⟨Tryz.f58.name, by decide, Tryz.func58.trans (congrArg some (by kernel_rfl))⟩
  f14 := ⟨Tryz.f104.name, by decide, Tryz.func104.trans (congrArg some (by kernel_rfl))⟩
  f15 := Tryz.func105.trans (congrArg some (by kernel_rfl))
  f20 := ⟨Tryz.f149.name, by decide, Tryz.func149.trans (congrArg some (by kernel_rfl))⟩
  f21 := ⟨Tryz.f150.name, by decide, Tryz.func150.trans (congrArg some (by kernel_rfl))⟩
  f22 := ⟨Tryz.f151.name, by decide, Tryz.func151.trans (congrArg some (by kernel_rfl))⟩
  f23 := ⟨Tryz.f152.name, by decide, Tryz.func152.trans (congrArg some (by kernel_rfl))⟩
  f24 := ⟨Tryz.f153.name, by decide, Tryz.func153.trans (congrArg some (by kernel_rfl))⟩
  f25 := ⟨Tryz.f154.name, by decide, Tryz.func154.trans (congrArg some (by kernel_rfl))⟩
  f26 := ⟨Tryz.f155.name, by decide, Tryz.func155.trans (congrArg some (by kernel_rfl))⟩
  f27 := ⟨Tryz.f156.name, by decide, Tryz.func156.trans (congrArg some (by kernel_rfl))⟩
  f28 := Tryz.func157.trans (congrArg some (by kernel_rfl))
  f29 := Tryz.func158.trans (congrArg some (by kernel_rfl))
  f46 := ⟨Tryz.f187.name, by decide, Tryz.func187.trans (congrArg some (by kernel_rfl))⟩
  f47 := Tryz.func188.trans (congrArg some (by kernel_rfl))
  f48 := Tryz.func189.trans (congrArg some (by kernel_rfl))
  f49 := ⟨Tryz.f190.name, by decide, Tryz.func190.trans (congrArg some (by kernel_rfl))⟩
  f50 := ⟨Tryz.f191.name, by decide, Tryz.func191.trans (congrArg some (by kernel_rfl))⟩
  f57 := ⟨Tryz.f221.name, by decide, Tryz.func221.trans (congrArg some (by kernel_rfl))⟩
  t0 := Tryz.underlying0
  a0 := Tryz.isAgg0
  z0 := Tryz.sizeOf0
  v0 := Tryz.zeroValue0
  t3 := Tryz.underlying3
  a3 := Tryz.isAgg3
  z3 := Tryz.sizeOf3
  v3 := Tryz.zeroValue3
  t4 := Tryz.underlying4
  a4 := Tryz.isAgg4
  z4 := Tryz.sizeOf4
  v4 := Tryz.zeroValue4
  t5 := Tryz.underlying5
  a5 := Tryz.isAgg5
  z5 := Tryz.sizeOf5
  v5 := Tryz.zeroValue5
  t9 := Tryz.underlying9
  a9 := Tryz.isAgg9
  z9 := Tryz.sizeOf9
  v9 := Tryz.zeroValue9
  t22 := Tryz.underlying26
  a22 := Tryz.isAgg26
  z22 := Tryz.sizeOf26
  v22 := Tryz.zeroValue26
  t25 := Tryz.underlying121
  a25 := Tryz.isAgg121
  z25 := Tryz.sizeOf121
  v25 := Tryz.zeroValue121
  t39 := Tryz.underlying179
  a39 := Tryz.isAgg179
  z39 := Tryz.sizeOf179
  v39 := Tryz.zeroValue179
  t45 := Tryz.underlying241
  a45 := Tryz.isAgg241
  z45 := Tryz.sizeOf241
  v45 := Tryz.zeroValue241
  t46 := Tryz.underlying242
  a46 := Tryz.isAgg242
  z46 := Tryz.sizeOf242
  v46 := Tryz.zeroValue242
  t50 := Tryz.underlying246
  a50 := Tryz.isAgg246
  z50 := Tryz.sizeOf246
  v50 := Tryz.zeroValue246
  t53 := Tryz.underlying249
  a53 := Tryz.isAgg249
  z53 := Tryz.sizeOf249
  v53 := Tryz.zeroValue249
  t55 := Tryz.underlying251
  a55 := Tryz.isAgg251
  z55 := Tryz.sizeOf251
  v55 := Tryz.zeroValue251
  t66 := Tryz.underlying295
  a66 := Tryz.isAgg295
  z66 := Tryz.sizeOf295
  v66 := Tryz.zeroValue295
  t70 := Tryz.underlying299
  a70 := Tryz.isAgg299
  z70 := Tryz.sizeOf299
  v70 := Tryz.zeroValue299
  t76 := Tryz.underlying335
  a76 := Tryz.isAgg335
  z76 := Tryz.sizeOf335
  v76 := Tryz.zeroValue335
  t77 := Tryz.underlying336
  a77 := Tryz.isAgg336
  z77 := Tryz.sizeOf336
  v77 := Tryz.zeroValue336 }
end Go.Proofs.YtlfijfodklhplaaGreat
/- Walk of reach, at a node that is new. -/
namespace Go.Proofs.YtlfijfodklhplaaGreat
open Go.RowKit
set_option linter.unusedVariables false
set_option linter.unusedSimpArgs false

set_option maxRecDepth 100000 in
set_option maxHeartbeats 400000 in
theorem reach_new (ex : Nat → Prop) (W0 w : World) (gb cp : Nat) (sa : Option Addr) (es : List Ed) (R : Nat → Bool) (cnt : Nat) (a : Option Addr) (n c : Nat) (L : List Th) (k : Nat) (h : Gw ex W0 w gb (.slice sa es.length cp) R cnt a n c L) (hk : k < 10) (hR : R k = false)
    (hsl : ESl W0 sa es) (hsx : ∀ bb bo, 0 < es.length → sa = some ⟨bb, bo, none⟩ → ¬ ex bb) (hes : es.length ≤ 30) (hn : (n : Int) < 1000) (hcnt : (cnt : Int) < 1000) :
    Calls Tryz.prog 102 #[.pointer (some ⟨gb, 0, none⟩), .int .i64 (k : Int)] w fun r w' => r = .returned (.tuple #[]) ∧ ∃ a' n' c' L', Gw ex W0 w' gb (.slice sa es.length cp) (mark R k) (cnt + 1) a' n' c' L' ∧
      n' ≤ n + es.length ∧ ∀ x, x ∈ L' ↔ x ∈ L ∨ touch es (k : Int) x := by
  have hc := h.heap.blk.cell (1 + k)
  rw [gcs_get _ _ _ _ _ hk, hR] at hc
  have hf := h.heap.blk.frozen (1 + k)
  have hc0 := h.heap.blk.cell 0
  have hc11 := h.heap.blk.cell 11
  have hf11 := h.heap.blk.frozen 11
  simp [gcs] at hc0 hc11
  have hkI : (k : Int) < 10 := by omega
  have hk11 : ¬ (1 + k = 11) := by omega
  have hk0 : ¬ (1 + k = 0) := by omega
  have HG : Unit → Gw ex W0 w gb (.slice sa es.length cp) R cnt a n c L := fun _ => h
  have HB : Unit → ESl W0 sa es ∧ es.length ≤ 30 ∧ (n : Int) < 1000 ∧ (cnt : Int) < 1000 ∧ k < 10 := fun _ => ⟨hsl, hes, hn, hcnt, hk⟩
  have HSX : Unit → ∀ bb bo, 0 < es.length → sa = some ⟨bb, bo, none⟩ → ¬ ex bb := fun _ => hsx
  have hwc : wrap64 ((cnt : Int) + 1) = (cnt : Int) + 1 := by unfold wrap64; omega
  clear h hR hsl hes hn hcnt hsx
  go_enter Tryz.func102, Tryz.ntmps102
  go_wp2_with fail
  try simp only [hwc]
  clear hwc
  obtain ⟨W1, hW1⟩ : ∃ W1, W1 = (w.setCell ⟨gb, 1 + k, none⟩ (.bool true)).setCell ⟨gb, 11, none⟩ (.int .i64 ((cnt : Int) + 1)) := ⟨_, rfl⟩
  rw [← hW1]
  have HG1 : Unit → Gw ex W0 W1 gb (.slice sa es.length cp) (mark R k) (cnt + 1) a n c L := fun _ => by rw [hW1]; exact (HG ()).mark k (HB ()).2.2.2.2
  clear hW1 hc hf hc0 hc11 hf11
  go_loopw [29] (fun v wr => ∃ (i : Nat) (a' : Option Addr) (n' c' : Nat) (L' : List Th), i ≤ es.length ∧ v = .int .i64 (i : Int) ∧ Gw ex W0 wr gb (.slice sa es.length cp) (mark R k) (cnt + 1) a' n' c' L' ∧ n' ≤ n + i ∧ ∀ x, x ∈ L' ↔ x ∈ L ∨ touch (es.take i) (k : Int) x) (fun v _ => es.length - (intOf v).toNat)
  case atStart => exact ⟨0, a, n, c, L, by omega, rfl, HG1 (), by omega, fun x => ⟨Or.inl, fun h => h.elim id (fun ⟨e, he, _⟩ => by simp at he)⟩⟩
  case round =>
    obtain ⟨i, a', n', c', L', hi, rfl, hg, hn', hmem⟩ := hrel
    have HR : Unit → Gw ex W0 wr gb (.slice sa es.length cp) (mark R k) (cnt + 1) a' n' c' L' ∧ n' ≤ n + i ∧ ∀ x, x ∈ L' ↔ x ∈ L ∨ touch (es.take i) (k : Int) x := fun _ => ⟨hg, hn', hmem⟩
    clear hg hn' hmem
    by_cases hil : i < es.length
    · obtain ⟨e, he⟩ : ∃ e, es[i]? = some e := ⟨_, List.getElem?_eq_getElem hil⟩
      obtain ⟨bb, bo, rfl, hbb, hrow⟩ := (HB ()).1.some hil
      obtain ⟨q0, q1, q2⟩ := erow_get (hrow.keep (HR ()).1.keep hbb (HSX () _ _ (by omega) rfl)) i e he
      have hbw : bb < wr.heap.size := Nat.lt_of_lt_of_le hbb (HR ()).1.keep.size
      have hiI : (i : Int) < (es.length : Int) := by omega
      have hwi : (i : Int) < 1000 := by have := HB (); omega
      obtain ⟨ea, eb, ew⟩ := e
      simp only at q0 q1 q2
      have HE : Unit → es[i]? = some ⟨ea, eb, ew⟩ := fun _ => he
      clear he hrow hbb
      by_cases h1 : ea = (k : Int)
      · as_aux_lemma =>
        subst h1
        have HM : Unit → ∀ x, touch (es.take (i + 1)) (k : Int) x ↔ touch (es.take i) (k : Int) x ∨ x = ⟨⟨(k : Int), eb, ew⟩, ew⟩ := fun _ x => by
          rw [touch_succ (HE ())]
          exact ⟨fun h => h.imp id (fun h => h.2), fun h => h.imp id (fun h => ⟨Or.inl rfl, h⟩)⟩
        go_wp2_with fail
        obtain ⟨W2, hW2⟩ : ∃ W2, W2 = wr.alloc (.cells #[.int .i64 (k : Int), .int .i64 eb, .int .i64 ew] 30) := ⟨_, rfl⟩
        have hbx : Blk W2 wr.heap.size #[.int .i64 (k : Int), .int .i64 eb, .int .i64 ew] 30 := by rw [hW2]; exact Blk.new _ _ _
        have hk2 : Keep nil wr W2 := by rw [hW2]; exact (Keep.refl nil wr).alloc _
        rw [← hW2]
        obtain ⟨xb, hxb⟩ : ∃ xb, xb = wr.heap.size := ⟨_, rfl⟩
        rw [← hxb] at hbx ⊢
        have z0 := hbx.cell 0
        have z1 := hbx.cell 1
        have z2 := hbx.cell 2
        simp at z0 z1 z2
        have HG2 : Unit → Gw ex W0 W2.drew gb (.slice (some ⟨bb, bo, none⟩) es.length cp) (mark R k) (cnt + 1) a' n' c' L' := fun _ => (HR ()).1.same hk2.drew
        clear hW2 hbx hxb q0 q1 q2
        have HA : Unit → Calls Tryz.prog 147 #[.pointer (some ⟨gb, 12, none⟩), .agg #[.int .i64 (k : Int), .int .i64 eb, .int .i64 ew], .int .i64 ew] W2.drew fun r w' => r = .returned (.tuple #[]) ∧ HeapTo W2.drew w' gb 12 (gcs (.slice (some ⟨bb, bo, none⟩) es.length cp) (mark R k) (cnt + 1) (.slice a' n' c')) 174 a' (fun L'' => SameT L'' (L' ++ [⟨⟨(k : Int), eb, ew⟩, ew⟩])) := fun _ => add_any gb 12 _ 174 a' n' c' L' ⟨(k : Int), eb, ew⟩ ew W2.drew (HG2 ()).heap (by have := (HR ()).2.1; have := HB (); omega)
        go_still_tail 6, (by kernel_rfl)
        go_wp2_with fail
        refine (HA ()).mono ?_
        rintro r w3 ⟨rfl, h3⟩
        obtain ⟨a2, n2, c2, L2, hg2, hs2⟩ := (HG2 ()).to h3
        have HP : Unit → Gw ex W0 w3 gb (.slice (some ⟨bb, bo, none⟩) es.length cp) (mark R k) (cnt + 1) a2 n2 c2 L2 ∧ SameT L2 (L' ++ [⟨⟨(k : Int), eb, ew⟩, ew⟩]) := fun _ => ⟨hg2, hs2⟩
        clear h3 hg2 hs2 HA z0 z1 z2
        go_wp2
        go_roundw
        case rel =>
          refine ⟨i + 1, a2, n2, c2, L2, by omega, by go_num, (HP ()).1, ?_, fun x => ?_⟩
          · have h1 := (HP ()).1.heap.len
            have h2 := (HP ()).2.1
            have h3 := (HR ()).1.heap.len
            have h4 := (HR ()).2.1
            rw [List.length_append] at h2
            simp at h2
            omega
          · rw [(HP ()).2.2 x, List.mem_append, (HR ()).2.2 x, HM () x, or_assoc]
            simp
        case measure => simp [intOf]; omega
      · by_cases h2 : eb = (k : Int)
        · as_aux_lemma =>
          subst h2
          have HM : Unit → ∀ x, touch (es.take (i + 1)) (k : Int) x ↔ touch (es.take i) (k : Int) x ∨ x = ⟨⟨ea, (k : Int), ew⟩, ew⟩ := fun _ x => by
            rw [touch_succ (HE ())]
            exact ⟨fun h => h.imp id (fun h => h.2), fun h => h.imp id (fun h => ⟨Or.inr rfl, h⟩)⟩
          go_wp2_with fail
          clear h1
          obtain ⟨W2, hW2⟩ : ∃ W2, W2 = wr.alloc (.cells #[.int .i64 ea, .int .i64 (k : Int), .int .i64 ew] 30) := ⟨_, rfl⟩
          have hbx : Blk W2 wr.heap.size #[.int .i64 ea, .int .i64 (k : Int), .int .i64 ew] 30 := by rw [hW2]; exact Blk.new _ _ _
          have hk2 : Keep nil wr W2 := by rw [hW2]; exact (Keep.refl nil wr).alloc _
          rw [← hW2]
          obtain ⟨xb, hxb⟩ : ∃ xb, xb = wr.heap.size := ⟨_, rfl⟩
          rw [← hxb] at hbx ⊢
          have z0 := hbx.cell 0
          have z1 := hbx.cell 1
          have z2 := hbx.cell 2
          simp at z0 z1 z2
          have HG2 : Unit → Gw ex W0 W2.drew gb (.slice (some ⟨bb, bo, none⟩) es.length cp) (mark R k) (cnt + 1) a' n' c' L' := fun _ => (HR ()).1.same hk2.drew
          clear hW2 hbx hxb q0 q1 q2
          have HA : Unit → Calls Tryz.prog 147 #[.pointer (some ⟨gb, 12, none⟩), .agg #[.int .i64 ea, .int .i64 (k : Int), .int .i64 ew], .int .i64 ew] W2.drew fun r w' => r = .returned (.tuple #[]) ∧ HeapTo W2.drew w' gb 12 (gcs (.slice (some ⟨bb, bo, none⟩) es.length cp) (mark R k) (cnt + 1) (.slice a' n' c')) 174 a' (fun L'' => SameT L'' (L' ++ [⟨⟨ea, (k : Int), ew⟩, ew⟩])) := fun _ => add_any gb 12 _ 174 a' n' c' L' ⟨ea, (k : Int), ew⟩ ew W2.drew (HG2 ()).heap (by have := (HR ()).2.1; have := HB (); omega)
          go_still_tail 6, (by kernel_rfl)
          go_wp2_with fail
          refine (HA ()).mono ?_
          rintro r w3 ⟨rfl, h3⟩
          obtain ⟨a2, n2, c2, L2, hg2, hs2⟩ := (HG2 ()).to h3
          have HP : Unit → Gw ex W0 w3 gb (.slice (some ⟨bb, bo, none⟩) es.length cp) (mark R k) (cnt + 1) a2 n2 c2 L2 ∧ SameT L2 (L' ++ [⟨⟨ea, (k : Int), ew⟩, ew⟩]) := fun _ => ⟨hg2, hs2⟩
          clear h3 hg2 hs2 HA z0 z1 z2
          go_wp2
          go_roundw
          case rel =>
            refine ⟨i + 1, a2, n2, c2, L2, by omega, by go_num, (HP ()).1, ?_, fun x => ?_⟩
            · have h1 := (HP ()).1.heap.len
              have h2 := (HP ()).2.1
              have h3 := (HR ()).1.heap.len
              have h4 := (HR ()).2.1
              rw [List.length_append] at h2
              simp at h2
              omega
            · rw [(HP ()).2.2 x, List.mem_append, (HR ()).2.2 x, HM () x, or_assoc]
              simp
          case measure => simp [intOf]; omega
        · as_aux_lemma =>
          have HM : Unit → ∀ x, touch (es.take (i + 1)) (k : Int) x ↔ touch (es.take i) (k : Int) x := fun _ x => by
            rw [touch_succ (HE ())]
            exact ⟨fun h => h.elim id (fun h => (h.1.elim h1 h2).elim), Or.inl⟩
          go_wp2_with fail
          · rename_i h; simp [h1, h2] at h
          · clear h1 h2
            go_roundw
            case rel => exact ⟨i + 1, a', n', c', L', by omega, by go_num, (HR ()).1.same ((Keep.refl nil wr).alloc _), by have := (HR ()).2.1; omega, fun x => by rw [HM ()]; exact (HR ()).2.2 x⟩
            case measure => simp [intOf]; omega
    · have ei : i = es.length := by omega
      subst ei
      go_wp2
      go_end0
      refine ⟨rfl, a', n', c', L', (HR ()).1, (HR ()).2.1, fun x => ?_⟩
      have := (HR ()).2.2 x
      rwa [List.take_length] at this
end Go.Proofs.YtlfijfodklhplaaGreat
