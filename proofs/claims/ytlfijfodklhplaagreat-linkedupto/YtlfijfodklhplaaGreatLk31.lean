import Derived.Test.YtlfijfodklhplaaGreatLk30
import Derived.Test.YtlfijfodklhplaaGreatRows
import Derived.ProofKit
import Derived.ChangeSlices
import Derived.SizedLaws
import Derived.Deep.Slices
/- Framed: the row. -/
namespace Go.Proofs.YtlfijfodklhplaaGreat
open Go.ChangeShapes Go.WideShapes Go.ChangeAt Go.RowKit Go.Deep
set_option linter.unusedVariables false
set_option linter.unusedSimpArgs false
theorem framed_own : ownKnob Tryz.prog.godebug = none := by kernel_rfl
theorem framed_laid : laidOutB Tryz.prog = true := by kernel_rfl
theorem op_cells : Tryz.prog.cellsOf 80 = 12 := by kernel_rfl
theorem op_bytes : Tryz.prog.bytesOf 80 = 128 := by kernel_rfl
theorem edge_cells : Tryz.prog.cellsOf 30 = 3 := by kernel_rfl
theorem edge_bytes : Tryz.prog.bytesOf 30 = 24 := by kernel_rfl
theorem u8_cells : Tryz.prog.cellsOf 5 = 1 := by kernel_rfl
theorem u8_bytes : Tryz.prog.bytesOf 5 = 1 := by kernel_rfl
theorem int_cells : Tryz.prog.cellsOf 3 = 1 := by kernel_rfl
theorem bool_cells : Tryz.prog.cellsOf 4 = 1 := by kernel_rfl
theorem edges_cells : Tryz.prog.cellsOf 26 = 1 := by kernel_rfl
theorem bytes_cells : Tryz.prog.cellsOf 56 = 1 := by kernel_rfl
theorem frame_cells : Tryz.prog.cellsOf 78 = 6 := by kernel_rfl
theorem msg_cells : Tryz.prog.cellsOf 76 = 4 := by kernel_rfl

theorem erow_mk {w : World} {b o : Nat} {l : List Ed} (h : ∀ k e, l[k]? = some e → w.cell? ⟨b, o + k * 3, none⟩ = some (.int .i64 e.a) ∧ w.cell? ⟨b, o + k * 3 + 1, none⟩ = some (.int .i64 e.b) ∧ w.cell? ⟨b, o + k * 3 + 2, none⟩ = some (.int .i64 e.wt)) : ERow w b o l := by
  intro j u hu
  have hj := (List.getElem?_eq_some_iff.1 hu).1
  rw [ecells_len] at hj
  have hk : j / 3 < l.length := by omega
  have he : l[j / 3]? = some l[j / 3] := List.getElem?_eq_getElem hk
  obtain ⟨c0, c1, c2⟩ := h _ _ he
  obtain ⟨g0, g1, g2⟩ := ecells_get l _ _ he
  rcases (show j = j / 3 * 3 ∨ j = j / 3 * 3 + 1 ∨ j = j / 3 * 3 + 2 by omega) with e | e | e
  · rw [← e, hu] at g0
    rw [← e] at c0
    rw [c0, g0]
  · rw [← e, hu] at g1
    rw [Nat.add_assoc, ← e] at c1
    rw [c1, g1]
  · rw [← e, hu] at g2
    rw [Nat.add_assoc, ← e] at c2
    rw [c2, g2]

theorem mem_weightsAll {H : Type} {P : Program} {e : TypeId} {d : DataW H} : ∀ {l : List (DataW H)}, d ∈ l → ∀ x ∈ d.weights P e, x ∈ DataW.weightsAll P e l
  | [], h, _, _ => by cases h
  | y :: r, h, x, hx => by
    simp only [DataW.weightsAll, List.mem_append]
    rcases List.mem_cons.1 h with rfl | h
    · exact Or.inl hx
    · exact Or.inr (mem_weightsAll h x hx)

set_option maxRecDepth 100000 in
/-- The edges that a slice of them reads. -/
theorem edges_of {H : Type} {enc : TypeId × Value → H} {W : World} {fuel : Nat} {cs : List Value} {d : DataW H} {pl : List MemPlace}
    (h : DataW.trod enc Tryz.prog W 0 (fun _ => true) true fuel 26 cs = some (d, pl)) (hw : ∀ x ∈ d.weights Tryz.prog 26, x ≤ reachBytes) :
    ∃ (sa : Option Addr) (es : List Ed) (cp : Nat), cs = [.slice sa es.length cp] ∧ ((sa = none ∧ es = [] ∧ cp = 0) ∨ ∃ ad, sa = some ad ∧ ESl W (some ad) es ∧ (es.length : Int) ≤ 5864062014700) := by
  rcases open_slice Tryz.underlying26 h with ⟨hc, _⟩ | ⟨a, len, cap, m, k, D, Pl, hc, _, hl, hm, hmm, hx, hall⟩
  · exact ⟨none, [], 0, hc, Or.inl ⟨rfl, rfl, rfl⟩⟩
  · simp only [if_true] at hmm
    subst hmm
    have hd := congrArg Prod.fst hx
    simp only at hd
    have hb : (len + (m - len)) * 24 ≤ reachBytes := by
      refine hw _ ?_
      rw [hd]
      unfold DataW.weights
      rw [Tryz.underlying26]
      simp [edge_bytes]
    have hel : ∀ i, i < len → ∃ e : Ed, W.cell? ((a.add (i * 3)).add 0) = some (.int .i64 e.a) ∧ W.cell? ((a.add (i * 3)).add 1) = some (.int .i64 e.b) ∧ W.cell? ((a.add (i * 3)).add 2) = some (.int .i64 e.wt) := by
      intro i hi
      obtain ⟨cs', h1, h2⟩ := hall i (by omega)
      rw [edge_cells] at h1
      obtain ⟨_, hlen, hcell⟩ := World.cells?_some h1
      obtain ⟨xs, k', hk, hxy, _, hxl, hf⟩ := DataW.trod_struct Tryz.underlying30 h2
      match xs, hxl, cs', hlen with
      | [y0, y1, y2], _, [v0, v1, v2], _ =>
        have g0 := hf 0 _ rfl
        have g1 := hf 1 _ rfl
        have g2 := hf 2 _ rfl
        simp [int_cells] at g0 g1 g2
        obtain ⟨z0, e0, _, b0⟩ := DataW.trod_int Tryz.underlying3 g0
        obtain ⟨z1, e1, _, b1⟩ := DataW.trod_int Tryz.underlying3 g1
        obtain ⟨z2, e2, _, b2⟩ := DataW.trod_int Tryz.underlying3 g2
        simp at e0 e1 e2
        subst e0 e1 e2
        have c0 := hcell 0 (by omega)
        have c1 := hcell 1 (by omega)
        have c2 := hcell 2 (by omega)
        simp only [List.getElem?_cons_zero, List.getElem?_cons_succ] at c0 c1 c2
        exact ⟨⟨z0, z1, z2⟩, c0, c1, c2⟩
    have : Inhabited Ed := ⟨⟨0, 0, 0⟩⟩
    obtain ⟨V, hV⟩ := choose_lt hel
    refine ⟨some a, (List.range len).map V, m, by rw [hc]; simp, Or.inr ⟨a, rfl, ?_, ?_⟩⟩
    · by_cases h0 : len = 0
      · subst h0; exact Or.inl rfl
      · obtain ⟨ab, ao, spot⟩ := a
        have hspot : spot = none := by
          have := World.cell?_spot (hV 0 (by omega)).1
          simpa [Addr.add] using this
        subst hspot
        simp only [Addr.add_lit] at hV
        refine Or.inr ⟨ab, ao, rfl, World.block_lt_of_cell? W _ (hV 0 (by omega)).1, erow_mk (fun k e hk => ?_)⟩
        have hkl := (List.getElem?_eq_some_iff.1 hk).1
        simp at hkl
        rw [List.getElem?_map, List.getElem?_range hkl] at hk
        simp at hk
        subst hk
        exact hV k hkl
    · have : reachBytes = 140737488351232 := rfl
      simp
      omega
/-- The bytes that a slice of them reads. -/
theorem bytes_of {H : Type} {enc : TypeId × Value → H} {W : World} {fuel : Nat} {cs : List Value} {d : DataW H} {pl : List MemPlace}
    (h : DataW.trod enc Tryz.prog W 0 (fun _ => true) true fuel 56 cs = some (d, pl)) (hw : ∀ x ∈ d.weights Tryz.prog 56, x ≤ reachBytes) :
    ∃ (sa : Option Addr) (ds : List Nat) (cp : Nat), cs = [.slice sa ds.length cp] ∧ ((sa = none ∧ ds = [] ∧ cp = 0) ∨ ∃ ad, sa = some ad ∧ BSl W ad ds ∧ (ds.length : Int) ≤ 140737488351232 ∧ (∀ x ∈ ds, x < 256) ∧ ds.length ≤ cp) := by
  rcases open_slice1 Tryz.underlying56 u8_cells h with ⟨hc, _⟩ | ⟨a, len, cap, m, k, V0, D, Pl, hc, _, hl, hm, hmm, hx, hall⟩
  · exact ⟨none, [], 0, hc, Or.inl ⟨rfl, rfl, rfl⟩⟩
  · simp only [if_true] at hmm
    subst hmm
    have hd := congrArg Prod.fst hx
    simp only at hd
    have hb : (len + (m - len)) * 1 ≤ reachBytes := by
      refine hw _ ?_
      rw [hd]
      unfold DataW.weights
      rw [Tryz.underlying56]
      simp [u8_bytes]
    have hel : ∀ i, i < len → ∃ x : Nat, W.cell? (a.add i) = some (.int .u8 (x : Int)) ∧ x < 256 := by
      intro i hi
      obtain ⟨h1, h2⟩ := hall i (by omega)
      obtain ⟨z, e, _, b⟩ := DataW.trod_int Tryz.underlying5 h2
      simp at e
      rw [e] at h1
      simp [Lit.wf, IntKind.min, IntKind.max, IntKind.bits, IntKind.signed] at b
      refine ⟨z.toNat, ?_, by omega⟩
      rw [show ((z.toNat : Nat) : Int) = z by omega]
      exact h1
    obtain ⟨V, hV⟩ := choose_lt hel
    have hr : reachBytes = 140737488351232 := rfl
    refine ⟨some a, (List.range len).map V, m, by rw [hc]; simp, Or.inr ⟨a, rfl, ?_, by simp; omega, ?_, by simp; omega⟩⟩
    · by_cases h0 : len = 0
      · subst h0; exact Or.inl rfl
      · obtain ⟨ab, ao, spot⟩ := a
        have hspot : spot = none := by
          have := World.cell?_spot (hV 0 (by omega)).1
          simpa [Addr.add] using this
        subst hspot
        simp only [Addr.add_lit] at hV
        refine Or.inr ⟨ab, ao, rfl, World.block_lt_of_cell? W _ (hV 0 (by omega)).1, fun i hi => ?_⟩
        simp at hi
        simp only [List.getElem_map, List.getElem_range]
        exact (hV i hi).1
    · intro x hx
      simp at hx
      obtain ⟨i, hi, rfl⟩ := hx
      exact (hV i hi).2
set_option maxRecDepth 100000 in
theorem op_of {H : Type} {enc : TypeId × Value → H} {W : World} {fuel : Nat} {cs : List Value} {d : DataW H} {pl : List MemPlace}
    (h : DataW.trod enc Tryz.prog W 0 (fun _ => true) true fuel 80 cs = some (d, pl)) (hl : cs.length = 12) (hw : ∀ x ∈ d.weights Tryz.prog 80, x ≤ reachBytes) :
    ∃ o : OpD, cs = o.cells ∧ o.ok W := by
  obtain ⟨xs, k', hk, hxy, _, hxl, hf⟩ := DataW.trod_struct Tryz.underlying80 h
  simp only [Prod.mk.injEq] at hxy
  match xs, hxl, cs, hl with
  | [y0, y1, y2, y3, y4, y5, y6], _, [v0, v1, v2, v3, v4, v5, v6, v7, v8, v9, v10, v11], _ =>
    have g0 := hf 0 _ rfl
    have g1 := hf 1 _ rfl
    have g2 := hf 2 _ rfl
    have g3 := hf 3 _ rfl
    have g4 := hf 4 _ rfl
    have g5 := hf 5 _ rfl
    have g6 := hf 6 _ rfl
    simp [int_cells, edges_cells, frame_cells, bytes_cells] at g0 g1 g2 g3 g4 g5 g6
    obtain ⟨z0, e0, _, _⟩ := DataW.trod_int Tryz.underlying3 g0
    obtain ⟨z1, e1, _, _⟩ := DataW.trod_int Tryz.underlying3 g1
    obtain ⟨z2, e2, _, _⟩ := DataW.trod_int Tryz.underlying3 g2
    obtain ⟨z3, e3, _, _⟩ := DataW.trod_int Tryz.underlying3 g3
    simp at e0 e1 e2 e3
    subst e0 e1 e2 e3
    have hd : d = .agg [y0.1, y1.1, y2.1, y3.1, y4.1, y5.1, y6.1] := hxy.1
    have hwE : ∀ x ∈ y4.1.weights Tryz.prog 26, x ≤ reachBytes := fun x hx => hw x (by
      rw [hd]
      unfold DataW.weights
      rw [Tryz.underlying80]
      exact DataW.weights_mem_each (j := 4) rfl rfl x hx)
    have hwD : ∀ x ∈ y6.1.weights Tryz.prog 56, x ≤ reachBytes := fun x hx => hw x (by
      rw [hd]
      unfold DataW.weights
      rw [Tryz.underlying80]
      exact DataW.weights_mem_each (j := 6) rfl rfl x hx)
    obtain ⟨ea, es, ec, hce, hE⟩ := edges_of g4 hwE
    obtain ⟨da, ds, dc, hcd, hD⟩ := bytes_of g6 hwD
    simp at hce hcd
    subst hce hcd
    obtain ⟨xs2, k2, _, _, _, hxl2, hf2⟩ := DataW.trod_struct Tryz.underlying78 g5
    match xs2, hxl2 with
    | [a0, a1, a2], _ =>
      have m0 := hf2 0 _ rfl
      have m1 := hf2 1 _ rfl
      have m2 := hf2 2 _ rfl
      simp [int_cells, bool_cells, msg_cells] at m0 m1 m2
      obtain ⟨b0, q0, _⟩ := DataW.trod_bool Tryz.underlying4 m0
      obtain ⟨b1, q1, _, _⟩ := DataW.trod_int Tryz.underlying3 m1
      simp at q0 q1
      subst q0 q1
      obtain ⟨xs3, k3, _, _, _, hxl3, hf3⟩ := DataW.trod_struct Tryz.underlying76 m2
      match xs3, hxl3 with
      | [c0, c1, c2, c3], _ =>
        have n0 := hf3 0 _ rfl
        have n1 := hf3 1 _ rfl
        have n2 := hf3 2 _ rfl
        have n3 := hf3 3 _ rfl
        simp [int_cells, bool_cells] at n0 n1 n2 n3
        obtain ⟨w0, r0, _, _⟩ := DataW.trod_int Tryz.underlying3 n0
        obtain ⟨w1, r1, _, _⟩ := DataW.trod_int Tryz.underlying3 n1
        obtain ⟨w2, r2, _, _⟩ := DataW.trod_int Tryz.underlying3 n2
        obtain ⟨w3, r3, _⟩ := DataW.trod_bool Tryz.underlying4 n3
        simp at r0 r1 r2 r3
        subst r0 r1 r2 r3
        exact ⟨⟨z0, z1, z2, z3, ea, es, ec, b0, b1, w0, w1, w2, w3, da, ds, dc⟩, rfl, ⟨hE, hD⟩⟩

theorem orow_mk {w : World} {b o : Nat} {l : List OpD} (h : ∀ k x, l[k]? = some x → ∀ j, j < 12 → w.cell? ⟨b, o + k * 12 + j, none⟩ = x.cells[j]?) : ORow w b o l := by
  intro j u hu
  have hol : ∀ l : List OpD, (ocells l).length = l.length * 12 := fun l => by
    induction l with
    | nil => rfl
    | cons e t ih =>
      have hc : ocells (e :: t) = e.cells ++ ocells t := by simp [ocells]
      rw [hc, List.length_append, ih, List.length_cons]
      have : e.cells.length = 12 := rfl
      omega
  have hj := (List.getElem?_eq_some_iff.1 hu).1
  rw [hol] at hj
  have hk : j / 12 < l.length := by omega
  have he : l[j / 12]? = some l[j / 12] := List.getElem?_eq_getElem hk
  have hm : j % 12 < 12 := by omega
  have hl12 : (l[j / 12]).cells.length = 12 := rfl
  have hx : (l[j / 12]).cells[j % 12]? = some ((l[j / 12]).cells[j % 12]'(by omega)) := List.getElem?_eq_getElem _
  have g := ocells_get l _ _ he _ _ hx
  have c := h _ _ he _ hm
  rw [show j / 12 * 12 + j % 12 = j by omega, hu] at g
  rw [Nat.add_assoc, show j / 12 * 12 + j % 12 = j by omega] at c
  rw [c, hx, g]

/-- The script that a slice of steps reads. -/
theorem ops_of {H : Type} {enc : TypeId × Value → H} {W : World} {fuel : Nat} {sa : Option Addr} {n cp : Nat} {d : DataW H} {pl : List MemPlace}
    (h : DataW.trod enc Tryz.prog W 0 (fun _ => true) true fuel 22 [.slice sa n cp] = some (d, pl)) (hw : ∀ x ∈ d.weights Tryz.prog 22, x ≤ reachBytes) :
    ∃ l : List OpD, l.length = n ∧ OpsAt W sa l ∧ (l.length : Int) < 1099511627750 := by
  rcases open_slice Tryz.underlying22 h with ⟨hc, _⟩ | ⟨a, len, cap, m, k, D, Pl, hc, _, hl, hm, hmm, hx, hall⟩
  · simp at hc
    obtain ⟨rfl, rfl, rfl⟩ := hc
    exact ⟨[], rfl, ⟨Or.inl rfl, fun o ho => by cases ho⟩, by decide⟩
  · simp at hc
    obtain ⟨rfl, rfl, rfl⟩ := hc
    simp only [if_true] at hmm
    subst hmm
    have hd := congrArg Prod.fst hx
    simp only at hd
    have hwd : ∀ x, x ∈ ((n + (m - n)) * 128 :: (DataW.weightsAll Tryz.prog 80 ((List.range n).map D) ++ DataW.weightsAll Tryz.prog 80 ((List.range (m - n)).map fun j => D (n + j)))) → x ≤ reachBytes := by
      intro x hx'
      refine hw x ?_
      rw [hd]
      unfold DataW.weights
      rw [Tryz.underlying22]
      simpa [op_bytes] using hx'
    have hb : (n + (m - n)) * 128 ≤ reachBytes := hwd _ (by simp)
    have hr : reachBytes = 140737488351232 := rfl
    have hel : ∀ i, i < n → ∃ o : OpD, o.ok W ∧ ∀ j, j < 12 → W.cell? ((a.add (i * 12)).add j) = o.cells[j]? := by
      intro i hi
      obtain ⟨cs', h1, h2⟩ := hall i (by omega)
      rw [op_cells] at h1
      obtain ⟨_, hlen, hcell⟩ := World.cells?_some h1
      obtain ⟨o, ho, hok⟩ := op_of h2 hlen (fun x hx' => hwd x (by
        refine List.mem_cons_of_mem _ (List.mem_append_left _ (mem_weightsAll (List.mem_map.2 ⟨i, by simpa using hi, rfl⟩) x hx')))
      )
      exact ⟨o, hok, fun j hj => by rw [← ho]; exact hcell j hj⟩
    have : Inhabited OpD := ⟨op0 0 0 0 0⟩
    obtain ⟨V, hV⟩ := choose_lt hel
    refine ⟨(List.range n).map V, by simp, ⟨?_, fun o ho => ?_⟩, by simp; omega⟩
    · by_cases h0 : n = 0
      · subst h0; exact Or.inl rfl
      · obtain ⟨ab, ao, spot⟩ := a
        have h00 := (hV 0 (by omega)).2 0 (by omega)
        have hx0 : (V 0).cells[0]? = some (.int .i64 (V 0).kd) := rfl
        rw [hx0] at h00
        have hspot : spot = none := by
          have := World.cell?_spot h00
          simpa [Addr.add] using this
        subst hspot
        simp only [Addr.add_lit] at hV h00
        refine Or.inr ⟨ab, ao, rfl, World.block_lt_of_cell? W _ h00, orow_mk (fun k e hk j hj => ?_)⟩
        have hkl := (List.getElem?_eq_some_iff.1 hk).1
        simp at hkl
        rw [List.getElem?_map, List.getElem?_range hkl] at hk
        simp at hk
        subst hk
        exact (hV k hkl).2 j hj
    · simp at ho
      obtain ⟨i, hi, rfl⟩ := ho
      exact (hV i hi).1

set_option maxRecDepth 100000 in
theorem framed_lifted (os : Os) (started : os.Started) (H : Type) (enc : TypeId × Value → H) :
    ReturnsInHanded {} Tryz.checked os 3 .any (Rows.framedSpec.pre6 enc Tryz.prog Tryz.f3 Rows.framedRow.domain false) (Rows.framedSpec.post enc Tryz.prog Tryz.f3 false true false false) := by
  refine returnsInHanded_of_change_sized (C := Tryz.checked) framed_own started (by kernel_rfl) Tryz.func3
    (ChangeSpec.witness6 (enc := enc) (C := Tryz.checked) false ⟨#[], #[.slice none 0 0], []⟩ 8 (by kernel_rfl) (by kernel_rfl) (by kernel_rfl) (by kernel_rfl)) ?_
  intro W base args ds gs before hval0 hW hcnd0 hsz _
  have hval : ∀ (j : Nat) t v, Tryz.f3.params[j]? = some t → args[j]? = some v → Value.okWide Tryz.prog W .any base t v := hval0
  have hW' := hW
  obtain ⟨p, q, hA0, hV, rfl, _, _⟩ := hW
  have hA : DataW.TrodAll enc Tryz.prog W 0 (fun _ => true) true Tryz.f3.params.toList args.toList ds p := hA0
  rw [Tryz.params3] at hA hval
  obtain ⟨v0, d0, rfl, rfl, h0⟩ := trodAll_one hA
  obtain ⟨rfl, rfl⟩ := trodVars_none hV
  have h0k := h0
  obtain ⟨fuel, hf⟩ := h0
  have hwt : ∀ x ∈ d0.weights Tryz.prog 22, x ≤ reachBytes := fun x hx => by
    have h1 : (DataW.weightsEach Tryz.prog (Tryz.f3.params.toList ++ Rows.framedSpec.plain.varTypes Tryz.prog) ([d0] ++ [])).all (· ≤ reachBytes) = true := hsz
    rw [Tryz.params3] at h1
    have h2 := List.all_eq_true.1 h1 x (DataW.weights_mem_each (j := 0) rfl rfl x hx)
    simpa using h2
  clear hA0 hval0
  simp only [List.append_nil] at hW'
  have hlt : ∀ x ∈ p, x.block < W.heap.size := fun x hx => by simpa using hW'.lt x hx
  obtain ⟨sa, n, cp, rfl⟩ := okWide_slice Tryz.underlying22 (hval 0 22 v0 rfl rfl)
  obtain ⟨l, rfl, hops, hlen⟩ := ops_of hf hwt
  refine (framed_any sa l cp W hops hlen).mono fun e W' ⟨he, hk⟩ => ?_
  subst he
  exact ⟨_, rfl, ⟨_, _, _, [], _, [], hW', trodAll_mk1 (shut_bool Tryz.underlying4 true), trodAll_mk1 (Below.trod framed_laid (by kernel_rfl) (of_decide_eq_true (by kernel_rfl)) h0k hk.below hlt), rfl, hk.below.frame _, fun h => by cases h⟩⟩

theorem framed_over : Rows.framedRow.holds Tryz.pinned (OpenSpec.ofChange Rows.framedSpec) :=
  OpenClaim.holds_of_wide 3 Tryz.f3 rfl rfl rfl rfl rfl rfl rfl ⟨rfl, rfl, rfl, rfl, rfl⟩ rfl rfl rfl rfl rfl (by kernel_rfl) Tryz.func3 (by kernel_rfl)
    (of_decide_eq_true (by kernel_rfl)) (by unfold Func.isWrapper; first | (rw [if_pos (by decide +kernel)]; kernel_rfl) | (rw [if_neg (by decide +kernel)]; exact ⟨rfl, rfl⟩))
    (fun os started H enc _ => framed_lifted os started H enc)

/-- The statement. -/
theorem framed_holds : Rows.FramedSaid :=
  framed_over
#print axioms framed_holds
end Go.Proofs.YtlfijfodklhplaaGreat
