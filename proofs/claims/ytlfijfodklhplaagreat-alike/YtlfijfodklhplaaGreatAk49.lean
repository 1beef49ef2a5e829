import Derived.Test.YtlfijfodklhplaaGreatAk48
import Derived.Test.YtlfijfodklhplaaGreatRows
import Derived.ProofKit
import Derived.ChangeSlices
import Derived.SizedLaws
import Derived.Deep.Slices
/- Alike: the row. -/
namespace Go.Proofs.YtlfijfodklhplaaGreat
open Go.ChangeShapes Go.WideShapes Go.ChangeAt Go.RowKit Go.Deep
set_option linter.unusedVariables false
set_option linter.unusedSimpArgs false
theorem alk_own : ownKnob Tryz.prog.godebug = none := by kernel_rfl
theorem alk_laid : laidOutB Tryz.prog = true := by kernel_rfl
theorem alk_step_cells : Tryz.prog.cellsOf 48 = 3 := by kernel_rfl
theorem alk_int_cells : Tryz.prog.cellsOf 3 = 1 := by kernel_rfl
theorem alk_int_bytes : Tryz.prog.bytesOf 3 = 8 := by kernel_rfl
theorem alk_bounds {a : Int} (h : (Lit.int .i64 a).wf = true) : -9223372036854775808 ≤ a ∧ a ≤ 9223372036854775807 := by
  simp [Lit.wf, IntKind.min, IntKind.max, IntKind.bits, IntKind.signed] at h
  omega
/-- The numbers that a slice of them reads. -/
theorem raws_of {H : Type} {enc : TypeId × Value → H} {W : World} {fuel : Nat} {sa : Option Addr} {n cp : Nat} {d : DataW H} {pl : List MemPlace}
    (h : DataW.trod enc Tryz.prog W 0 (fun _ => true) true fuel 25 [.slice sa n cp] = some (d, pl)) (hw : ∀ x ∈ d.weights Tryz.prog 25, x ≤ reachBytes) :
    ∃ l : List Int, l.length = n ∧ Raws W sa l ∧ (l.length : Int) < 35184372088832 := by
  rcases open_slice1 Tryz.underlying25 alk_int_cells h with ⟨hc, _⟩ | ⟨a, len, cap, m, k, V0, D, Pl, hc, _, hl, hm, hmm, hx, hall⟩
  · simp at hc
    obtain ⟨rfl, rfl, rfl⟩ := hc
    exact ⟨[], rfl, fun i c hi => by simp at hi, by decide⟩
  · simp at hc
    obtain ⟨rfl, rfl, rfl⟩ := hc
    simp only [if_true] at hmm
    subst hmm
    have hd := congrArg Prod.fst hx
    simp only at hd
    have hb : (n + (m - n)) * 8 ≤ reachBytes := by
      refine hw _ ?_
      rw [hd]
      unfold DataW.weights
      rw [Tryz.underlying25]
      simp [alk_int_bytes]
    have hr : reachBytes = 140737488351232 := rfl
    have hel : ∀ i, i < n → ∃ x : Int, W.cell? (a.add i) = some (.int .i64 x) ∧ (-9223372036854775808 ≤ x ∧ x ≤ 9223372036854775807) := by
      intro i hi
      obtain ⟨h1, h2⟩ := hall i (by omega)
      obtain ⟨z, e, _, b⟩ := DataW.trod_int Tryz.underlying3 h2
      simp at e
      rw [e] at h1
      exact ⟨z, h1, alk_bounds b⟩
    obtain ⟨V, hV⟩ := choose_lt hel
    refine ⟨(List.range n).map V, by simp, fun i c hi => ?_, by simp; omega⟩
    have hkl := (List.getElem?_eq_some_iff.1 hi).1
    simp at hkl
    rw [List.getElem?_map, List.getElem?_range hkl] at hi
    simp at hi
    subst hi
    obtain ⟨ab, ao, spot⟩ := a
    have hspot : spot = none := by
      have := World.cell?_spot (hV 0 (by omega)).1
      simpa [Addr.add] using this
    subst hspot
    simp only [Addr.add_lit] at hV
    exact ⟨(hV i hkl).2, ab, ao, rfl, World.block_lt_of_cell? W _ (hV i hkl).1, (hV i hkl).1⟩
set_option maxRecDepth 100000 in
/-- The steps that a slice of them reads. -/
theorem stps_of {H : Type} {enc : TypeId × Value → H} {W : World} {fuel : Nat} {sa : Option Addr} {n cp : Nat} {x : DataW H × List MemPlace}
    (h : DataW.trod enc Tryz.prog W 0 (fun _ => true) true fuel 43 [.slice sa n cp] = some x) : ∃ l : List Stp, l.length = n ∧ Stps W sa l := by
  rcases open_slice Tryz.underlying43 h with ⟨hc, _⟩ | ⟨a, len, cap, m, k, D, Pl, hc, _, hl, hm, hmm, _, hall⟩
  · simp at hc
    obtain ⟨rfl, rfl, rfl⟩ := hc
    exact ⟨[], rfl, fun i s hi => by simp at hi⟩
  · simp at hc
    obtain ⟨rfl, rfl, rfl⟩ := hc
    simp only [if_true] at hmm
    subst hmm
    have hel : ∀ i, i < n → ∃ s : Stp, s.ok ∧ ∃ bb bo, a = ⟨bb, bo, none⟩ ∧ bb < W.heap.size ∧ W.cell? ⟨bb, bo + i * 3, none⟩ = some (.int .i64 s.kind) ∧ W.cell? ⟨bb, bo + i * 3 + 1, none⟩ = some (.int .i64 s.a) ∧ W.cell? ⟨bb, bo + i * 3 + 2, none⟩ = some (.int .i64 s.b) := by
      intro i hi
      obtain ⟨ab, ao, spot⟩ := a
      have hspot : spot = none := by
        obtain ⟨ds, h1, h2⟩ := hall 0 (by omega)
        rw [alk_step_cells] at h1
        obtain ⟨_, hlen, hcell⟩ := World.cells?_some h1
        have c0 := hcell 0 (by omega)
        match ds, hlen with
        | [v0, v1, v2], _ => simpa [Addr.add] using World.cell?_spot c0
      subst hspot
      obtain ⟨cs', h1, h2⟩ := hall i (by omega)
      rw [alk_step_cells] at h1
      obtain ⟨_, hlen, hcell⟩ := World.cells?_some h1
      obtain ⟨xs, k', hk, hxy, _, hxl, hf⟩ := DataW.trod_struct Tryz.underlying48 h2
      match xs, hxl, cs', hlen with
      | [y0, y1, y2], _, [v0, v1, v2], _ =>
        have g0 := hf 0 _ rfl
        have g1 := hf 1 _ rfl
        have g2 := hf 2 _ rfl
        simp [alk_int_cells] at g0 g1 g2
        obtain ⟨z0, e0, _, b0⟩ := DataW.trod_int Tryz.underlying3 g0
        obtain ⟨z1, e1, _, b1⟩ := DataW.trod_int Tryz.underlying3 g1
        obtain ⟨z2, e2, _, b2⟩ := DataW.trod_int Tryz.underlying3 g2
        simp at e0 e1 e2
        subst e0 e1 e2
        have c0 := hcell 0 (by omega)
        have c1 := hcell 1 (by omega)
        have c2 := hcell 2 (by omega)
        rw [Addr.add_lit, Addr.add_lit] at c0 c1 c2
        simp only [Nat.add_zero, List.getElem?_cons_zero, List.getElem?_cons_succ] at c0 c1 c2
        exact ⟨⟨z0, z1, z2⟩, ⟨alk_bounds b0, alk_bounds b1, alk_bounds b2⟩, ab, ao, rfl, World.block_lt_of_cell? W _ c0, c0, c1, c2⟩
    have : Inhabited Stp := ⟨⟨0, 0, 0⟩⟩
    obtain ⟨V, hV⟩ := choose_lt hel
    refine ⟨(List.range n).map V, by simp, fun i s hi => ?_⟩
    have hkl := (List.getElem?_eq_some_iff.1 hi).1
    simp at hkl
    rw [List.getElem?_map, List.getElem?_range hkl] at hi
    simp at hi
    subst hi
    obtain ⟨h1, bb, bo, h2, h3⟩ := hV i hkl
    exact ⟨h1, bb, bo, by rw [h2], h3⟩

set_option maxRecDepth 100000 in
theorem alike_lifted (os : Os) (started : os.Started) (H : Type) (enc : TypeId × Value → H) :
    ReturnsInHanded {} Tryz.checked os 7 .any (Rows.alikeSpec.pre6 enc Tryz.prog Tryz.f7 Rows.alikeRow.domain false) (Rows.alikeSpec.post enc Tryz.prog Tryz.f7 false true false false) := by
  refine returnsInHanded_of_change_sized (C := Tryz.checked) alk_own started (by kernel_rfl) Tryz.func7
    (ChangeSpec.witness6 (enc := enc) (C := Tryz.checked) false ⟨#[], #[.int .i64 0, .slice none 0 0, .slice none 0 0], []⟩ 8 (by kernel_rfl) (by kernel_rfl) (by kernel_rfl) (by kernel_rfl)) ?_
  intro W base args ds gs before hval0 hW hcnd0 hsz _
  have hval : ∀ (j : Nat) t v, Tryz.f7.params[j]? = some t → args[j]? = some v → Value.okWide Tryz.prog W .any base t v := hval0
  have hW' := hW
  obtain ⟨p, q, hA0, hV, rfl, _, _⟩ := hW
  have hA : DataW.TrodAll enc Tryz.prog W 0 (fun _ => true) true Tryz.f7.params.toList args.toList ds p := hA0
  rw [Tryz.params7] at hA hval
  obtain ⟨v0, v1, v2, d0, d1, d2, p0, p1, p2, rfl, rfl, rfl, h0, h1, h2⟩ := trodAll_three hA
  obtain ⟨rfl, rfl⟩ := trodVars_none hV
  have h0k := h0
  have h1k := h1
  have h2k := h2
  obtain ⟨f0, hf0⟩ := h0
  obtain ⟨f1, hf1⟩ := h1
  obtain ⟨f2, hf2⟩ := h2
  have hwt : ∀ x ∈ d1.weights Tryz.prog 25, x ≤ reachBytes := fun x hx => by
    have h1 : (DataW.weightsEach Tryz.prog (Tryz.f7.params.toList ++ Rows.alikeSpec.plain.varTypes Tryz.prog) ([d0, d1, d2] ++ [])).all (· ≤ reachBytes) = true := hsz
    rw [Tryz.params7] at h1
    have h2 := List.all_eq_true.1 h1 x (DataW.weights_mem_each (j := 1) rfl rfl x hx)
    simpa using h2
  clear hA0 hval0
  simp only [List.append_nil] at hW'
  have hlt : ∀ x ∈ p0 ++ p1 ++ p2, x.block < W.heap.size := fun x hx => by simpa using hW'.lt x (by simpa using hx)
  obtain ⟨z, rfl⟩ := okWide_int Tryz.underlying3 (hval 0 3 v0 rfl rfl)
  obtain ⟨sa, n, cp, rfl⟩ := okWide_slice Tryz.underlying25 (hval 1 25 v1 rfl rfl)
  obtain ⟨sb, m, cq, rfl⟩ := okWide_slice Tryz.underlying43 (hval 2 43 v2 rfl rfl)
  have hzb : -9223372036854775808 ≤ z ∧ z ≤ 9223372036854775807 := by
    obtain ⟨y, e, _, b⟩ := DataW.trod_int Tryz.underlying3 hf0
    have e2 : [Value.int .i64 z] = [Value.int .i64 y] := e
    simp at e2
    subst e2
    exact alk_bounds b
  obtain ⟨raw, rfl, hraw, hrl⟩ := raws_of hf1 hwt
  obtain ⟨l, rfl, hst⟩ := stps_of hf2
  refine (alike_walk z raw sa cp l sb cq W hzb hraw hrl hst).mono fun e W' ⟨he, hk⟩ => ?_
  subst he
  have b0 : ∀ x ∈ p0, x.block < W.heap.size := fun x hx => hlt x (by simp [hx])
  have b1 : ∀ x ∈ p1, x.block < W.heap.size := fun x hx => hlt x (by simp [hx])
  have b2 : ∀ x ∈ p2, x.block < W.heap.size := fun x hx => hlt x (by simp [hx])
  exact ⟨_, rfl, ⟨_, _, _, [], _, [], hW', trodAll_mk1 (shut_bool Tryz.underlying4 true), trodAll_mk3 (Below.trod alk_laid (by kernel_rfl) (of_decide_eq_true (by kernel_rfl)) h0k hk.below b0) (Below.trod alk_laid (by kernel_rfl) (of_decide_eq_true (by kernel_rfl)) h1k hk.below b1) (Below.trod alk_laid (by kernel_rfl) (of_decide_eq_true (by kernel_rfl)) h2k hk.below b2), rfl, hk.below.frame _, fun h => by cases h⟩⟩

theorem alike_over : Rows.alikeRow.holds Tryz.pinned (OpenSpec.ofChange Rows.alikeSpec) :=
  OpenClaim.holds_of_wide 7 Tryz.f7 rfl rfl rfl rfl rfl rfl rfl ⟨rfl, rfl, rfl, rfl, rfl⟩ rfl rfl rfl rfl rfl (by kernel_rfl) Tryz.func7 (by kernel_rfl)
    (of_decide_eq_true (by kernel_rfl)) (by unfold Func.isWrapper; first | (rw [if_pos (by decide +kernel)]; kernel_rfl) | (rw [if_neg (by decide +kernel)]; exact ⟨rfl, rfl⟩))
    (fun os started H enc _ => alike_lifted os started H enc)

/-- The statement. -/
theorem alike_holds : Rows.AlikeSaid :=
  alike_over
#print axioms alike_holds
end Go.Proofs.YtlfijfodklhplaaGreat
