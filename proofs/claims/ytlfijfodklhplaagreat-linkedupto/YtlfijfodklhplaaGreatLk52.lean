import Derived.Test.YtlfijfodklhplaaGreatLk51
import Derived.Test.YtlfijfodklhplaaGreatLk31
import Derived.JoinedCond
import Derived.Deep.CondSized
/- Linked: the row, up to a bulk (made by tools/linkedrow.py). -/
namespace Go.Proofs.YtlfijfodklhplaaGreat
open Go.ChangeShapes Go.WideShapes Go.ChangeAt Go.RowKit Go.Deep
set_option linter.unusedVariables false
set_option linter.unusedSimpArgs false
set_option maxRecDepth 100000 in
theorem op_of2 {H : Type} {enc : TypeId × Value → H} {W : World} {fuel : Nat} {cs : List Value} {d : DataW H} {pl : List MemPlace}
    (h : DataW.trod enc Tryz.prog W 0 (fun _ => true) true fuel 80 cs = some (d, pl)) (hl : cs.length = 12) (hw : ∀ x ∈ d.weights Tryz.prog 80, x ≤ reachBytes) :
    ∃ o : OpD, cs = o.cells ∧ o.ok W ∧ o.rng := by
  obtain ⟨xs, k', hk, hxy, _, hxl, hf⟩ := DataW.trod_struct Tryz.underlying80 h
  simp only [Prod.mk.injEq] at hxy
  match xs, hxl, cs, hl with
  | [y0, y1, y2, y3, y4, y5, y6], _, [v0, v1, v2, v3, v4, v5, v6, v7, v8, v9, v10, v11], _ =>
    have g0 := hf 0 _ rfl
    have g1 := hf 1 _ rfl
    have g2 := hf 2 _ rfl
    have g3 := hf 3 _ rfl
    have g4 := hf 4 _ rfl
    have g5 := hf 5 _ rfl
    have g6 := hf 6 _ rfl
    simp [int_cells, edges_cells, frame_cells, bytes_cells] at g0 g1 g2 g3 g4 g5 g6
    obtain ⟨z0, e0, _, b0'⟩ := DataW.trod_int Tryz.underlying3 g0
    obtain ⟨z1, e1, _, b1'⟩ := DataW.trod_int Tryz.underlying3 g1
    obtain ⟨z2, e2, _, b2'⟩ := DataW.trod_int Tryz.underlying3 g2
    obtain ⟨z3, e3, _, b3'⟩ := DataW.trod_int Tryz.underlying3 g3
    simp at e0 e1 e2 e3
    subst e0 e1 e2 e3
    simp [Lit.wf, IntKind.min, IntKind.max, IntKind.bits, IntKind.signed] at b1' b2' b3'
    have hd : d = .agg [y0.1, y1.1, y2.1, y3.1, y4.1, y5.1, y6.1] := hxy.1
    have hwE : ∀ x ∈ y4.1.weights Tryz.prog 26, x ≤ reachBytes := fun x hx => hw x (by
      rw [hd]
      unfold DataW.weights
      rw [Tryz.underlying80]
      exact DataW.weights_mem_each (j := 4) rfl rfl x hx)
    have hwD : ∀ x ∈ y6.1.weights Tryz.prog 56, x ≤ reachBytes := fun x hx => hw x (by
      rw [hd]
      unfold DataW.weights
      rw [Tryz.underlying80]
      exact DataW.weights_mem_each (j := 6) rfl rfl x hx)
    obtain ⟨ea, es, ec, hce, hE⟩ := edges_of g4 hwE
    obtain ⟨da, ds, dc, hcd, hD⟩ := bytes_of g6 hwD
    simp at hce hcd
    subst hce hcd
    obtain ⟨xs2, k2, _, _, _, hxl2, hf2⟩ := DataW.trod_struct Tryz.underlying78 g5
    match xs2, hxl2 with
    | [a0, a1, a2], _ =>
      have m0 := hf2 0 _ rfl
      have m1 := hf2 1 _ rfl
      have m2 := hf2 2 _ rfl
      simp [int_cells, bool_cells, msg_cells] at m0 m1 m2
      obtain ⟨b0, q0, _⟩ := DataW.trod_bool Tryz.underlying4 m0
      obtain ⟨b1, q1, _, _⟩ := DataW.trod_int Tryz.underlying3 m1
      simp at q0 q1
      subst q0 q1
      obtain ⟨xs3, k3, _, _, _, hxl3, hf3⟩ := DataW.trod_struct Tryz.underlying76 m2
      match xs3, hxl3 with
      | [c0, c1, c2, c3], _ =>
        have n0 := hf3 0 _ rfl
        have n1 := hf3 1 _ rfl
        have n2 := hf3 2 _ rfl
        have n3 := hf3 3 _ rfl
        simp [int_cells, bool_cells] at n0 n1 n2 n3
        obtain ⟨w0, r0, _, _⟩ := DataW.trod_int Tryz.underlying3 n0
        obtain ⟨w1, r1, _, _⟩ := DataW.trod_int Tryz.underlying3 n1
        obtain ⟨w2, r2, _, _⟩ := DataW.trod_int Tryz.underlying3 n2
        obtain ⟨w3, r3, _⟩ := DataW.trod_bool Tryz.underlying4 n3
        simp at r0 r1 r2 r3
        subst r0 r1 r2 r3
        exact ⟨⟨z0, z1, z2, z3, ea, es, ec, b0, b1, w0, w1, w2, w3, da, ds, dc⟩, rfl, ⟨hE, hD⟩, b1', b2', b3'⟩

/-- The script that a slice of steps reads. -/
theorem ops_of2 {H : Type} {enc : TypeId × Value → H} {W : World} {fuel : Nat} {sa : Option Addr} {n cp : Nat} {d : DataW H} {pl : List MemPlace}
    (h : DataW.trod enc Tryz.prog W 0 (fun _ => true) true fuel 22 [.slice sa n cp] = some (d, pl)) (hw : ∀ x ∈ d.weights Tryz.prog 22, x ≤ reachBytes) :
    ∃ l : List OpD, l.length = n ∧ OpsAt W sa l ∧ (∀ o ∈ l, o.rng) ∧ (d = .nil ∧ n = 0 ∨ ∃ el sp, d = .slice el sp ∧ el.length = n) := by
  rcases open_slice Tryz.underlying22 h with ⟨hc, hnil⟩ | ⟨a, len, cap, m, k, D, Pl, hc, _, hl, hm, hmm, hx, hall⟩
  · simp at hc
    obtain ⟨rfl, rfl, rfl⟩ := hc
    exact ⟨[], rfl, ⟨Or.inl rfl, fun o ho => by cases ho⟩, (fun o ho => by cases ho), Or.inl ⟨congrArg Prod.fst hnil, rfl⟩⟩
  · simp at hc
    obtain ⟨rfl, rfl, rfl⟩ := hc
    simp only [if_true] at hmm
    subst hmm
    have hd := congrArg Prod.fst hx
    simp only at hd
    have hwd : ∀ x, x ∈ ((n + (m - n)) * 128 :: (DataW.weightsAll Tryz.prog 80 ((List.range n).map D) ++ DataW.weightsAll Tryz.prog 80 ((List.range (m - n)).map fun j => D (n + j)))) → x ≤ reachBytes := by
      intro x hx'
      refine hw x ?_
      rw [hd]
      unfold DataW.weights
      rw [Tryz.underlying22]
      simpa [op_bytes] using hx'
    have hb : (n + (m - n)) * 128 ≤ reachBytes := hwd _ (by simp)
    have hr : reachBytes = 140737488351232 := rfl
    have hel : ∀ i, i < n → ∃ o : OpD, (o.ok W ∧ o.rng) ∧ ∀ j, j < 12 → W.cell? ((a.add (i * 12)).add j) = o.cells[j]? := by
      intro i hi
      obtain ⟨cs', h1, h2⟩ := hall i (by omega)
      rw [op_cells] at h1
      obtain ⟨_, hlen, hcell⟩ := World.cells?_some h1
      obtain ⟨o, ho, hok⟩ := op_of2 h2 hlen (fun x hx' => hwd x (by
        refine List.mem_cons_of_mem _ (List.mem_append_left _ (mem_weightsAll (List.mem_map.2 ⟨i, by simpa using hi, rfl⟩) x hx')))
      )
      exact ⟨o, hok, fun j hj => by rw [← ho]; exact hcell j hj⟩
    have : Inhabited OpD := ⟨op0 0 0 0 0⟩
    obtain ⟨V, hV⟩ := choose_lt hel
    refine ⟨(List.range n).map V, by simp, ⟨?_, fun o ho => ?_⟩, fun o ho => ?_, Or.inr ⟨_, _, hd, by simp⟩⟩
    · by_cases h0 : n = 0
      · subst h0; exact Or.inl rfl
      · obtain ⟨ab, ao, spot⟩ := a
        have h00 := (hV 0 (by omega)).2 0 (by omega)
        have hx0 : (V 0).cells[0]? = some (.int .i64 (V 0).kd) := rfl
        rw [hx0] at h00
        have hspot : spot = none := by
          have := World.cell?_spot h00
          simpa [Addr.add] using this
        subst hspot
        simp only [Addr.add_lit] at hV h00
        refine Or.inr ⟨ab, ao, rfl, World.block_lt_of_cell? W _ h00, orow_mk (fun k e hk j hj => ?_)⟩
        have hkl := (List.getElem?_eq_some_iff.1 hk).1
        simp at hkl
        rw [List.getElem?_map, List.getElem?_range hkl] at hk
        simp at hk
        subst hk
        exact (hV k hkl).2 j hj
    · simp at ho
      obtain ⟨i, hi, rfl⟩ := ho
      exact (hV i hi).1.1
    · simp at ho
      obtain ⟨i, hi, rfl⟩ := ho
      exact (hV i hi).1.2

theorem bulk_one {H : Type} (d : DataW H) : 1 ≤ Rows.uptoBulk d := by
  cases d with
  | lit l => cases l <;> simp [Rows.uptoBulk]
  | nil => simp [Rows.uptoBulk]
  | ptr d => simp [Rows.uptoBulk]
  | slice elems spare => simp [Rows.uptoBulk]
  | agg parts => simp [Rows.uptoBulk]
  | iface t d => simp [Rows.uptoBulk]
  | map entries => simp [Rows.uptoBulk]
  | held h => simp [Rows.uptoBulk]
theorem bulk_len {H : Type} (l : List (DataW H)) : l.length ≤ Rows.uptoBulkAll l := by
  induction l with
  | nil => simp [Rows.uptoBulkAll]
  | cons x r ih => have := bulk_one x; simp only [Rows.uptoBulkAll, List.length_cons]; omega

set_option maxRecDepth 100000 in
theorem linked_lifted (os : Os) (started : os.Started) (H : Type) (enc : TypeId × Value → H) (F : Stop.Interp) :
    ReturnsInHanded {} Tryz.checked os 4 .any ((Rows.OpenSpec.upto Rows.linkedSpec).pre6 enc Tryz.prog Tryz.f4 Rows.linkedUptoRow.domain false) (((Rows.OpenSpec.upto Rows.linkedSpec).at F).post enc Tryz.prog Tryz.f4 false true false false) := by
  refine returnsInHanded_of_cond_sized (C := Tryz.checked) (s := Rows.OpenSpec.upto Rows.linkedSpec) (k := Rows.uptoSmall) rfl framed_own started (by kernel_rfl) Tryz.func4
    (OpenSpec.witness (enc := enc) (C := Tryz.checked) (s := Rows.OpenSpec.upto Rows.linkedSpec) (k := Rows.uptoSmall) rfl false ⟨#[], #[.slice none 0 0], []⟩ 8 (by kernel_rfl) (by kernel_rfl) (by kernel_rfl)
      (x := ([.nil], [], [])) (by kernel_rfl) rfl (by kernel_rfl)) ?_
  intro W base args ds gs before hval0 hW hcnd0 hk0 hsz _
  have hval : ∀ (j : Nat) t v, Tryz.f4.params[j]? = some t → args[j]? = some v → Value.okWide Tryz.prog W .any base t v := hval0
  have hW' := hW
  obtain ⟨p, q, hA0, hV, rfl, _, _⟩ := hW
  have hA : DataW.TrodAll enc Tryz.prog W 0 (fun _ => true) true Tryz.f4.params.toList args.toList ds p := hA0
  rw [Tryz.params4] at hA hval
  obtain ⟨v0, d0, rfl, rfl, h0⟩ := trodAll_one hA
  obtain ⟨rfl, rfl⟩ := trodVars_none hV
  have h0k := h0
  obtain ⟨fuel, hf⟩ := h0
  have hwt : ∀ x ∈ d0.weights Tryz.prog 22, x ≤ reachBytes := fun x hx => by
    have h1 : (DataW.weightsEach Tryz.prog (Tryz.f4.params.toList ++ (Rows.OpenSpec.upto Rows.linkedSpec).bare.plain.varTypes Tryz.prog) ([d0] ++ [])).all (· ≤ reachBytes) = true := hsz
    rw [Tryz.params4] at h1
    have h2 := List.all_eq_true.1 h1 x (DataW.weights_mem_each (j := 0) rfl rfl x hx)
    simpa using h2
  have hk1 : Rows.uptoSmall H [d0] = true := hk0
  have hbk : Rows.uptoBulkAll [d0] ≤ 1048576 := of_decide_eq_true hk1
  clear hA0 hval0
  simp only [List.append_nil] at hW'
  have hlt : ∀ x ∈ p, x.block < W.heap.size := fun x hx => by simpa using hW'.lt x hx
  obtain ⟨sa, n, cp, rfl⟩ := okWide_slice Tryz.underlying22 (hval 0 22 v0 rfl rfl)
  obtain ⟨l, rfl, hops, hrng, hd⟩ := ops_of2 hf hwt
  have hlen : (l.length : Int) ≤ 1048576 := by
    rcases hd with ⟨_, h⟩ | ⟨el, sp, h, hl⟩
    · omega
    · rw [h] at hbk
      simp only [Rows.uptoBulkAll, Rows.uptoBulk] at hbk
      have := bulk_len el
      omega
  refine (linked10_any sa l cp W hops hrng hlen).mono fun e W' ⟨he, hk⟩ => ?_
  subst he
  exact ⟨_, rfl, ⟨_, _, _, [], _, [], hW', trodAll_mk1 (shut_bool Tryz.underlying4 true), trodAll_mk1 (Below.trod framed_laid (by kernel_rfl) (of_decide_eq_true (by kernel_rfl)) h0k hk.below hlt), rfl, hk.below.frame _, fun h => by cases h⟩⟩

/-- The statement, up to a bulk. -/
theorem linked_upto_holds : Rows.LinkedUptoSaid :=
  OpenClaim.holds_of_cond 4 Tryz.f4 rfl rfl rfl rfl rfl rfl rfl ⟨rfl, rfl, rfl, rfl, rfl⟩ rfl rfl rfl rfl rfl (by kernel_rfl) Tryz.func4 (by kernel_rfl)
    (of_decide_eq_true (by kernel_rfl)) (by unfold Func.isWrapper; first | (rw [if_pos (by decide +kernel)]; kernel_rfl) | (rw [if_neg (by decide +kernel)]; exact ⟨rfl, rfl⟩))
    (fun os started H enc _ F => linked_lifted os started H enc F)
#print axioms linked_upto_holds
end Go.Proofs.YtlfijfodklhplaaGreat
