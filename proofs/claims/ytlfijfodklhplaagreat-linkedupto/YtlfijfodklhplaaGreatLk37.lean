import Derived.Test.YtlfijfodklhplaaGreatLk36
import Derived.Laws.ResultCell
/- The document's end: what is kept; takes. -/
namespace Go.Proofs.YtlfijfodklhplaaGreat
open Go.RowKit
set_option linter.unusedVariables false
set_option linter.unusedSimpArgs false

theorem kept_info : (Tryz.prog.info? 283).map (fun i => (i.zero, i.size, i.bytes)) = some (some (.agg #[.int .i64 0, .int .i64 0, .int .i64 0, .int .i64 0, .bool false]), 5, 40) := by kernel_rfl
theorem kcell_len (x : Nat × Fr.Msg) : (kcell x).length = 5 := rfl
theorem kcells_cons (x : Nat × Fr.Msg) (l : List (Nat × Fr.Msg)) : kcells (x :: l) = kcell x ++ kcells l := by simp [kcells]
theorem kcells_append (l m : List (Nat × Fr.Msg)) : kcells (l ++ m) = kcells l ++ kcells m := by simp [kcells]
theorem kcells_len (l : List (Nat × Fr.Msg)) : (kcells l).length = l.length * 5 := by
  induction l with
  | nil => rfl
  | cons x t ih => rw [kcells_cons, List.length_append, ih, kcell_len, List.length_cons]; omega
theorem kcells_take (l : List (Nat × Fr.Msg)) (n : Nat) : (kcells l).take (n * 5) = kcells (l.take n) := by
  induction l generalizing n with
  | nil => simp [kcells]
  | cons x t ih =>
    cases n with
    | zero => simp [kcells]
    | succ n =>
      rw [List.take_succ_cons, kcells_cons, kcells_cons, ← ih n, List.take_append, List.take_of_length_le (by rw [kcell_len]; omega), kcell_len]
      congr 2; omega
theorem kcells_drop (l : List (Nat × Fr.Msg)) (n : Nat) : (kcells l).drop (n * 5) = kcells (l.drop n) := by
  induction l generalizing n with
  | nil => simp [kcells]
  | cons x t ih =>
    cases n with
    | zero => simp
    | succ n =>
      rw [List.drop_succ_cons, kcells_cons, ← ih n, List.drop_append, List.drop_of_length_le (by rw [kcell_len]; omega), List.nil_append, kcell_len]
      congr 1; omega
theorem kcells_one (l : List (Nat × Fr.Msg)) : ∀ u ∈ kcells l, u.oneCell' = true := by
  intro u hu
  obtain ⟨e, _, h⟩ := List.mem_flatMap.1 hu
  simp only [kcell, mcell, List.mem_cons, List.not_mem_nil, or_false] at h
  rcases h with rfl | rfl | rfl | rfl | rfl <;> rfl
theorem kcells_get (l : List (Nat × Fr.Msg)) (i : Nat) (x : Nat × Fr.Msg) (h : l[i]? = some x) (j : Nat) (hj : j < 5) : (kcells l)[i * 5 + j]? = (kcell x)[j]? := by
  have h1 : (kcells l).drop (i * 5) = kcell x ++ kcells (l.drop (i + 1)) := by
    rw [kcells_drop]
    obtain ⟨hi, rfl⟩ := List.getElem?_eq_some_iff.1 h
    rw [List.drop_eq_getElem_cons hi, kcells_cons]
  have h2 : (kcells l)[i * 5 + j]? = ((kcells l).drop (i * 5))[j]? := by rw [List.getElem?_drop]
  rw [h2, h1, List.getElem?_append_left (by rw [kcell_len]; exact hj)]
theorem RRep.kept_at {w : World} {b : Nat} {e : Rf} {p : Rp} (h : RRep w b e p) (t : Nat) (x : Nat × Fr.Msg) (hm : e.kept[t]? = some x) : ∃ g o, p.ka = some ⟨g, o, none⟩ ∧ g < w.heap.size ∧ ∀ j u, (kcell x)[j]? = some u → w.cell? ⟨g, o + t * 5 + j, none⟩ = some u := by
  rcases h.krow.2.2 with ⟨_, h0, _⟩ | ⟨g, o, h0, hv⟩
  · have := (List.getElem?_eq_some_iff.1 hm).1; omega
  · refine ⟨g, o, h0, hv.lt, fun i u hu => ?_⟩
    have hi : i < 5 := (List.getElem?_eq_some_iff.1 hu).1
    have := hv.cell (t * 5 + i) u (by rw [kcells_get e.kept t x hm i hi]; exact hu)
    rw [← Nat.add_assoc] at this
    exact this
/-- What is kept becomes a row that is new, or its own. -/
theorem RRep.kept_to {w w1 : World} {b : Nat} {e : Rf} {p : Rp} (h : RRep w b e p) (l : List (Nat × Fr.Msg)) (a' : Option Addr) (c' : Nat)
    (hr : RV w1 283 5 a' l.length c' (kcells l)) (ha : ∀ k, inB a' k → inB p.ka k ∨ w.heap.size ≤ k) (hk : Keep (inB p.ka) w w1) :
    RRep (w1.setCell ⟨b, 4, none⟩ (.slice a' l.length c')) b { e with kept := l } { p with ka := a', kc := c' } ∧ RStep w (w1.setCell ⟨b, 4, none⟩ (.slice a' l.length c')) b p { p with ka := a', kc := c' } := by
  have ks : Keep (only b) w1 (w1.setCell ⟨b, 4, none⟩ (.slice a' l.length c')) := (Keep.refl (only b) w1).setCell (p := ⟨b, 4, none⟩) (fun _ => rfl) _
  have hlt := h.lt
  have hb0 := h.blk.lt
  have hab : ∀ k, inB a' k → k ≠ b := fun k hk' e => (ha k hk').elim (fun x => h.kb (e ▸ x)) (fun x => by omega)
  have hs2 : ∀ k, inB p.sa k → ¬ inB a' k := fun k e hk' => (ha k hk').elim (fun x => h.sk k e x) (fun x => by have := h.srow.lt k e; omega)
  have hf2 : ∀ k, inB a' k → ¬ inB p.fa k := fun k hk' e => (ha k hk').elim (fun x => h.kf k x e) (fun x => by have := h.frow.lt k e; omega)
  refine ⟨⟨?_, ?_, ?_, ?_, h.gl, ?_, h.sb, fun x => hab b x rfl, h.fb, hs2, h.sf, hf2, ?_, h.wok, h.most, h.sh, h.ac, h.fok⟩, ⟨fun k hk' => ?_, fun k c hk' => Or.inl ⟨c, hk'⟩, ?_⟩⟩
  · have := (h.blk.keep hk h.kb).set 4 (.slice a' l.length c')
    have e1 : (rcells e p).setIfInBounds 4 (.slice a' l.length c') = rcells { e with kept := l } { p with ka := a', kc := c' } := by
      simp [rcells]
    rwa [e1] at this
  · exact (h.srow.keep hk (fun k x y => h.sk k x y)).keep ks (fun k x y => h.sb (y ▸ x))
  · exact hr.keep ks (fun k x => hab k x)
  · exact (h.frow.keep hk (fun k x y => h.kf k y x)).keep ks (fun k x y => h.fb (y ▸ x))
  · intro i g f hg hf
    have := h.bufs i g f hg hf
    have hw := h.gw g.1 g.2 (List.mem_of_getElem? hg)
    exact ⟨(this.1.keep hk (fun x => hw (Or.inr (Or.inr (Or.inl x))))).keep ks (fun x => hw (Or.inl x)), this.2⟩
  · intro k c hkc h3
    have h1 := h.gw k c hkc
    have h2 := hlt k (Or.inr ⟨c, hkc⟩)
    rcases h3 with x | x | x | x
    · exact h1 (Or.inl x)
    · exact h1 (Or.inr (Or.inl x))
    · rcases ha k x with y | y
      · exact h1 (Or.inr (Or.inr (Or.inl y)))
      · omega
    · exact h1 (Or.inr (Or.inr (Or.inr x)))
  · rcases hk' with x | x | x | x
    · exact Or.inl (Or.inl x)
    · exact Or.inl (Or.inr (Or.inl x))
    · exact (ha k x).imp (fun y => Or.inr (Or.inr (Or.inl y))) id
    · exact Or.inl (Or.inr (Or.inr (Or.inr x)))
  · exact (hk.mono (ex' := RWri b p) (fun _ _ e => Or.inr (Or.inr (Or.inl e)))).setCell (p := ⟨b, 4, none⟩) (fun _ => Or.inl rfl) _
end Go.Proofs.YtlfijfodklhplaaGreat
/- append of a list that may be empty, onto a row of one's own. -/
namespace Go.Proofs.YtlfijfodklhplaaGreat
open Go.RowKit
set_option linter.unusedVariables false
set_option linter.unusedSimpArgs false

theorem run_append_none {P : Program} (w : World) (t ty e : TypeId) (z : Value) (size bytes : Nat) (ht : P.underlying t = some (.slice e)) (hinfo : (P.info? e).map (fun i => (i.zero, i.size, i.bytes)) = some (some z, size, bytes))
    (a : Option Addr) (n c : Nat) (hn : n ≤ c) (xa : Option Addr) (c' : Nat) : (Builtin.append_ #[t, t] ty #[.slice a n c, .slice xa 0 c']).run P w = .ok (.slice a n c) w := by
  obtain ⟨i, hi, hz, hs, hby⟩ := info_parts hinfo
  have h0 : ∀ (ad : Addr) (w : World), (loadCells ad 0).run P w = .ok #[] w := fun ad w => rfl
  cases a <;> cases xa <;> simp [Builtin.append_, run_underlying ht, sizeOf, typeInfo, hi, Builtin.lenOf, hn, Builtin.firstCells, storeCells, h0]

/-- append of so many cells that lie somewhere, none perhaps. -/
theorem run_append_rv0 {P : Program} (w : World) (t ty e : TypeId) (z : Value) (size bytes : Nat) (ht : P.underlying t = some (.slice e)) (hinfo : (P.info? e).map (fun i => (i.zero, i.size, i.bytes)) = some (some z, size, bytes)) (hzs : z.cells.size = size)
    (a : Option Addr) (n c : Nat) (vs : List Value) (hb : RV w e size a n c vs) (xa : Option Addr) (m c' : Nat) (news : List Value) (hm : news.length = m * size)
    (hc : 0 < m → ∃ ad, xa = some ad ∧ ∀ j u, news[j]? = some u → w.cell? (ad.add j) = some u) (h1 : ∀ u ∈ news, u.oneCell' = true) (hbytes : (n + m) * bytes ≤ 140737488355328) (h63 : n + m ≤ 9223372036854775807) :
    ∃ a' k' w', (Builtin.append_ #[t, t] ty #[.slice a n c, .slice xa m c']).run P w = .ok (.slice a' (n + m) k') w' ∧ RV w' e size a' (n + m) k' (vs ++ news) ∧ (∀ g, inB a' g → inB a g ∨ g = w.heap.size) ∧ Keep (inB a) w w' := by
  by_cases h0 : 0 < m
  · obtain ⟨ad, rfl, hcc⟩ := hc h0
    exact run_append_rv w t ty e z size bytes ht hinfo hzs a n c vs hb ad m c' h0 news hm hcc h1 hbytes h63
  · have hm0 : m = 0 := by omega
    subst hm0
    have hv : news = [] := List.eq_nil_of_length_eq_zero (by omega)
    subst hv
    refine ⟨a, c, w, run_append_none w t ty e z size bytes ht hinfo a n c hb.2.1 xa c', by rw [List.append_nil]; exact hb, fun g hg => Or.inl hg, Keep.refl _ _⟩
theorem wpList_append_rv0 {P : Program} (w : World) {ops : Array Oper} {rest : List Oper} {o : Oper} {a : Act} {Q : Exit → Act → World → Prop}
    (hg : o.guard = none) (s x : Operand) (t : TypeId) (hop : o.op = Op.call { callee := Callee.builtin Builtin.append, args := #[s, x], argTypes := #[t, t] })
    (e : TypeId) (z : Value) (size bytes : Nat) (ht : P.underlying t = some (.slice e)) (hinfo : (P.info? e).map (fun i => (i.zero, i.size, i.bytes)) = some (some z, size, bytes)) (hzs : z.cells.size = size)
    (sa : Option Addr) (n c : Nat) (hs : a.eval s = .slice sa n c) (vs : List Value) (hb : RV w e size sa n c vs) (xa : Option Addr) (m c' : Nat) (hx : a.eval x = .slice xa m c') (news : List Value) (hm : news.length = m * size)
    (hc : 0 < m → ∃ ad, xa = some ad ∧ ∀ j u, news[j]? = some u → w.cell? (ad.add j) = some u) (h1 : ∀ u ∈ news, u.oneCell' = true) (hbytes : (n + m) * bytes ≤ 140737488355328) (h63 : n + m ≤ 9223372036854775807)
    (hK : ∀ a' k' w', RV w' e size a' (n + m) k' (vs ++ news) → (∀ g, inB a' g → inB sa g ∨ g = w.heap.size) → Keep (inB sa) w w' → wpList P ops Q rest (a.put o.dst (.slice a' (n + m) k')) w') :
    wpList P ops Q (o :: rest) a w := by
  refine wpList_plain hg fun K hK' => ?_
  obtain ⟨a', k', w', hrun, r1, r2, r3⟩ := run_append_rv0 (P := P) w t o.type e z size bytes ht hinfo hzs sa n c vs hb xa m c' news hm hc h1 hbytes h63
  unfold Oper.wp
  simp [execOp, hop, resolve, invoke, builtin, hs, hx, hrun, Result.andThen]
  exact hK' _ _ (hK a' k' w' r1 r2 r3)

set_option maxRecDepth 100000 in
set_option maxHeartbeats 1000000 in
theorem takes_no (b : Nat) (e : Rf) (p : Rp) (w : World) (h : RRep w b e p) (hno : ∀ x ∈ e.kept, x.1 ≠ e.await) (hk : e.kept.length ≤ 1000) :
    Calls Tryz.prog 182 #[.pointer (some ⟨b, 0, none⟩)] w fun r w' => r = .returned (.tuple #[mv Fr.none0, .bool false]) ∧ Keep nil w w' := by
  have HR : Unit → RRep w b e p := fun _ => h
  have HN : Unit → (∀ x ∈ e.kept, x.1 ≠ e.await) ∧ e.kept.length ≤ 1000 := fun _ => ⟨hno, hk⟩
  clear h hno hk
  go_enter Tryz.func182, Tryz.ntmps182
  go_wp2_with fail
  obtain ⟨W1, hW1⟩ : ∃ W1, W1 = w.alloc (.cells #[.int .i64 0, .int .i64 0, .int .i64 0, .bool false] 76) := ⟨_, rfl⟩
  have hbx : Blk W1 w.heap.size #[.int .i64 0, .int .i64 0, .int .i64 0, .bool false] 76 := by rw [hW1]; exact Blk.new _ _ _
  have hk1 : Keep nil w W1 := by rw [hW1]; exact (Keep.refl nil w).alloc _
  rw [← hW1]
  obtain ⟨xb, hxb⟩ : ∃ xb, xb = w.heap.size := ⟨_, rfl⟩
  rw [← hxb] at hbx ⊢
  have HX : Unit → Blk W1 xb #[.int .i64 0, .int .i64 0, .int .i64 0, .bool false] 76 ∧ Keep nil w W1 ∧ xb = w.heap.size := fun _ => ⟨hbx, hk1, hxb⟩
  clear hW1 hbx hk1 hxb
  go_loopw [4] (fun v wr => ∃ t : Nat, t ≤ e.kept.length ∧ v = .int .i64 (t : Int) ∧ Keep nil W1 wr) (fun v _ => e.kept.length - (intOf v).toNat)
  case atStart => exact ⟨0, by omega, rfl, Keep.refl _ _⟩
  case round =>
    obtain ⟨t, ht, rfl, hkw⟩ := hrel
    have HK : Unit → Keep nil W1 wr := fun _ => hkw
    have hr := (HR ()).keep ((HX ()).2.1.trans hkw) (fun _ _ x => x)
    have q4 := hr.blk.cell 4
    have q3 := hr.blk.cell 3
    simp [rcells] at q3 q4
    have hbw := hr.blk.lt
    by_cases htl : t < e.kept.length
    · obtain ⟨x, hx⟩ : ∃ x, e.kept[t]? = some x := ⟨_, List.getElem?_eq_getElem htl⟩
      obtain ⟨g, o, hga, hgl, hcell⟩ := hr.kept_at t x hx
      rw [hga] at q4
      have m0 := hcell 0 _ rfl
      have hne : ¬ x.1 = e.await := (HN ()).1 x (List.mem_of_getElem? hx)
      have htI : (t : Int) < (e.kept.length : Int) := by omega
      have ht2 : (t : Int) < 1000 := by have := (HN ()).2; omega
      obtain ⟨xn, xm⟩ := x
      simp only [Nat.add_zero] at m0 hne
      have hneI : ¬ (xn : Int) = (e.await : Int) := by omega
      clear hkw hr hga hcell hx hne
      go_wp2_with fail
      go_quiet (fail)
      go_wp2
      exact ⟨⟨t + 1, by omega, by go_num, (HK ()).drewN _⟩, by simp [intOf]; omega⟩
    · have et : t = e.kept.length := by omega
      subst et
      have hbx := (HX ()).1.keep hkw (fun e => e)
      have z0 := hbx.cell 0
      have z1 := hbx.cell 1
      have z2 := hbx.cell 2
      have z3 := hbx.cell 3
      have f0 := hbx.frozen 0
      have f1 := hbx.frozen 1
      have f2 := hbx.frozen 2
      have f3 := hbx.frozen 3
      simp at z0 z1 z2 z3
      clear hbx hkw hr
      go_wp2
      refine bodyPost_ret (v := .tuple #[mv Fr.none0, .bool false]) ?_ rfl ?_
      · rw [results_cell_tmp rfl]
        unfold loadVar
        go_simp
        exact ⟨rfl, rfl, rfl, rfl⟩
      · refine ⟨rfl, ?_⟩
        have hx := (HX ()).2.2
        exact ((HX ()).2.1.trans (HK ())).trans' (((((Keep.refl (only xb) wr).setCell (p := ⟨xb, 0, none⟩) (fun _ => rfl) _).setCell (p := ⟨xb, 1, none⟩) (fun _ => rfl) _).setCell (p := ⟨xb, 2, none⟩) (fun _ => rfl) _).setCell (p := ⟨xb, 3, none⟩) (fun _ => rfl) _) (fun i hi e => by simp only [only] at e; omega)
end Go.Proofs.YtlfijfodklhplaaGreat
