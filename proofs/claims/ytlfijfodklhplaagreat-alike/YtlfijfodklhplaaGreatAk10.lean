import Derived.Test.YtlfijfodklhplaaGreatAk09
import Derived.Test.YtlfijfodklhplaaGreatAk03
import Derived.Test.YtlfijfodklhplaaGreatAk02
/- A frame goes out: walk of goesOut. -/
namespace Go.Proofs.YtlfijfodklhplaaGreat
open Go.RowKit
set_option linter.unusedVariables false

/-- What a call on an end may do besides: it writes its own blocks alone, and what it has then was its own, or is new. -/
structure Step (w w' : World) (b : Nat) (p p' : Pl) : Prop where
  wri : ∀ k, Wri b p' k → Wri b p k ∨ w.heap.size ≤ k
  gs : ∀ k, k ∈ p'.gs → k ∈ p.gs ∨ w.heap.size ≤ k
  keep : Keep (Wri b p) w w'
theorem Step.refl (w : World) (b : Nat) (p : Pl) : Step w w b p p := ⟨fun _ h => Or.inl h, fun _ h => Or.inl h, Keep.refl _ _⟩
theorem Step.trans {w w1 w2 : World} {b : Nat} {p p1 p2 : Pl} (h : Step w w1 b p p1) (k : Step w1 w2 b p1 p2) : Step w w2 b p p2 :=
  ⟨fun i hi => (k.wri i hi).elim (fun x => h.wri i x) (fun x => Or.inr (Nat.le_trans h.keep.size x)), fun i hi => (k.gs i hi).elim (fun x => h.gs i x) (fun x => Or.inr (Nat.le_trans h.keep.size x)),
    h.keep.trans' k.keep (fun i hi x => (h.wri i x).elim id (fun y => by omega))⟩
theorem Step.of_keep {w w1 : World} (b : Nat) (p : Pl) (h : Keep nil w w1) : Step w w1 b p p := ⟨fun _ h => Or.inl h, fun _ h => Or.inl h, h.mono (fun _ _ e => e.elim)⟩
theorem Mine.cases {b : Nat} {p : Pl} {k : Nat} (h : Mine b p k) : Wri b p k ∨ k ∈ p.gs := by
  rcases h with h | h | h | h
  · exact Or.inl (Or.inl h)
  · exact Or.inl (Or.inr (Or.inl h))
  · exact Or.inl (Or.inr (Or.inr h))
  · exact Or.inr h
theorem Wri.mine {b : Nat} {p : Pl} {k : Nat} (h : Wri b p k) : Mine b p k := by
  rcases h with h | h | h
  · exact Or.inl h
  · exact Or.inr (Or.inl h)
  · exact Or.inr (Or.inr (Or.inl h))

theorem Step.mine {w w' : World} {b : Nat} {p p' : Pl} (h : Step w w' b p p') : ∀ k, Mine b p' k → Mine b p k ∨ w.heap.size ≤ k := fun k hk =>
  hk.cases.elim (fun x => (h.wri k x).imp Wri.mine id) (fun x => (h.gs k x).imp (fun y => Or.inr (Or.inr (Or.inr y))) id)

theorem ovals_append (gs : List Nat) (l : List Fr.Frm) (h : gs.length = l.length) (g : Nat) (f : Fr.Frm) : ovals (gs ++ [g]) (l ++ [f]) = ovals gs l ++ [fval g f] := by
  simp [ovals, List.zipWith_append h]

theorem Rep.out_one {w w1 : World} {c : Array Value} {t : TypeId} {b o : Nat} {e : En} {p : Pl} (h : Rep w c t b o e p) (f : Fr.Frm) (g : Nat) (hf : FrOk f) (hg : Buf w g (Fr.enc f) 10) (hgm : ¬ Mine b p g) (a' : Option Addr) (c' : Nat)
    (hr : RV w1 56 1 a' (e.out.length + 1) c' (ovals p.gs e.out ++ [fval g f])) (ha : ∀ k, inB a' k → inB p.oa k ∨ w.heap.size ≤ k) (hk : Keep (inB p.oa) w w1) :
    Rep (w1.setCell ⟨b, o + 23, none⟩ (.slice a' (e.out.length + 1) c')) c t b o { e with out := e.out ++ [f] } { p with oa := a', oc := c', gs := p.gs ++ [g] } := by
  have hbl := h.blk.lt
  have ks : Keep (only b) w1 (w1.setCell ⟨b, o + 23, none⟩ (.slice a' (e.out.length + 1) c')) := (Keep.refl (only b) w1).setCell (p := ⟨b, o + 23, none⟩) (fun _ => rfl) _
  have hlt := h.lt
  have hab : ∀ k, inB a' k → k ≠ b := fun k hk' e => (ha k hk').elim (fun x => h.ob (e ▸ x)) (fun x => by omega)
  have hl : ({ e with out := e.out ++ [f] } : En).cells { p with oa := a', oc := c', gs := p.gs ++ [g] } = (e.cells p).set 23 (.slice a' (e.out.length + 1) c') := by
    have := cells_set23 e p h.four (e.out ++ [f]) a' c' (p.gs ++ [g])
    rw [← this]; simp
  refine { blk := ?_, fit := h.fit, four := h.four, wrow := ?_, orow := ?_, gl := by simp [h.gl], bufs := ?_, wb := h.wb, ob := fun x => hab b x rfl, wo := ?_, gw := ?_, gn := ?_, wok := h.wok, most := h.most, awt := h.awt, kn := h.kn, fok := ?_ }
  · rw [hl]
    exact (h.blk.keep hk h.ob).put_at h.len 23 (by rw [cells_len e p h.four]; omega) _
  · exact (h.wrow.keep hk (fun k hw ho => h.wo k hw ho)).keep ks (fun k hw hb => h.wb (hb ▸ hw))
  · show RV _ _ _ a' (e.out ++ [f]).length c' (ovals (p.gs ++ [g]) (e.out ++ [f]))
    rw [ovals_append _ _ h.gl, List.length_append]
    exact hr.keep ks (fun k hk' => hab k hk')
  · intro i g' f' hg' hf'
    have hgw : ∀ k, Buf w k (Fr.enc f') 10 → ¬ inB p.oa k → k ≠ b → Buf (w1.setCell ⟨b, o + 23, none⟩ (.slice a' (e.out.length + 1) c')) k (Fr.enc f') 10 := fun k hb h1 h2 => (hb.keep hk h1).keep ks h2
    by_cases hi : i < p.gs.length
    · have hi' : i < e.out.length := by have := h.gl; omega
      rw [List.getElem?_append_left hi] at hg'
      rw [List.getElem?_append_left hi'] at hf'
      have hw := h.gw g' (List.mem_of_getElem? hg')
      exact hgw g' (h.bufs i g' f' hg' hf') (fun x => hw (Or.inr (Or.inr x))) (fun x => hw (Or.inl x))
    · have hi' : ¬ i < e.out.length := by have := h.gl; omega
      rw [List.getElem?_append_right (by omega)] at hg' hf'
      have e1 : i - p.gs.length = 0 := by
        have := (List.getElem?_eq_some_iff.1 hg').1
        simp at this; omega
      have e2 : i - e.out.length = 0 := by
        have := (List.getElem?_eq_some_iff.1 hf').1
        simp at this; omega
      rw [e1] at hg'
      rw [e2] at hf'
      simp at hg' hf'
      subst hg' hf'
      exact hgw g hg (fun x => hgm (Or.inr (Or.inr (Or.inl x)))) (fun x => hgm (Or.inl x))
  · intro k hw ho
    rcases ha k ho with x | x
    · exact h.wo k hw x
    · have := hlt k (Or.inr (Or.inl hw)); omega
  · intro k hk' hw
    have hkl : k < w.heap.size ∧ ¬ Wri b p k := by
      rcases List.mem_append.1 hk' with x | x
      · exact ⟨hlt k (Or.inr (Or.inr (Or.inr x))), h.gw k x⟩
      · simp at x; subst x; exact ⟨hg.lt, fun y => hgm y.mine⟩
    rcases hw with x | x | x
    · exact hkl.2 (Or.inl x)
    · exact hkl.2 (Or.inr (Or.inl x))
    · rcases ha k x with y | y
      · exact hkl.2 (Or.inr (Or.inr y))
      · omega
  · rw [List.nodup_append]
    refine ⟨h.gn, by simp, ?_⟩
    intro x hx y hy e
    simp at hy
    subst hy e
    exact hgm (Or.inr (Or.inr (Or.inr hx)))
  · intro f' hf'
    rcases List.mem_append.1 hf' with x | x
    · exact h.fok f' x
    · simp at x; subst x; exact hf

set_option maxHeartbeats 1000000 in
theorem goesOut_any (c : Array Value) (t : TypeId) (b o : Nat) (e : En) (p : Pl) (f : Fr.Frm) (hf : FrOk f) (w : World) (h : Rep w c t b o e p) (hn : (e.out.length : Int) < 1099511627776) :
    Calls Tryz.prog 193 #[.pointer (some ⟨b, o, none⟩), .agg (fv f)] w fun r w' => r = .returned (.tuple #[]) ∧ ∃ p', Rep w' c t b o { e with out := e.out ++ [f] } p' ∧ Step w w' b p p' := by
  have hbl := h.blk.lt
  have HF : Unit → FrOk f := fun _ => hf
  have HR : Unit → Rep w c t b o e p := fun _ => h
  clear h hf
  go_enter Tryz.func193, Tryz.ntmps193
  go_wp2_with fail
  refine (encode_any f (HF ()) _).mono ?_
  rintro r w1 ⟨g, rfl, hg, hb, hk1⟩
  have hk0 : Keep nil w w1 := ((Keep.refl nil w).alloc _).trans hk1
  have h1 := (HR ()).keep hk0 (fun _ _ x => x)
  have hz := hk0.size
  simp only [World.size_alloc] at hg
  have q1 := h1.c23
  have hf23 := h1.frozen (o + 23)
  have HB : Unit → Buf w1 g (Fr.enc f) 10 := fun _ => hb
  have H1 : Unit → Rep w1 c t b o e p := fun _ => h1
  have hr := h1.orow
  have hob := h1.ob
  clear hb h1
  go_wp2_with (at_builtin; refine wpList_append_rv _ rfl (.tmp 15) (.tmp 17) 105 rfl 56 (.slice none 0 0) 1 24 Tryz.underlying105 list_info rfl p.oa e.out.length p.oc rfl (ovals p.gs e.out) (hr.alloc _) ⟨w1.heap.size, 0, none⟩ 1 1 (by omega) rfl [fval g f] rfl (cells_list w1 [fval g f] 56 _ rfl) (by simp [fval, Value.oneCell']) (by omega) (by omega) ?_; intro a' c' w2 hr2 hg2 hk2; have hk3 : Keep (inB p.oa) w1 w2 := ((Keep.refl _ w1).alloc _).trans hk2; have q2 := (hk3.cell b (o + 23) (by omega) hob).trans q1; have q3 := (hk3.frozen b (o + 23) (by omega) hob).trans hf23)
  go_end0
  have h1 := H1 ()
  refine ⟨rfl, { p with oa := a', oc := c', gs := p.gs ++ [g] }, ?_, ?_⟩
  · exact h1.out_one f g (HF ()) (HB ()) (fun x => by have := (HR ()).lt g x; omega) a' c' hr2 (fun k hk => (hg2 k hk).imp id (fun e => by rw [e]; simp)) hk3
  · have ha : ∀ k, inB a' k → inB p.oa k ∨ w.heap.size ≤ k := fun k hk => (hg2 k hk).imp id (fun e => by rw [e]; simp; omega)
    refine ⟨fun k hk => ?_, fun k hk => ?_, ?_⟩
    · rcases hk with x | x | x
      · exact Or.inl (Or.inl x)
      · exact Or.inl (Or.inr (Or.inl x))
      · exact (ha k x).imp (fun y => Or.inr (Or.inr y)) id
    · rcases List.mem_append.1 hk with y | y
      · exact Or.inl y
      · simp at y; subst y; exact Or.inr (by omega)
    · exact ((hk0.mono (ex' := Wri b p) (fun _ _ e => e.elim)).trans (hk3.mono (fun _ _ e => Or.inr (Or.inr e)))).setCell (p := ⟨b, o + 23, none⟩) (fun _ => Or.inl rfl) _
end Go.Proofs.YtlfijfodklhplaaGreat
/- append onto nil or a row of one's own, told whole: in its place, or in a new block. -/
namespace Go.Proofs.YtlfijfodklhplaaGreat
open Go.RowKit
set_option linter.unusedVariables false
set_option linter.unusedSimpArgs false

/-- append of cells that lie somewhere, onto nil or a row of one's own. -/
theorem run_append_rvS {P : Program} (w : World) (t ty e : TypeId) (z : Value) (size bytes : Nat) (ht : P.underlying t = some (.slice e)) (hinfo : (P.info? e).map (fun i => (i.zero, i.size, i.bytes)) = some (some z, size, bytes)) (hzs : z.cells.size = size)
    (a : Option Addr) (n c : Nat) (vs : List Value) (hb : RV w e size a n c vs) (ad : Addr) (m c' : Nat) (h0 : 0 < m) (news : List Value) (hm : news.length = m * size)
    (hc : ∀ j u, news[j]? = some u → w.cell? (ad.add j) = some u) (h1 : ∀ u ∈ news, u.oneCell' = true) (hbytes : (n + m) * bytes ≤ 140737488355328) (h63 : n + m ≤ 9223372036854775807) :
    ∃ a' k' w', (Builtin.append_ #[t, t] ty #[.slice a n c, .slice (some ad) m c']).run P w = .ok (.slice a' (n + m) k') w' ∧ RV w' e size a' (n + m) k' (vs ++ news) ∧ ((a' = a ∧ k' = c) ∨ (a' = some ⟨w.heap.size, 0, none⟩ ∧ Keep nil w w')) ∧ Keep (inB a) w w' := by
  obtain ⟨hn, hnc, hb⟩ := hb
  have hlen : (vs ++ news).length = (n + m) * size := by rw [List.length_append, hn, hm, Nat.add_mul]
  rcases hb with ⟨rfl, rfl, rfl⟩ | ⟨g, o, rfl, hb⟩
  · have hv : vs = [] := List.eq_nil_of_length_eq_zero (by simpa using hn)
    subst hv
    rw [Nat.zero_add] at hbytes h63 ⊢
    obtain ⟨k', w', hr, h2, h3, h4⟩ := run_append_new (P := P) w t ty e z size bytes ht hinfo hzs ad m c' h0 news hm hc hbytes h63
    obtain ⟨sp, hbl, hsp⟩ := h2
    refine ⟨_, k', w', hr, ⟨by simpa using hm, h3, Or.inr ⟨w.heap.size, 0, rfl, [], sp, by simpa using hbl, rfl, by simp at hsp ⊢; omega⟩⟩, Or.inr ⟨rfl, h4⟩, h4.mono (fun _ _ e => e.elim)⟩
  · obtain ⟨i, hi, hz, hs, hby⟩ := info_parts hinfo
    have hb0 := hb
    obtain ⟨pre, sp, hbl, rfl, hl⟩ := hb
    by_cases hroom : n + m ≤ c
    · have hsp : m * size ≤ sp.length := by
        have : (n + m) * size ≤ c * size := Nat.mul_le_mul_right _ hroom
        rw [Nat.add_mul] at this; omega
      have hr := run_append_room_at (P := P) w t ty e i ht hi g pre.length n c (pre ++ vs ++ sp).toArray hbl ad m c' news (by rw [hm, hs]) hc h1 hroom (by simp [hs, hm, hn]; omega)
      refine ⟨_, c, _, hr, ⟨hlen, hroom, Or.inr ⟨g, pre.length, rfl, pre, sp.drop (m * size), ?_, rfl, by simp [hm, hn]; omega⟩⟩, Or.inl ⟨rfl, rfl⟩, ?_⟩
      · unfold Blk at hbl ⊢
        rw [setRow_heap w g _ _ _ _ hbl]
        have e1 : (pre ++ vs ++ sp).take (pre.length + n * i.size) = pre ++ vs := by rw [hs, ← hn, ← List.length_append]; exact List.take_left
        have e2 : (pre ++ vs ++ sp).drop (pre.length + n * i.size + news.length) = sp.drop (m * size) := by rw [hs, ← hn, hm, ← List.length_append, List.drop_append, List.drop_of_length_le (by omega)]; simp
        rw [e1, e2]; simp
      · exact ⟨rfl, rfl, rfl, by simp [World.setRow], fun k hk hn => setRow_other w g k _ (fun e => hn (inB_some.2 e))⟩
    · have hg : c < n + m := by omega
      have hr := run_append_grow (P := P) w t ty e i z ht hi hz ⟨g, pre.length, none⟩ n c vs (by rw [hn, hs]) (fun j v hv => by
        rw [Addr.add_lit]; exact hb0.cell j v hv) ad m c' news (by rw [hm, hs]) hc hg (by omega) (by rw [hby]; exact growslice_fits hg hbytes)
      have hge := grownCap_ge w (n + m) c e
      refine ⟨_, _, _, hr, ⟨hlen, hge, Or.inr ⟨w.heap.size, 0, rfl, [], (Builtin.zeroCells z.cells (grownCap w (n + m) c e - (n + m))).toList, ?_, rfl, ?_⟩⟩, Or.inr ⟨rfl, ((Keep.refl _ w).drew).alloc _⟩, ((Keep.refl _ w).drew).alloc _⟩
      · have := Blk.new w.drew (vs.toArray ++ news.toArray ++ Builtin.zeroCells z.cells (grownCap w (n + m) c e - (n + m))) e
        have e3 : vs.toArray ++ news.toArray ++ Builtin.zeroCells z.cells (grownCap w (n + m) c e - (n + m)) = ([] ++ (vs ++ news) ++ (Builtin.zeroCells z.cells (grownCap w (n + m) c e - (n + m))).toList).toArray := by
          apply Array.ext'; simp
        rw [e3] at this ⊢
        exact this
      · rw [zero_len, hzs, List.length_append, hn, hm, ← Nat.add_mul, ← Nat.add_mul]
        exact Nat.mul_le_mul_right _ (by omega)

theorem wpList_append_rvS {P : Program} (w : World) {ops : Array Oper} {rest : List Oper} {o : Oper} {a : Act} {Q : Exit → Act → World → Prop}
    (hg : o.guard = none) (s x : Operand) (t : TypeId) (hop : o.op = Op.call { callee := Callee.builtin Builtin.append, args := #[s, x], argTypes := #[t, t] })
    (e : TypeId) (z : Value) (size bytes : Nat) (ht : P.underlying t = some (.slice e)) (hinfo : (P.info? e).map (fun i => (i.zero, i.size, i.bytes)) = some (some z, size, bytes)) (hzs : z.cells.size = size)
    (sa : Option Addr) (n c : Nat) (hs : a.eval s = .slice sa n c) (vs : List Value) (hb : RV w e size sa n c vs) (ad : Addr) (m c' : Nat) (h0 : 0 < m) (hx : a.eval x = .slice (some ad) m c') (news : List Value) (hm : news.length = m * size)
    (hc : ∀ j u, news[j]? = some u → w.cell? (ad.add j) = some u) (h1 : ∀ u ∈ news, u.oneCell' = true) (hbytes : (n + m) * bytes ≤ 140737488355328) (h63 : n + m ≤ 9223372036854775807)
    (hK : ∀ a' k' w', RV w' e size a' (n + m) k' (vs ++ news) → ((a' = sa ∧ k' = c) ∨ (a' = some ⟨w.heap.size, 0, none⟩ ∧ Keep nil w w')) → Keep (inB sa) w w' → wpList P ops Q rest (a.put o.dst (.slice a' (n + m) k')) w') :
    wpList P ops Q (o :: rest) a w := by
  refine wpList_plain hg fun K hK' => ?_
  obtain ⟨a', k', w', hrun, r1, r2, r3⟩ := run_append_rvS (P := P) w t o.type e z size bytes ht hinfo hzs sa n c vs hb ad m c' h0 news hm hc h1 hbytes h63
  unfold Oper.wp
  simp [execOp, hop, resolve, invoke, builtin, hs, hx, hrun, Result.andThen]
  exact hK' _ _ (hK a' k' w' r1 r2 r3)

theorem step_append_rvS {P : Program} {ops : Array Oper} {o : Oper} {a : Act} {w : World} {K : Act → World → Prop} {Q : Exit → Act → World → Prop} {E : Prop}
    (hg : o.guard = none) (s x : Operand) (t : TypeId) (hop : o.op = Op.call { callee := Callee.builtin Builtin.append, args := #[s, x], argTypes := #[t, t] })
    (e : TypeId) (z : Value) (size bytes : Nat) (ht : P.underlying t = some (.slice e)) (hinfo : (P.info? e).map (fun i => (i.zero, i.size, i.bytes)) = some (some z, size, bytes)) (hzs : z.cells.size = size)
    (sa : Option Addr) (n c : Nat) (hs : a.eval s = .slice sa n c) (vs : List Value) (hb : RV w e size sa n c vs) (ad : Addr) (m c' : Nat) (h0 : 0 < m) (hx : a.eval x = .slice (some ad) m c') (news : List Value) (hm : news.length = m * size)
    (hc : ∀ j u, news[j]? = some u → w.cell? (ad.add j) = some u) (h1 : ∀ u ∈ news, u.oneCell' = true) (hbytes : (n + m) * bytes ≤ 140737488355328) (h63 : n + m ≤ 9223372036854775807)
    (hK : ∀ a' k' w', RV w' e size a' (n + m) k' (vs ++ news) → ((a' = sa ∧ k' = c) ∨ (a' = some ⟨w.heap.size, 0, none⟩ ∧ Keep nil w w')) → Keep (inB sa) w w' → K (a.put o.dst (.slice a' (n + m) k')) w') :
    if Region.wanted o (yielded ops a.tmps) = true then Oper.wp P o a w K Q else E := by
  have hw : Region.wanted o (yielded ops a.tmps) = true := by simp [Region.wanted, hg]
  rw [if_pos hw]
  obtain ⟨a', k', w', hrun, r1, r2, r3⟩ := run_append_rvS (P := P) w t o.type e z size bytes ht hinfo hzs sa n c vs hb ad m c' h0 news hm hc h1 hbytes h63
  unfold Oper.wp
  simp [execOp, hop, resolve, invoke, builtin, hs, hx, hrun, Result.andThen]
  exact hK a' k' w' r1 r2 r3


/-- The row itself stands, whatever was put behind it. -/
theorem rv_after {w w' : World} {e : TypeId} {size : Nat} {a a' : Option Addr} {n c m k' : Nat} {vs news : List Value} (h : RV w e size a n c vs) (h' : RV w' e size a' (n + m) k' (vs ++ news)) (hd : (a' = a ∧ k' = c) ∨ (a' = some ⟨w.heap.size, 0, none⟩ ∧ Keep nil w w')) : RV w' e size a n c vs := by
  rcases hd with ⟨rfl, rfl⟩ | ⟨_, k⟩
  · obtain ⟨h1, h2, h3⟩ := h
    obtain ⟨g1, g2, g3⟩ := h'
    refine ⟨h1, h2, ?_⟩
    rcases g3 with ⟨e1, e2, e3⟩ | ⟨g, o, rfl, pre, sp, hb, hp, hc⟩
    · exact Or.inl ⟨e1, by omega, e3⟩
    · exact Or.inr ⟨g, o, rfl, pre, news ++ sp, by simpa [List.append_assoc] using hb, hp, by simp at hc ⊢; omega⟩
  · exact h.keep k (fun _ _ x => x)
end Go.Proofs.YtlfijfodklhplaaGreat
/- Rows of edges; walk of lentEdges. -/
namespace Go.Proofs.YtlfijfodklhplaaGreat
open Go.RowKit
set_option linter.unusedVariables false

structure Ed where
  a : Int
  b : Int
  wt : Int
def Ed.cells (e : Ed) : List Value := [.int .i64 e.a, .int .i64 e.b, .int .i64 e.wt]
def ecells (l : List Ed) : List Value := l.flatMap Ed.cells
theorem ecells_len (l : List Ed) : (ecells l).length = l.length * 3 := by
  induction l with
  | nil => rfl
  | cons e t ih => simp only [ecells, List.flatMap_cons, List.length_append, List.length_cons] at ih ⊢; rw [ih]; simp [Ed.cells]; omega
theorem ecells_append (l m : List Ed) : ecells (l ++ m) = ecells l ++ ecells m := by simp [ecells]
theorem ecells_one (l : List Ed) : ∀ u ∈ ecells l, u.oneCell' = true := by
  intro u hu
  obtain ⟨e, _, h⟩ := List.mem_flatMap.1 hu
  simp only [Ed.cells, List.mem_cons, List.not_mem_nil, or_false] at h
  rcases h with rfl | rfl | rfl <;> rfl
/-- Edges in a row of memory. -/
def ERow (w : World) (b o : Nat) (l : List Ed) : Prop := ∀ j u, (ecells l)[j]? = some u → w.cell? ⟨b, o + j, none⟩ = some u
theorem ERow.keep {ex : Nat → Prop} {w w' : World} {b o : Nat} {l : List Ed} (h : ERow w b o l) (k : Keep ex w w') (hb : b < w.heap.size) (hn : ¬ ex b) : ERow w' b o l := fun j u hu => (k.cell b (o + j) hb hn).trans (h j u hu)
abbrev EBuf (w : World) (g : Nat) (l : List Ed) (c : Nat) : Prop := VBuf w g 30 3 (ecells l) c
theorem ebuf_row {w : World} {g : Nat} {l : List Ed} {c : Nat} (h : EBuf w g l c) : ERow w g 0 l := fun j u hu => by rw [Nat.zero_add]; exact h.cell j u hu
theorem cells_erow {w : World} {b o : Nat} {l : List Ed} (h : ERow w b o l) : ∀ j u, (ecells l)[j]? = some u → w.cell? ((⟨b, o, none⟩ : Addr).add j) = some u := fun j u hu => by
  rw [Addr.add_lit]; exact h j u hu
theorem edge_info : (Tryz.prog.info? 30).map (fun i => (i.zero, i.size, i.bytes)) = some (some (.agg #[.int .i64 0, .int .i64 0, .int .i64 0]), 3, 24) := by kernel_rfl
theorem cells_elist (w : World) (vs : List Value) (t : TypeId) (n : Nat) (hn : n = w.heap.size) : ∀ j u, vs[j]? = some u → (w.alloc (.cells vs.toArray t)).cell? ((⟨n, 0, none⟩ : Addr).add j) = some u := by
  intro j u hu
  subst hn
  rw [Addr.add_lit, Nat.zero_add, World.cell?_alloc_new, List.getElem?_toArray]
  exact hu

def emarks (n : Nat) : List Ed := (List.range n).map (fun i : Nat => ⟨900 + (i : Int), 901, -902⟩)
theorem emarks_len (n : Nat) : (emarks n).length = n := by simp [emarks]
theorem emarks_succ (n : Nat) : emarks (n + 1) = emarks n ++ [⟨900 + (n : Int), 901, -902⟩] := by simp [emarks, List.range_succ]

/-- What 'lent' has so far: nothing, or a row of its own. -/
def EState (w wr : World) (l : List Ed) (i : Nat) (v : Value) : Prop := Keep nil w wr ∧
  ((l ++ emarks i = [] ∧ v = .slice none 0 0) ∨ ∃ g c, v = .slice (some ⟨g, 0, none⟩) (l.length + i) c ∧ w.heap.size ≤ g ∧ EBuf wr g (l ++ emarks i) c ∧ l.length + i ≤ c)

set_option maxRecDepth 100000 in
theorem lentE_nil (w : World) : Calls Tryz.prog 73 #[.slice none 0 0] w fun e w' => e = .returned (.slice none 0 0) ∧ w = w' := by
  have hnil : ∀ (w : World) (a : Option Addr) (n c : Nat), (binOp .eql 26 (.slice a n c) (.slice none 0 0)).run Tryz.prog w = .ok (.bool a.isNone) w := fun w a n c => Lib.run_eql_slice_nil w 26 30 a n c 0 0 Tryz.underlying26
  go_enter Tryz.func73, Tryz.ntmps73
  go_wp2
  go_ret
  exact ⟨rfl, rfl⟩

set_option maxRecDepth 100000 in
set_option maxHeartbeats 1000000 in
theorem lentE_any (bb bo cap : Nat) (l : List Ed) (w : World) (hrow : ERow w bb bo l) (hbb : bb < w.heap.size) (hlen : (l.length : Int) ≤ 5864062014700) (hne : 0 < l.length) :
    Calls Tryz.prog 73 #[.slice (some ⟨bb, bo, none⟩) l.length cap] w fun e w' =>
      ∃ g c, e = .returned (.slice (some ⟨g, 0, none⟩) l.length c) ∧ w.heap.size ≤ g ∧ EBuf w' g (l ++ emarks 8) c ∧ l.length + 8 ≤ c ∧ Keep nil w w' := by
  have hnil : ∀ (w : World) (a : Option Addr) (n c : Nat), (binOp .eql 26 (.slice a n c) (.slice none 0 0)).run Tryz.prog w = .ok (.bool a.isNone) w := fun w a n c => Lib.run_eql_slice_nil w 26 30 a n c 0 0 Tryz.underlying26
  go_enter Tryz.func73, Tryz.ntmps73
  go_wp2_with (at_builtin; refine wpList_append_new _ rfl (.tmp 7) (.tmp 8) 26 rfl 30 (.agg #[.int .i64 0, .int .i64 0, .int .i64 0]) 3 24 Tryz.underlying26 edge_info rfl rfl ⟨bb, bo, none⟩ l.length cap hne rfl (ecells l) (ecells_len l) (cells_erow hrow) (by omega) (by omega) ?_; intro k' w1 hb1 hc1 hk1)
  clear hnil
  go_loopw [3, 4] (fun v i wr => ∃ k : Nat, k ≤ 8 ∧ i = .int .i64 (k : Int) ∧ EState w wr l k v) (fun _ i _ => 8 - (intOf i).toNat)
  case atStart => exact ⟨0, by omega, rfl, hk1, Or.inr ⟨w.heap.size, k', rfl, Nat.le_refl _, by simpa [emarks] using hb1, by omega⟩⟩
  case round =>
    obtain ⟨k, hk, rfl, hkeep, hst⟩ := hrel
    have hsz := hkeep.size
    have hkI : (k : Int) ≤ 8 := by omega
    rcases hst with ⟨he, rfl⟩ | ⟨g, c, rfl, hg, hb, hc⟩
    · exfalso
      have := (List.append_eq_nil_iff.1 he).1
      subst this
      simp at hne
    · have hgl := hb.lt
      by_cases hk8 : k < 8
      · go_wp2_with (at_builtin; refine wpList_append_any _ rfl (.tmp 14) (.tmp 18) 26 rfl 30 (.agg #[.int .i64 0, .int .i64 0, .int .i64 0]) 3 24 Tryz.underlying26 edge_info rfl g (l.length + k) c rfl (ecells (l ++ emarks k)) (by rw [ecells_len]; simp [emarks_len]) (hb.alloc _) ⟨wr.heap.size, 0, none⟩ 1 1 rfl (ecells [⟨900 + (k : Int), 901, -902⟩]) rfl (cells_elist wr (ecells [⟨900 + (k : Int), 901, -902⟩]) 30 _ rfl) (ecells_one _) (by omega) (by omega) ?_; intro g' c' w2 hb2 hc2 hd2 hk2)
        go_roundw
        case rel =>
          refine ⟨k + 1, by omega, by go_num, hkeep.trans' (((Keep.refl (only g) wr).alloc _).trans hk2) (fun i hi e => by simp only [only] at e; omega), Or.inr ⟨g', c', by rw [Nat.add_assoc], ?_, ?_, by omega⟩⟩
          · rcases hd2 with ⟨rfl, _⟩ | ⟨rfl, _⟩
            · exact hg
            · simp; omega
          · have e : ecells (l ++ emarks (k + 1)) = ecells (l ++ emarks k) ++ (ecells [⟨900 + (k : Int), 901, -902⟩]) := by rw [emarks_succ, ← List.append_assoc, ecells_append]
            show VBuf _ _ _ _ _ _
            rw [e]; exact hb2
        case measure => simp [intOf]; omega
      · have e8 : k = 8 := by omega
        subst e8
        go_wp2
        go_ret
        exact ⟨g, c, rfl, hg, hb, hc, hkeep⟩

set_option maxRecDepth 100000 in
set_option maxHeartbeats 1000000 in
theorem lentE_empty (ad : Addr) (cap : Nat) (w : World) :
    Calls Tryz.prog 73 #[.slice (some ad) 0 cap] w fun e w' =>
      ∃ g c, e = .returned (.slice (some ⟨g, 0, none⟩) 0 c) ∧ w.heap.size ≤ g ∧ EBuf w' g ([] ++ emarks 8) c ∧ 8 ≤ c ∧ Keep nil w w' := by
  have hnil : ∀ (w : World) (a : Option Addr) (n c : Nat), (binOp .eql 26 (.slice a n c) (.slice none 0 0)).run Tryz.prog w = .ok (.bool a.isNone) w := fun w a n c => Lib.run_eql_slice_nil w 26 30 a n c 0 0 Tryz.underlying26
  go_enter Tryz.func73, Tryz.ntmps73
  go_wp2
  clear hnil
  go_loopw [3, 4] (fun v i wr => ∃ k : Nat, k ≤ 8 ∧ i = .int .i64 (k : Int) ∧ EState w wr [] k v) (fun _ i _ => 8 - (intOf i).toNat)
  case atStart => exact ⟨0, by omega, rfl, Keep.refl _ _, Or.inl ⟨rfl, rfl⟩⟩
  case round =>
    obtain ⟨k, hk, rfl, hkeep, hst⟩ := hrel
    have hsz := hkeep.size
    have hkI : (k : Int) ≤ 8 := by omega
    rcases hst with ⟨he, rfl⟩ | ⟨g, c, rfl, hg, hb, hc⟩
    · have hk0 : k = 0 := by
        have := congrArg List.length he
        simp [emarks_len] at this
        exact this
      subst hk0
      go_wp2_with (at_builtin; refine wpList_append_new _ rfl (.tmp 14) (.tmp 18) 26 rfl 30 (.agg #[.int .i64 0, .int .i64 0, .int .i64 0]) 3 24 Tryz.underlying26 edge_info rfl rfl ⟨wr.heap.size, 0, none⟩ 1 1 (by omega) rfl (ecells [⟨900, 901, -902⟩]) rfl (cells_elist wr (ecells [⟨900, 901, -902⟩]) 30 _ rfl) (by omega) (by omega) ?_; intro c' w2 hb2 hc2 hk2)
      go_roundw
      case rel =>
        rw [World.size_alloc] at hb2
        exact ⟨1, by omega, by go_num, (hkeep.alloc _).trans hk2, Or.inr ⟨wr.heap.size + 1, c', rfl, by omega, hb2, by simpa using hc2⟩⟩
      case measure => simp [intOf]
    · have hgl := hb.lt
      simp only [List.length_nil, Nat.zero_add] at hb hc ⊢
      by_cases hk8 : k < 8
      · go_wp2_with (at_builtin; refine wpList_append_any _ rfl (.tmp 14) (.tmp 18) 26 rfl 30 (.agg #[.int .i64 0, .int .i64 0, .int .i64 0]) 3 24 Tryz.underlying26 edge_info rfl g k c rfl (ecells ([] ++ emarks k)) (by rw [ecells_len]; simp [emarks_len]) (hb.alloc _) ⟨wr.heap.size, 0, none⟩ 1 1 rfl (ecells [⟨900 + (k : Int), 901, -902⟩]) rfl (cells_elist wr (ecells [⟨900 + (k : Int), 901, -902⟩]) 30 _ rfl) (ecells_one _) (by omega) (by omega) ?_; intro g' c' w2 hb2 hc2 hd2 hk2)
        go_roundw
        case rel =>
          refine ⟨k + 1, by omega, by go_num, hkeep.trans' (((Keep.refl (only g) wr).alloc _).trans hk2) (fun i hi e => by simp only [only] at e; omega), Or.inr ⟨g', c', by simp, ?_, ?_, by simpa using hc2⟩⟩
          · rcases hd2 with ⟨rfl, _⟩ | ⟨rfl, _⟩
            · exact hg
            · simp; omega
          · have e : ecells ([] ++ emarks (k + 1)) = ecells ([] ++ emarks k) ++ (ecells [⟨900 + (k : Int), 901, -902⟩]) := by rw [emarks_succ, ← List.append_assoc, ecells_append]
            show VBuf _ _ _ _ _ _
            rw [e]; exact hb2
        case measure => simp [intOf]; omega
      · have e8 : k = 8 := by omega
        subst e8
        go_wp2
        go_ret
        exact ⟨g, c, rfl, hg, hb, hc, hkeep⟩
end Go.Proofs.YtlfijfodklhplaaGreat
