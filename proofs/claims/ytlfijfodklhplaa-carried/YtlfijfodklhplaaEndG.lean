/- A frame goes out: walk of goesOut. -/
import Derived.Test.YtlfijfodklhplaaEndS
namespace Go.Proofs.Ytlfijfodklhplaa
open Go.RowKit
set_option linter.unusedVariables false

/-- What a call on an end may do besides: it writes its own blocks alone, and what it has then was its own, or is new. -/
structure Step (w w' : World) (b : Nat) (p p' : Pl) : Prop where
  wri : ∀ k, Wri b p' k → Wri b p k ∨ w.heap.size ≤ k
  gs : ∀ k, k ∈ p'.gs → k ∈ p.gs ∨ w.heap.size ≤ k
  keep : Keep (Wri b p) w w'
theorem Step.refl (w : World) (b : Nat) (p : Pl) : Step w w b p p := ⟨fun _ h => Or.inl h, fun _ h => Or.inl h, Keep.refl _ _⟩
theorem Step.trans {w w1 w2 : World} {b : Nat} {p p1 p2 : Pl} (h : Step w w1 b p p1) (k : Step w1 w2 b p1 p2) : Step w w2 b p p2 :=
  ⟨fun i hi => (k.wri i hi).elim (fun x => h.wri i x) (fun x => Or.inr (Nat.le_trans h.keep.size x)), fun i hi => (k.gs i hi).elim (fun x => h.gs i x) (fun x => Or.inr (Nat.le_trans h.keep.size x)),
    h.keep.trans' k.keep (fun i hi x => (h.wri i x).elim id (fun y => by omega))⟩
theorem Step.of_keep {w w1 : World} (b : Nat) (p : Pl) (h : Keep nil w w1) : Step w w1 b p p := ⟨fun _ h => Or.inl h, fun _ h => Or.inl h, h.mono (fun _ _ e => e.elim)⟩
theorem Mine.cases {b : Nat} {p : Pl} {k : Nat} (h : Mine b p k) : Wri b p k ∨ k ∈ p.gs := by
  rcases h with h | h | h | h
  · exact Or.inl (Or.inl h)
  · exact Or.inl (Or.inr (Or.inl h))
  · exact Or.inl (Or.inr (Or.inr h))
  · exact Or.inr h
theorem Wri.mine {b : Nat} {p : Pl} {k : Nat} (h : Wri b p k) : Mine b p k := by
  rcases h with h | h | h
  · exact Or.inl h
  · exact Or.inr (Or.inl h)
  · exact Or.inr (Or.inr (Or.inl h))

theorem Step.mine {w w' : World} {b : Nat} {p p' : Pl} (h : Step w w' b p p') : ∀ k, Mine b p' k → Mine b p k ∨ w.heap.size ≤ k := fun k hk =>
  hk.cases.elim (fun x => (h.wri k x).imp Wri.mine id) (fun x => (h.gs k x).imp (fun y => Or.inr (Or.inr (Or.inr y))) id)

theorem ovals_append (gs : List Nat) (l : List Fr.Frm) (h : gs.length = l.length) (g : Nat) (f : Fr.Frm) : ovals (gs ++ [g]) (l ++ [f]) = ovals gs l ++ [fval g f] := by
  simp [ovals, List.zipWith_append h]

theorem Rep.out_one {w w1 : World} {c : Array Value} {t : TypeId} {b o : Nat} {e : En} {p : Pl} (h : Rep w c t b o e p) (f : Fr.Frm) (g : Nat) (hf : FrOk f) (hg : Buf w g (Fr.enc f) 10) (hgm : ¬ Mine b p g) (a' : Option Addr) (c' : Nat)
    (hr : RV w1 27 1 a' (e.out.length + 1) c' (ovals p.gs e.out ++ [fval g f])) (ha : ∀ k, inB a' k → inB p.oa k ∨ w.heap.size ≤ k) (hk : Keep (inB p.oa) w w1) :
    Rep (w1.setCell ⟨b, o + 23, none⟩ (.slice a' (e.out.length + 1) c')) c t b o { e with out := e.out ++ [f] } { p with oa := a', oc := c', gs := p.gs ++ [g] } := by
  have hbl := h.blk.lt
  have ks : Keep (only b) w1 (w1.setCell ⟨b, o + 23, none⟩ (.slice a' (e.out.length + 1) c')) := (Keep.refl (only b) w1).setCell (p := ⟨b, o + 23, none⟩) (fun _ => rfl) _
  have hlt := h.lt
  have hab : ∀ k, inB a' k → k ≠ b := fun k hk' e => (ha k hk').elim (fun x => h.ob (e ▸ x)) (fun x => by omega)
  have hl : ({ e with out := e.out ++ [f] } : En).cells { p with oa := a', oc := c', gs := p.gs ++ [g] } = (e.cells p).set 23 (.slice a' (e.out.length + 1) c') := by
    have := cells_set23 e p h.four (e.out ++ [f]) a' c' (p.gs ++ [g])
    rw [← this]; simp
  refine { blk := ?_, fit := h.fit, four := h.four, wrow := ?_, orow := ?_, gl := by simp [h.gl], bufs := ?_, wb := h.wb, ob := fun x => hab b x rfl, wo := ?_, gw := ?_, gn := ?_, wok := h.wok, most := h.most, awt := h.awt, kn := h.kn, fok := ?_ }
  · rw [hl]
    exact (h.blk.keep hk h.ob).put_at h.len 23 (by rw [cells_len e p h.four]; omega) _
  · exact (h.wrow.keep hk (fun k hw ho => h.wo k hw ho)).keep ks (fun k hw hb => h.wb (hb ▸ hw))
  · show RV _ _ _ a' (e.out ++ [f]).length c' (ovals (p.gs ++ [g]) (e.out ++ [f]))
    rw [ovals_append _ _ h.gl, List.length_append]
    exact hr.keep ks (fun k hk' => hab k hk')
  · intro i g' f' hg' hf'
    have hgw : ∀ k, Buf w k (Fr.enc f') 10 → ¬ inB p.oa k → k ≠ b → Buf (w1.setCell ⟨b, o + 23, none⟩ (.slice a' (e.out.length + 1) c')) k (Fr.enc f') 10 := fun k hb h1 h2 => (hb.keep hk h1).keep ks h2
    by_cases hi : i < p.gs.length
    · have hi' : i < e.out.length := by have := h.gl; omega
      rw [List.getElem?_append_left hi] at hg'
      rw [List.getElem?_append_left hi'] at hf'
      have hw := h.gw g' (List.mem_of_getElem? hg')
      exact hgw g' (h.bufs i g' f' hg' hf') (fun x => hw (Or.inr (Or.inr x))) (fun x => hw (Or.inl x))
    · have hi' : ¬ i < e.out.length := by have := h.gl; omega
      rw [List.getElem?_append_right (by omega)] at hg' hf'
      have e1 : i - p.gs.length = 0 := by
        have := (List.getElem?_eq_some_iff.1 hg').1
        simp at this; omega
      have e2 : i - e.out.length = 0 := by
        have := (List.getElem?_eq_some_iff.1 hf').1
        simp at this; omega
      rw [e1] at hg'
      rw [e2] at hf'
      simp at hg' hf'
      subst hg' hf'
      exact hgw g hg (fun x => hgm (Or.inr (Or.inr (Or.inl x)))) (fun x => hgm (Or.inl x))
  · intro k hw ho
    rcases ha k ho with x | x
    · exact h.wo k hw x
    · have := hlt k (Or.inr (Or.inl hw)); omega
  · intro k hk' hw
    have hkl : k < w.heap.size ∧ ¬ Wri b p k := by
      rcases List.mem_append.1 hk' with x | x
      · exact ⟨hlt k (Or.inr (Or.inr (Or.inr x))), h.gw k x⟩
      · simp at x; subst x; exact ⟨hg.lt, fun y => hgm y.mine⟩
    rcases hw with x | x | x
    · exact hkl.2 (Or.inl x)
    · exact hkl.2 (Or.inr (Or.inl x))
    · rcases ha k x with y | y
      · exact hkl.2 (Or.inr (Or.inr y))
      · omega
  · rw [List.nodup_append]
    refine ⟨h.gn, by simp, ?_⟩
    intro x hx y hy e
    simp at hy
    subst hy e
    exact hgm (Or.inr (Or.inr (Or.inr hx)))
  · intro f' hf'
    rcases List.mem_append.1 hf' with x | x
    · exact h.fok f' x
    · simp at x; subst x; exact hf

set_option maxHeartbeats 1000000 in
theorem goesOut_any (c : Array Value) (t : TypeId) (b o : Nat) (e : En) (p : Pl) (f : Fr.Frm) (hf : FrOk f) (w : World) (h : Rep w c t b o e p) (hn : (e.out.length : Int) < 1099511627776) :
    Calls Try.prog 39 #[.pointer (some ⟨b, o, none⟩), .agg (fv f)] w fun r w' => r = .returned (.tuple #[]) ∧ ∃ p', Rep w' c t b o { e with out := e.out ++ [f] } p' ∧ Step w w' b p p' := by
  have hbl := h.blk.lt
  have HF : Unit → FrOk f := fun _ => hf
  have HR : Unit → Rep w c t b o e p := fun _ => h
  clear h hf
  go_enter Try.func39, Try.ntmps39
  go_wp2_with fail
  refine (encode_any f (HF ()) _).mono ?_
  rintro r w1 ⟨g, rfl, hg, hb, hk1⟩
  have hk0 : Keep nil w w1 := ((Keep.refl nil w).alloc _).trans hk1
  have h1 := (HR ()).keep hk0 (fun _ _ x => x)
  have hz := hk0.size
  simp only [World.size_alloc] at hg
  have q1 := h1.c23
  have hf23 := h1.frozen (o + 23)
  have HB : Unit → Buf w1 g (Fr.enc f) 10 := fun _ => hb
  have H1 : Unit → Rep w1 c t b o e p := fun _ => h1
  have hr := h1.orow
  have hob := h1.ob
  clear hb h1
  go_wp2_with (at_builtin; refine wpList_append_rv _ rfl (.tmp 15) (.tmp 17) 38 rfl 27 (.slice none 0 0) 1 24 Try.underlying38 list_info rfl p.oa e.out.length p.oc rfl (ovals p.gs e.out) (hr.alloc _) ⟨w1.heap.size, 0, none⟩ 1 1 (by omega) rfl [fval g f] rfl (cells_list w1 [fval g f] 27 _ rfl) (by simp [fval, Value.oneCell']) (by omega) (by omega) ?_; intro a' c' w2 hr2 hg2 hk2; have hk3 : Keep (inB p.oa) w1 w2 := ((Keep.refl _ w1).alloc _).trans hk2; have q2 := (hk3.cell b (o + 23) (by omega) hob).trans q1; have q3 := (hk3.frozen b (o + 23) (by omega) hob).trans hf23)
  go_end0
  have h1 := H1 ()
  refine ⟨rfl, { p with oa := a', oc := c', gs := p.gs ++ [g] }, ?_, ?_⟩
  · exact h1.out_one f g (HF ()) (HB ()) (fun x => by have := (HR ()).lt g x; omega) a' c' hr2 (fun k hk => (hg2 k hk).imp id (fun e => by rw [e]; simp)) hk3
  · have ha : ∀ k, inB a' k → inB p.oa k ∨ w.heap.size ≤ k := fun k hk => (hg2 k hk).imp id (fun e => by rw [e]; simp; omega)
    refine ⟨fun k hk => ?_, fun k hk => ?_, ?_⟩
    · rcases hk with x | x | x
      · exact Or.inl (Or.inl x)
      · exact Or.inl (Or.inr (Or.inl x))
      · exact (ha k x).imp (fun y => Or.inr (Or.inr y)) id
    · rcases List.mem_append.1 hk with y | y
      · exact Or.inl y
      · simp at y; subst y; exact Or.inr (by omega)
    · exact ((hk0.mono (ex' := Wri b p) (fun _ _ e => e.elim)).trans (hk3.mono (fun _ _ e => Or.inr (Or.inr e)))).setCell (p := ⟨b, o + 23, none⟩) (fun _ => Or.inl rfl) _
end Go.Proofs.Ytlfijfodklhplaa
