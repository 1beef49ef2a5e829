/- What waits for no other one any more is taken: walk of take. -/
import Derived.Test.YtlfijfodklhplaaEndK
namespace Go.Proofs.Ytlfijfodklhplaa
open Go.RowKit
set_option linter.unusedVariables false

/-- copy of elements of several cells, into a block known whole. -/
theorem run_copy_sz {P : Program} (w : World) (dT sT ty elem : TypeId) (size g o dLen dCap : Nat) (a : Addr) (sLen sCap n : Nat) (cur : Array Value) (t : TypeId) (cs : List Value)
    (hu : P.underlying dT = some (.slice elem)) (hs : (P.info? elem).map (·.size) = some size)
    (hg : w.heap[g]? = some (.cells cur t (0, 0))) (hn : Nat.min sLen dLen = n) (hl : cs.length = n * size)
    (hsrc : ∀ j v, cs[j]? = some v → w.cell? (a.add j) = some v) (hfit : o + cs.length ≤ cur.size) (h1 : ∀ v ∈ cs, v.oneCell' = true) :
    (Builtin.copy_ #[dT, sT] ty #[.slice (some ⟨g, o, none⟩) dLen dCap, .slice (some a) sLen sCap]).run P w =
      .ok (goInt n) (w.setRow g (cur.toList.take o ++ cs ++ cur.toList.drop (o + cs.length)).toArray) := by
  have hlo := run_loadCells_list (P := P) w a cs hsrc
  have hst := run_storeCells_at P g o t cs 0 cur w hg (by simpa using hfit) h1
  cases hq : P.info? elem with
  | none => simp [hq] at hs
  | some i =>
    have hi : i.size = size := by simpa [hq] using hs
    simp [Builtin.copy_, run_underlying hu, Builtin.lenOf, Builtin.firstCells, sizeOf, typeInfo, hq, hi, hn, ← hl, hlo, hst]

theorem step_copy_sz {P : Program} {ops : Array Oper} {o : Oper} {a : Act} {w : World} {K : Act → World → Prop} {Q : Exit → Act → World → Prop} {E : Prop} (hgd : o.guard = none) (d s : Operand) (dT sT : TypeId)
    (ho : o.op = .call { callee := .builtin .copy, args := #[d, s], argTypes := #[dT, sT] }) (elem : TypeId) (size : Nat) (hu : P.underlying dT = some (.slice elem)) (hsz : (P.info? elem).map (·.size) = some size)
    (g off dLen dCap sLen sCap : Nat) (ad : Addr) (hd : a.eval d = .slice (some ⟨g, off, none⟩) dLen dCap) (hs : a.eval s = .slice (some ad) sLen sCap) (n : Nat) (hn : Nat.min sLen dLen = n)
    (cur : Array Value) (t : TypeId) (hg : Blk w g cur t) (cs : List Value) (hl : cs.length = n * size)
    (hsrc : ∀ j v, cs[j]? = some v → w.cell? (ad.add j) = some v) (hfit : off + cs.length ≤ cur.size) (h1 : ∀ v ∈ cs, v.oneCell' = true)
    (h : ∀ w', Blk w' g (cur.toList.take off ++ cs ++ cur.toList.drop (off + cs.length)).toArray t → Keep (only g) w w' → K (a.put o.dst (goInt n)) w') :
    if Region.wanted o (yielded ops a.tmps) = true then Oper.wp P o a w K Q else E := by
  have hw : Region.wanted o (yielded ops a.tmps) = true := by simp [Region.wanted, hgd]
  rw [if_pos hw]
  have hrun := run_copy_sz (P := P) w dT sT o.type elem size g off dLen dCap ad sLen sCap n cur t cs hu hsz hg hn hl hsrc hfit h1
  unfold Oper.wp
  simp [execOp, ho, resolve, invoke, builtin, hd, hs, hrun, Result.andThen]
  exact h _ (by rw [List.append_assoc]; exact setRow_heap w g _ _ t _ hg) ⟨rfl, rfl, rfl, by simp [World.setRow], fun k hk hn => setRow_other w g k _ hn⟩

theorem slot_info : (Try.prog.info? 55).map (·.size) = some 5 := by kernel_rfl
theorem slots_one (l : List (Option Fr.Msg)) : ∀ u ∈ slots l, u.oneCell' = true := by
  intro u hu
  obtain ⟨x, _, h⟩ := List.mem_flatMap.1 hu
  simp only [slot, mcell, List.cons_append, List.nil_append, List.mem_cons, List.not_mem_nil, or_false] at h
  rcases h with rfl | rfl | rfl | rfl | rfl <;> rfl
/-- A piece of a piece of a block, written anew. -/
theorem put_splice (c : Array Value) (o : Nat) (l : List Value) (h : o + l.length ≤ c.size) (i : Nat) (cs : List Value) (hi : i + cs.length ≤ l.length) :
    ((put c o l).toList.take (o + i) ++ cs ++ (put c o l).toList.drop (o + i + cs.length)).toArray = put c o (l.take i ++ cs ++ l.drop (i + cs.length)) := by
  have h1 : (c.toList.take o).length = o := by simp; omega
  apply Array.ext'
  simp only [put]
  have e1 : (c.toList.take o ++ l ++ c.toList.drop (o + l.length)).take (o + i) = c.toList.take o ++ l.take i := by
    rw [List.append_assoc, List.take_append, h1, List.take_of_length_le (by omega), Nat.add_sub_cancel_left, List.take_append_of_le_length (by omega)]
  have e2 : (c.toList.take o ++ l ++ c.toList.drop (o + l.length)).drop (o + i + cs.length) = l.drop (i + cs.length) ++ c.toList.drop (o + l.length) := by
    rw [List.append_assoc, List.drop_append, h1, List.drop_of_length_le (by omega), List.nil_append, Nat.add_assoc, Nat.add_sub_cancel_left, List.drop_append, Nat.sub_eq_zero_of_le (by omega), List.drop_zero]
  rw [e1, e2]
  have e3 : (l.take i ++ cs ++ l.drop (i + cs.length)).length = l.length := by simp; omega
  rw [e3]
  simp

/-- One message less is kept. -/
def En.pop (e : En) : En := { e with await := e.await + 1, kept := e.kept.drop 1 ++ [none] }
def En.pops (e : En) (j : Nat) : En := { e with await := e.await + j, kept := e.kept.drop j ++ List.replicate j none }
theorem pops_zero (e : En) : e.pops 0 = e := by simp [En.pops]
theorem pops_succ (e : En) (j : Nat) (h : j < e.kept.length) : (e.pops j).pop = e.pops (j + 1) := by
  unfold En.pops En.pop
  congr 1
  simp only
  rw [List.drop_append_of_le_length (by simp; omega), List.drop_drop, List.append_assoc, List.replicate_succ']
theorem pop_cells (e : En) (p : Pl) (x0 x1 x2 x3 : Option Fr.Msg) (h : e.kept = [x0, x1, x2, x3]) :
    (((((((e.cells p).set 2 (.int .i64 ((e.await : Int) + 1))).take 3 ++ slots [x1, x2, x3] ++ ((e.cells p).set 2 (.int .i64 ((e.await : Int) + 1))).drop 18).set 18 (.int .i64 0)).set 19 (.int .i64 0)).set 20 (.int .i64 0)).set 21 (.bool false)).set 22 (.bool false) = e.pop.cells p := by
  obtain ⟨f, wt, aw, kp, ot⟩ := e
  simp only at h
  subst h
  rfl
theorem pop_src (e : En) (p : Pl) (x0 x1 x2 x3 : Option Fr.Msg) (h : e.kept = [x0, x1, x2, x3]) (v : Value) (j : Nat) (u : Value) (hu : (slots [x1, x2, x3])[j]? = some u) : ((e.cells p).set 2 v)[8 + j]? = some u := by
  obtain ⟨f, wt, aw, kp, ot⟩ := e
  simp only at h
  subst h
  have hj := (List.getElem?_eq_some_iff.1 hu).1
  have e1 : ((⟨f, wt, aw, [x0, x1, x2, x3], ot⟩ : En).cells p).set 2 v = [.int .i64 (f : Int), .slice p.wa wt.length p.wc, v] ++ slot x0 ++ (slots [x1, x2, x3] ++ [.slice p.oa ot.length p.oc]) := rfl
  rw [e1, List.getElem?_append_right (by simp [slot, mcell])]
  have e2 : 8 + j - ([.int .i64 (f : Int), .slice p.wa wt.length p.wc, v] ++ slot x0).length = j := by simp [slot, mcell]
  rw [e2, List.getElem?_append_left hj, hu]
theorem pop_mid (e : En) (p : Pl) (x0 x1 x2 x3 : Option Fr.Msg) (h : e.kept = [x0, x1, x2, x3]) (v : Value) (j : Nat) (hj : j < 5) : (((e.cells p).set 2 v).take 3 ++ slots [x1, x2, x3] ++ ((e.cells p).set 2 v).drop 18)[18 + j]? = (slot x3)[j]? := by
  obtain ⟨f, wt, aw, kp, ot⟩ := e
  simp only at h
  subst h
  match j, hj with
  | 0, _ => rfl
  | 1, _ => rfl
  | 2, _ => rfl
  | 3, _ => rfl
  | 4, _ => rfl
theorem Rep.popped {w w1 : World} {c : Array Value} {t : TypeId} {b o : Nat} {e : En} {p : Pl} (h : Rep w c t b o e p) (m : Fr.Msg) (hm : e.kept[0]? = some (some m)) (ks : Keep (only b) w w1) (hblk : Blk w1 b (put c o (e.pop.cells p)) t) : Rep w1 c t b o e.pop p := by
  have h4 := h.four
  refine { blk := hblk, fit := h.fit, four := by simp [En.pop, h4], wrow := h.wrow.keep ks (fun k hk hb => h.wb (hb ▸ hk)), orow := h.orow.keep ks (fun k hk hb => h.ob (hb ▸ hk)), gl := h.gl, bufs := fun i g f hg hf => (h.bufs i g f hg hf).keep ks (fun hb => h.gw g (List.mem_of_getElem? hg) (Or.inl hb)), wb := h.wb, ob := h.ob, wo := h.wo, gw := h.gw, gn := h.gn, wok := h.wok, most := h.most, awt := ?_, kn := ?_, fok := h.fok }
  · have := h.kn 0 m hm
    show e.await + 1 ≤ 65536
    omega
  · intro i m' hm'
    show e.await + 1 + i < 65536
    have hx : (e.kept.drop 1 ++ [none])[i]? = some (some m') := hm'
    by_cases hi : i < (e.kept.drop 1).length
    · rw [List.getElem?_append_left hi, List.getElem?_drop] at hx
      have := h.kn (1 + i) m' hx
      omega
    · rw [List.getElem?_append_right (by omega)] at hx
      have hj := (List.getElem?_eq_some_iff.1 hx).1
      have : i - (e.kept.drop 1).length = 0 := by simp at hj ⊢; omega
      rw [this] at hx
      simp at hx

def lenV : Value → Nat
  | .slice _ n _ => n
  | _ => 0
theorem ready_pops (e : En) (l : List Fr.Msg) (m : Fr.Msg) (h : En.ready e.kept = l ++ En.ready (e.pops l.length).kept) (hm : (e.pops l.length).kept[0]? = some (some m)) (h4 : l.length < e.kept.length) :
    En.ready e.kept = (l ++ [m]) ++ En.ready (e.pops (l ++ [m]).length).kept := by
  rw [h, List.append_assoc]
  congr 1
  have hp : (e.pops l.length).kept = some m :: (e.pops l.length).kept.drop 1 := by
    cases hk : (e.pops l.length).kept with
    | nil => rw [hk] at hm; simp at hm
    | cons x r => rw [hk] at hm; simp at hm; subst hm; rfl
  have hr : ∀ l : List (Option Fr.Msg), En.ready (l ++ [none]) = En.ready l := by
    intro l
    induction l with
    | nil => rfl
    | cons x r ih => cases x <;> simp [En.ready, ih]
  rw [hp, List.length_append, List.length_singleton, ← pops_succ e l.length h4]
  simp only [En.ready, En.pop, hr, List.singleton_append]

set_option maxHeartbeats 2000000 in
theorem take_any (c : Array Value) (t : TypeId) (b o : Nat) (e : En) (p : Pl) (w : World) (h : Rep w c t b o e p) :
    Calls Try.prog 42 #[.pointer (some ⟨b, o + 2, none⟩)] w fun r w' => ∃ ta tc, r = .returned (.slice ta (En.ready e.kept).length tc) ∧ RV w' 24 4 ta (En.ready e.kept).length tc (mcells (En.ready e.kept)) ∧ (∀ g, inB ta g → w.heap.size ≤ g ∧ ¬ Mine b p g) ∧ Rep w' c t b o e.take p ∧ Step w w' b p p := by
  have HR : Unit → Rep w c t b o e p := fun _ => h
  clear h
  go_enter Try.func42, Try.ntmps42
  go_wp2_with fail
  go_loopw [3] (fun v wr => ∃ (l : List Fr.Msg) (ta : Option Addr) (tc : Nat), v = .slice ta l.length tc ∧ l.length ≤ 4 ∧ RV wr 24 4 ta l.length tc (mcells l) ∧ (∀ g, inB ta g → w.heap.size ≤ g) ∧ En.ready e.kept = l ++ En.ready (e.pops l.length).kept ∧ Rep wr c t b o (e.pops l.length) p ∧ Keep (only b) w wr) (fun v _ => 4 - lenV v)
  case atStart => exact ⟨[], none, 0, rfl, by simp, RV.nil _ _ _, fun g hg => (inB_none g hg).elim, by simp [pops_zero], by rw [List.length_nil, pops_zero]; exact HR (), Keep.refl _ _⟩
  case round =>
    obtain ⟨l, ta, tc, rfl, hl4, hrv, hta, hrd, hr, hk⟩ := hrel
    obtain ⟨x0, x1, x2, x3, hkept⟩ := four_of _ hr.four
    obtain ⟨e1, he1⟩ : ∃ e1, e1 = e.pops l.length := ⟨_, rfl⟩
    rw [← he1] at hr hkept hrd
    have hh := hr.cell 7 _ (by rw [cells_kept e1 p 0 x0 (by rw [hkept]; rfl) 4 (by omega)]; rfl)
    cases x0 with
    | none =>
      have HX : Unit → _ := fun _ => (⟨hrv, hta, hrd, hr, hk, he1, hkept⟩ : _ ∧ _ ∧ _ ∧ _ ∧ _ ∧ _ ∧ _)
      clear hrv hta hrd hr hk he1 hkept
      go_wp2
      go_ret
      obtain ⟨hrv, hta, hrd, hr, hk, he1, hkept⟩ := HX ()
      have e0 : En.ready e1.kept = [] := by rw [hkept]; rfl
      rw [e0, List.append_nil] at hrd
      have ht : e.take = e.pops l.length := by unfold En.take En.pops; rw [hrd]
      refine ⟨ta, tc, by rw [hrd]; rfl, by rw [hrd]; exact hrv, fun g hg => ⟨hta g hg, fun x => ?_⟩, by rw [ht, ← he1]; exact hr, ⟨fun _ h => Or.inl h, fun _ h => Or.inl h, hk.mono (fun _ _ x => Or.inl x)⟩⟩
      have := (HR ()).lt g x
      have := hta g hg
      omega
    | some m =>
      have hl5 : l.length < 4 := by
        refine Nat.lt_of_le_of_ne hl4 (fun x => ?_)
        have hk4 := (HR ()).four
        rw [he1, x] at hkept
        unfold En.pops at hkept
        simp only at hkept
        rw [List.drop_of_length_le (by omega)] at hkept
        simp [List.replicate] at hkept
      have hbl := (HR ()).blk.lt
      have hzw := hk.size
      have c3 := hr.cell 3 _ (by rw [cells_kept e1 p 0 (some m) (by rw [hkept]; rfl) 0 (by omega)]; rfl)
      have c4 := hr.cell 4 _ (by rw [cells_kept e1 p 0 (some m) (by rw [hkept]; rfl) 1 (by omega)]; rfl)
      have c5 := hr.cell 5 _ (by rw [cells_kept e1 p 0 (some m) (by rw [hkept]; rfl) 2 (by omega)]; rfl)
      have c6 := hr.cell 6 _ (by rw [cells_kept e1 p 0 (some m) (by rw [hkept]; rfl) 3 (by omega)]; rfl)
      have c2 := hr.c2
      have hfr := fun i => hr.frozen i
      have hnb : ¬ inB ta b := fun x => by have := hta b x; omega
      have haw : (e1.await : Int) < 65536 := by have := hr.kn 0 m (by rw [hkept]; rfl); omega
      have HX : Unit → _ := fun _ => (⟨hrv, hta, hrd, hr, hk, he1, hkept⟩ : _ ∧ _ ∧ _ ∧ _ ∧ _ ∧ _ ∧ _)
      clear hta hrd hr hk he1 hkept
      have HC : Unit → ∀ w1, Keep (inB ta) wr w1 → ∀ i, w1.cell? ⟨b, i, none⟩ = wr.cell? ⟨b, i, none⟩ ∧ w1.frozen? ⟨b, i, none⟩ = false := fun _ w1 k1 i => ⟨k1.cell b i (by omega) hnb, (k1.frozen b i (by omega) hnb).trans (hfr i)⟩
      go_wp2_with (at_builtin; refine wpList_append_rv _ rfl (.tmp 10) (.tmp 17) 45 rfl 24 (.agg #[.int .i64 0, .int .i64 0, .int .i64 0, .bool false]) 4 32 Try.underlying45 msg_info rfl ta l.length tc rfl (mcells l) (hrv.alloc _) ⟨wr.heap.size, 0, none⟩ 1 1 (by omega) rfl (mcell m) rfl (cells_list wr (mcell m) 24 _ rfl) (by simpa [mcells] using mcells_one [m]) (by omega) (by omega) ?_; intro ta' tc' w1 hr1 hg1 hk1; have hkw : Keep (inB ta) wr w1 := ((Keep.refl _ wr).alloc _).trans hk1; have d2 := ((HC () w1 hkw (o + 2)).1).trans c2; have f2 := (HC () w1 hkw (o + 2)).2)
      have HR1 : Unit → Rep w1 c t b o e1 p := fun _ => (HX ()).2.2.2.1.keep hkw (fun i hi x => by
        have h1 := (HX ()).2.1 i x
        have h2 := (HR ()).lt i hi
        omega)
      have hb2 : Blk (w1.setCell ⟨b, o + 2, none⟩ (.int .i64 ((e1.await : Int) + 1))) b (put c o ((e1.cells p).set 2 (.int .i64 ((e1.await : Int) + 1)))) t := (HR1 ()).blk.put_at (HR1 ()).len 2 (by rw [cells_len e1 p (HR1 ()).four]; omega) _
      have hlen : o + ((e1.cells p).set 2 (.int .i64 ((e1.await : Int) + 1))).length ≤ c.size := by simpa using (HR1 ()).len
      have hsrc : ∀ j v, (slots [x1, x2, x3])[j]? = some v → (w1.setCell ⟨b, o + 2, none⟩ (.int .i64 ((e1.await : Int) + 1))).drew.cell? ((⟨b, o + 8, none⟩ : Addr).add j) = some v := fun j v hv => by
        rw [Addr.add_lit, World.cell?_drew, Nat.add_assoc]
        exact hb2.at hlen (8 + j) v (pop_src e1 p (some m) x1 x2 x3 (HX ()).2.2.2.2.2.2 _ j v hv)
      have hfit : o + 3 + (slots [x1, x2, x3]).length ≤ (put c o ((e1.cells p).set 2 (.int .i64 ((e1.await : Int) + 1)))).size := by
        rw [put_size _ _ _ hlen, slots_len]
        have := (HR1 ()).fit
        simp; omega
      have HB2 : Unit → _ := fun _ => (⟨hb2, hsrc, hfit, hlen⟩ : _ ∧ _ ∧ _ ∧ _)
      clear hb2 hsrc hfit hlen c3 c4 c5 c6 c2 hh
      go_region_law (refine step_copy_sz rfl (.tmp 29) (.tmp 33) 96 96 rfl 55 5 Try.underlying96 slot_info b (o + 2 + 1) 4 4 3 3 ⟨b, o + 2 + 1 + 5, none⟩ (by simp [Act.eval, Act.put]) (by simp [Act.eval, Act.put]) 3 rfl (put c o ((e1.cells p).set 2 (.int .i64 ((e1.await : Int) + 1)))) t ((HB2 ()).1.drew) (slots [x1, x2, x3]) rfl (HB2 ()).2.1 (HB2 ()).2.2.1 (slots_one _) ?_; intro w3 hb3 hk3)
      all_goals
        have h15 : (slots [x1, x2, x3]).length = 15 := rfl
        have hb4 : Blk w3 b (put c o (((e1.cells p).set 2 (.int .i64 ((e1.await : Int) + 1))).take 3 ++ slots [x1, x2, x3] ++ ((e1.cells p).set 2 (.int .i64 ((e1.await : Int) + 1))).drop 18)) t := by
          have := put_splice c o ((e1.cells p).set 2 (.int .i64 ((e1.await : Int) + 1))) (HB2 ()).2.2.2 3 (slots [x1, x2, x3]) (by rw [h15, List.length_set, cells_len e1 p (HR1 ()).four]; omega)
          rw [h15] at this hb3
          rw [← this]
          exact hb3
        have hl3 : o + (((e1.cells p).set 2 (.int .i64 ((e1.await : Int) + 1))).take 3 ++ slots [x1, x2, x3] ++ ((e1.cells p).set 2 (.int .i64 ((e1.await : Int) + 1))).drop 18).length ≤ c.size := by
          have := (HR1 ()).fit
          have h24 := cells_len e1 p (HR1 ()).four
          simp only [List.length_append, List.length_take, List.length_drop, List.length_set, slots_len, h24, List.length_cons, List.length_nil]
          omega
        have s0 := hb4.at hl3 18 _ ((pop_mid e1 p _ x1 x2 x3 (HX ()).2.2.2.2.2.2 _ 0 (by omega)).trans rfl)
        have s1 := hb4.at hl3 19 _ ((pop_mid e1 p _ x1 x2 x3 (HX ()).2.2.2.2.2.2 _ 1 (by omega)).trans rfl)
        have s2 := hb4.at hl3 20 _ ((pop_mid e1 p _ x1 x2 x3 (HX ()).2.2.2.2.2.2 _ 2 (by omega)).trans rfl)
        have s3 := hb4.at hl3 21 _ ((pop_mid e1 p _ x1 x2 x3 (HX ()).2.2.2.2.2.2 _ 3 (by omega)).trans rfl)
        have s4 := hb4.at hl3 22 _ ((pop_mid e1 p _ x1 x2 x3 (HX ()).2.2.2.2.2.2 _ 4 (by omega)).trans rfl)
        have s5 := fun i => hb4.frozen i
        have H4 : Unit → _ := fun _ => (⟨hb4, hl3⟩ : _ ∧ _)
        clear hb3 hb4 hl3
        go_wp2
        go_roundw
        case rel =>
          obtain ⟨hrv, hta, hrd, hr, hk, he1, hkept⟩ := HX ()
          obtain ⟨hb4, hl3⟩ := H4 ()
          have hz1 := hkw.size
          obtain ⟨W, hW⟩ : ∃ W, W = set5 w3 b (o + 18) Fr.none0 false := ⟨_, rfl⟩
          have kW : Keep (only b) w3 W := by
            rw [hW]; unfold set5
            exact (((((Keep.refl (only b) w3).setCell (p := ⟨b, o + 18, none⟩) (fun _ => rfl) _).setCell (p := ⟨b, o + 18 + 1, none⟩) (fun _ => rfl) _).setCell (p := ⟨b, o + 18 + 2, none⟩) (fun _ => rfl) _).setCell (p := ⟨b, o + 18 + 3, none⟩) (fun _ => rfl) _).setCell (p := ⟨b, o + 18 + 4, none⟩) (fun _ => rfl) _
          have kA : Keep (only b) w1 W := (((Keep.refl (only b) w1).setCell (p := ⟨b, o + 2, none⟩) (fun _ => rfl) _).drew.trans hk3).trans kW
          have bW : Blk W b (put c o (e1.pop.cells p)) t := by
            rw [← pop_cells e1 p (some m) x1 x2 x3 hkept, hW]
            have hL : (((e1.cells p).set 2 (.int .i64 ((e1.await : Int) + 1))).take 3 ++ slots [x1, x2, x3] ++ ((e1.cells p).set 2 (.int .i64 ((e1.await : Int) + 1))).drop 18).length = 24 := by
              have h24 := cells_len e1 p (HR1 ()).four
              simp only [List.length_append, List.length_take, List.length_drop, List.length_set, h24, h15]
              omega
            generalize ((e1.cells p).set 2 (.int .i64 ((e1.await : Int) + 1))).take 3 ++ slots [x1, x2, x3] ++ ((e1.cells p).set 2 (.int .i64 ((e1.await : Int) + 1))).drop 18 = L at *
            have t0 := hb4.put_at hl3 18 (by omega) (.int .i64 0)
            have t1 := t0.put_at (by rw [List.length_set]; exact hl3) 19 (by rw [List.length_set]; omega) (.int .i64 0)
            have t2 := t1.put_at (by rw [List.length_set, List.length_set]; exact hl3) 20 (by rw [List.length_set, List.length_set]; omega) (.int .i64 0)
            have t3 := t2.put_at (by rw [List.length_set, List.length_set, List.length_set]; exact hl3) 21 (by rw [List.length_set, List.length_set, List.length_set]; omega) (.bool false)
            exact t3.put_at (by rw [List.length_set, List.length_set, List.length_set, List.length_set]; exact hl3) 22 (by rw [List.length_set, List.length_set, List.length_set, List.length_set]; omega) (.bool false)
          have hm0 : e1.kept[0]? = some (some m) := by rw [hkept]; rfl
          have hrW := (HR1 ()).popped m hm0 kA bW
          have hps : e1.pop = e.pops (l ++ [m]).length := by rw [he1, List.length_append, List.length_singleton]; exact pops_succ e l.length (by rw [(HR ()).four]; exact hl5)
          refine ⟨l ++ [m], ta', tc', by simp, by simp; omega, ?_, ?_, ?_, ?_, ?_⟩
          · rw [hW] at kA
            rw [mcells_append, List.length_append, List.length_singleton]
            refine RV.keep ?_ kA (fun g hg hb => ?_)
            · simpa [mcells] using hr1
            · simp only [only] at hb
              subst hb
              rcases hg1 _ hg with x | x
              · exact hnb x
              · simp only [World.size_alloc] at x; omega
          · intro g hg
            rcases hg1 g hg with x | x
            · exact hta g x
            · simp only [World.size_alloc] at x; omega
          · exact ready_pops e l m (by rw [← he1]; exact hrd) (by rw [← he1]; exact hm0) (by rw [(HR ()).four]; exact hl5)
          · rw [← hps]; rw [hW] at hrW; exact hrW
          · rw [hW] at kA
            exact (hk.trans' hkw (fun i hi x => by have := hta i x; omega)).trans kA
        case measure => simp [lenV]; omega
end Go.Proofs.Ytlfijfodklhplaa
