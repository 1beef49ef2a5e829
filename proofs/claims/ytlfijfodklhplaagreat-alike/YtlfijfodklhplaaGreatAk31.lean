import Derived.Test.YtlfijfodklhplaaGreatAk24
import Derived.Test.YtlfijfodklhplaaGreatAk30
import Derived.Deep.MidRow
/- Which side leads to a neighbour. -/
namespace Go.Proofs.YtlfijfodklhplaaGreat
open Go.RowKit
set_option linter.unusedVariables false
set_option linter.unusedSimpArgs false

theorem side_size : (Tryz.prog.info? 181).map (·.size) = some 25 := by kernel_rfl
theorem edgeTo1_list (kb k t : Nat) (cs : List Value) (hl : cs.length = 24) (w : World) (hc : w.cell? ⟨kb, 0, none⟩ = some (.int .i64 (k : Int))) (hkl : kb < w.heap.size) :
    Calls Tryz.prog 169 #[.agg (.int .i64 (t : Int) :: cs).toArray, .pointer (some ⟨kb, 0, none⟩)] w fun r w' => r = .returned (.bool (decide (t = k))) ∧ Keep nil w w' :=
  match cs, hl with
  | [v1, v2, v3, v4, v5, v6, v7, v8, v9, v10, v11, v12, v13, v14, v15, v16, v17, v18, v19, v20, v21, v22, v23, v24], _ => edgeTo1_any kb k t v1 v2 v3 v4 v5 v6 v7 v8 v9 v10 v11 v12 v13 v14 v15 v16 v17 v18 v19 v20 v21 v22 v23 v24 w hc hkl
/-- The row of sides: where each leads to; its other cells hold something. -/
def SRow2 (w : World) (g q : Nat) (tos : List Nat) : Prop := ∀ (i t : Nat), tos[i]? = some t → ∃ cs : List Value, cs.length = 24 ∧ w.rangeAt g (q + i * 25) (.int .i64 (t : Int) :: cs)
theorem SRow2.keep {ex : Nat → Prop} {w w' : World} {g q : Nat} {tos : List Nat} (h : SRow2 w g q tos) (k : Keep ex w w') (hg : g < w.heap.size) (hn : ¬ ex g) : SRow2 w' g q tos := fun i t ht => by
  obtain ⟨cs, h1, h2⟩ := h i t ht
  exact ⟨cs, h1, fun j v hv => (k.cell g _ hg hn).trans (h2 j v hv)⟩

set_option maxRecDepth 100000 in
set_option maxHeartbeats 4000000 in
theorem sideIndex_any (kb k g q sc : Nat) (tos : List Nat) (j : Nat) (w : World) (hs : SRow2 w g q tos) (hg : g < w.heap.size) (hl : (tos.length : Int) < 1000) (hj : tos[j]? = some k) (hf : ∀ i, i < j → tos[i]? ≠ some k) (hc : w.cell? ⟨kb, 0, none⟩ = some (.int .i64 (k : Int))) (hkl : kb < w.heap.size) :
    Calls Tryz.prog 168 #[.slice (some ⟨g, q, none⟩) tos.length sc, .func (.func 169) #[] #[.pointer (some ⟨kb, 0, none⟩)]] w fun r w' => r = .returned (.int .i64 (j : Int)) ∧ Keep nil w w' := by
  have H : Unit → SRow2 w g q tos ∧ g < w.heap.size ∧ (tos.length : Int) < 1000 ∧ tos[j]? = some k ∧ (∀ i, i < j → tos[i]? ≠ some k) ∧ w.cell? ⟨kb, 0, none⟩ = some (.int .i64 (k : Int)) ∧ kb < w.heap.size := fun _ => ⟨hs, hg, hl, hj, hf, hc, hkl⟩
  clear hs hg hl hj hf hc hkl
  go_enter Tryz.func168, Tryz.ntmps168
  go_wp2_with fail
  go_loopw [8] (fun v wr => ∃ i : Nat, i ≤ j ∧ v = .int .i64 (i : Int) ∧ Keep nil w wr) (fun v _ => tos.length - (intOf v).toNat)
  case atStart => exact ⟨0, by omega, rfl, Keep.refl _ _⟩
  case round =>
    obtain ⟨i, hi, rfl, hkw⟩ := hrel
    have hjl := (List.getElem?_eq_some_iff.1 (H ()).2.2.2.1).1
    have HR : Unit → Keep nil w wr ∧ i ≤ j ∧ j < tos.length := fun _ => ⟨hkw, hi, hjl⟩
    obtain ⟨t, ht⟩ : ∃ t, tos[i]? = some t := ⟨_, List.getElem?_eq_getElem (by omega)⟩
    have HT : Unit → tos[i]? = some t := fun _ => ht
    obtain ⟨cs, HCL, HCR⟩ : ∃ cs : List Value, (Unit → cs.length = 24) ∧ (Unit → wr.rangeAt g (q + i * 25) (.int .i64 (t : Int) :: cs)) := by
      obtain ⟨cs, h1, h2⟩ := (H ()).1.keep hkw (H ()).2.1 id i t ht
      exact ⟨cs, fun _ => h1, fun _ => h2⟩
    have hgl : g < wr.heap.size := Nat.lt_of_lt_of_le (H ()).2.1 hkw.size
    have hiI : (i : Int) < (tos.length : Int) := by omega
    have hi9 : (i : Int) < 1000 := by have := (H ()).2.2.1; omega
    have HC : Unit → ∀ w1, Keep nil wr w1 → _ := fun _ w1 k1 => edgeTo1_list kb k t cs (HCL ()) w1 (((HR ()).1.trans k1).cell kb 0 (H ()).2.2.2.2.2.2 id |>.trans (H ()).2.2.2.2.2.1) (Nat.lt_of_lt_of_le (H ()).2.2.2.2.2.2 ((HR ()).1.trans k1).size)
    clear hkw hi hjl ht
    go_wp2_with (refine wpList_load_mid rfl 181 _ rfl g (q + i * 25) rfl (.int .i64 (t : Int) :: cs) _ (HCR ()) Tryz.underlying181 rfl (side_size.trans (congrArg some (congrArg Nat.succ (HCL ()).symm))) ?_)
    refine Calls.mono (HC () _ (Keep.refl nil wr)) ?_
    rintro r w2 ⟨rfl, hk2⟩
    have HK : Unit → Keep nil w w2 := fun _ => (HR ()).1.trans hk2
    clear hk2 HC
    by_cases hd : t = k
    · rw [decide_eq_true hd]
      have HIJ : Unit → i = j := fun _ => by
        rcases Nat.lt_or_ge i j with h | h
        · exact ((H ()).2.2.2.2.1 i h (by rw [HT (), hd])).elim
        · have := (HR ()).2.1; omega
      go_wp2
      go_ret
      exact ⟨by rw [← HIJ ()]; rfl, HK ()⟩
    · rw [decide_eq_false hd]
      have HIJ : Unit → i < j := fun _ => by
        rcases Nat.lt_or_ge i j with h | h
        · exact h
        · have e : i = j := by have := (HR ()).2.1; omega
          have h1 := (H ()).2.2.2.1
          rw [← e, HT ()] at h1
          exact (hd (Option.some.inj h1)).elim
      go_wp2
      exact ⟨⟨i + 1, by have := HIJ (); omega, by go_num, HK ()⟩, by have := HIJ (); have := (HR ()).2.2; simp [intOf]; omega⟩
end Go.Proofs.YtlfijfodklhplaaGreat
/- edgeTo: the place of the edge to a neighbour. -/
namespace Go.Proofs.YtlfijfodklhplaaGreat
open Go.RowKit
set_option linter.unusedVariables false
set_option linter.unusedSimpArgs false

theorem NtR.srow {w : World} {N : Nt} (h : NtR w N) {k : Nat} {s : Sp} (hs : N.sps[k]? = some s) {g o : Nat} (hsa : s.sa = some ⟨g, o, none⟩) : SRow2 w g o (s.ss.map Sd.to_) := by
  intro i t ht
  rw [List.getElem?_map] at ht
  obtain ⟨d, hd, rfl⟩ := Option.map_eq_some_iff.1 ht
  obtain ⟨g', o', c, h1, _, h3, h4, _⟩ := h.atEnd hs hd
  rw [hsa] at h1
  cases h1
  refine ⟨d.e.cells d.p, cells_len d.e d.p h4.four, fun j v hv => ?_⟩
  cases j with
  | zero => simp only [List.getElem?_cons_zero, Option.some.injEq] at hv; subst hv; exact h3
  | succ j =>
    rw [List.getElem?_cons_succ] at hv
    have := h4.cell j v hv
    rw [show o + i * 25 + 1 + j = o + i * 25 + (j + 1) by omega] at this
    exact this

set_option maxRecDepth 100000 in
set_option maxHeartbeats 4000000 in
theorem edgeTo_any (pb po k g q sc : Nat) (tos : List Nat) (j : Nat) (w : World) (hc : w.cell? ⟨pb, po + 1, none⟩ = some (.slice (some ⟨g, q, none⟩) tos.length sc)) (hpl : pb < w.heap.size) (hs : SRow2 w g q tos) (hg : g < w.heap.size) (hl : (tos.length : Int) < 1000) (hj : tos[j]? = some k) (hf : ∀ i, i < j → tos[i]? ≠ some k) :
    Calls Tryz.prog 115 #[.pointer (some ⟨pb, po, none⟩), .int .i64 (k : Int)] w fun r w' => r = .returned (.int .i64 (j : Int)) ∧ Keep nil w w' := by
  have HC : Unit → ∀ w1 kb, Keep nil w w1 → w1.cell? ⟨kb, 0, none⟩ = some (.int .i64 (k : Int)) → kb < w1.heap.size → _ := fun _ w1 kb k1 hc hkl => sideIndex_any kb k g q sc tos j w1 (hs.keep k1 hg id) (Nat.lt_of_lt_of_le hg k1.size) hl hj hf hc hkl
  clear hs hj hf hl
  go_enter Tryz.func115, Tryz.ntmps115
  go_wp2_with fail
  refine Calls.mono (HC () _ w.heap.size ((Keep.refl nil w).alloc _) (by simp) (by simp)) ?_
  rintro r w2 ⟨rfl, hk2⟩
  have HK : Unit → Keep nil w w2 := fun _ => ((Keep.refl nil w).alloc _).trans hk2
  clear hk2 HC
  go_wp2
  go_ret
  exact ⟨rfl, HK ()⟩
end Go.Proofs.YtlfijfodklhplaaGreat
/- What holds of a net as data, between calls. -/
namespace Go.Proofs.YtlfijfodklhplaaGreat
open Go.RowKit
set_option linter.unusedSimpArgs false
set_option linter.unusedVariables false

theorem modify_get {α : Type} {l : List α} {i k : Nat} {f : α → α} {y : α} (h : (l.modify i f)[k]? = some y) : ∃ x, l[k]? = some x ∧ y = if i = k then f x else x := by
  rw [List.getElem?_modify] at h
  cases hx : l[k]? with
  | none => rw [hx] at h; simp at h
  | some x =>
    rw [hx] at h
    simp only [Option.map_some, Option.some.injEq, Option.map_eq_map] at h
    exact ⟨x, rfl, h.symm⟩
theorem modify_map {α β : Type} (g : α → β) (l : List α) (i : Nat) (f : α → α) (h : ∀ x, g (f x) = g x) : (l.modify i f).map g = l.map g := by
  apply List.ext_getElem?
  intro k
  rw [List.getElem?_map, List.getElem?_map, List.getElem?_modify]
  cases l[k]? with
  | none => simp
  | some x => by_cases e : i = k <;> simp [e, h]
theorem modify_two {α : Type} (l : List α) (i : Nat) (f g : α → α) : (l.modify i f).modify i g = l.modify i (fun x => g (f x)) := by
  apply List.ext_getElem?
  intro k
  rw [List.getElem?_modify, List.getElem?_modify, List.getElem?_modify]
  cases l[k]? with
  | none => simp
  | some x => by_cases e : i = k <;> simp [e]
def AN.shape (A : AN) : List (List Nat) := A.sps.map (fun s => s.ss.map (fun d => d.1))
def POk (S : List (List Nat)) (x : AP) : Prop := (∀ y ∈ x.l, y < 256) ∧ 0 < x.l.length ∧ x.l.length < 1000 ∧ ∃ l, S[x.t]? = some l ∧ x.f ∈ l
def Symm (S : List (List Nat)) : Prop := ∀ (i : Nat) (l : List Nat) (t : Nat), S[i]? = some l → t ∈ l → ∃ l', S[t]? = some l' ∧ i ∈ l'
/-- What is kept ahead may be. -/
def KOk (e : En) : Prop := ∀ m, some m ∈ e.kept → MOk m
structure AOk (A : AN) (B : Nat) : Prop where
  few : A.sps.length ≤ 1000
  well : ∀ (i : Nat) (s : AS), A.sps[i]? = some s → NWell s.n ∧ s.n.edges.length = s.ss.length ∧ s.n.off.length ≤ B
  out : ∀ (i : Nat) (s : AS), A.sps[i]? = some s → ∀ (j : Nat) (d : Nat × En), s.ss[j]? = some d → d.2.out = []
  kept : ∀ (i : Nat) (s : AS), A.sps[i]? = some s → ∀ (j : Nat) (d : Nat × En), s.ss[j]? = some d → KOk d.2
  bag : A.bag.length ≤ 300
  pk : ∀ x ∈ A.bag, POk A.shape x
  sym : Symm A.shape
theorem shape_modE (A : AN) (i j : Nat) (f : En → En) : (A.modE i j f).shape = A.shape :=
  modify_map _ _ _ _ (fun s => modify_map _ _ _ _ (fun d => rfl))
theorem shape_modN (A : AN) (i : Nat) (f : Nod → Nod) : (A.modN i f).shape = A.shape := modify_map _ _ _ _ (fun s => rfl)
theorem add_sps (A : AN) (x : AP) : (A.add x).sps = A.sps ∧ (A.add x).es = A.es := by unfold AN.add; split <;> exact ⟨rfl, rfl⟩
theorem shape_add (A : AN) (x : AP) : (A.add x).shape = A.shape := by unfold AN.shape; rw [(add_sps A x).1]
theorem mem_add {A : AN} {x y : AP} (h : y ∈ (A.add x).bag) : y ∈ A.bag ∨ y = x := by
  unfold AN.add at h
  split at h
  · rcases List.mem_append.1 h with h | h
    · exact Or.inl h
    · exact Or.inr (List.mem_singleton.1 h)
  · exact Or.inl h
theorem aok_add {A : AN} {B : Nat} (h : AOk A B) {x : AP} (hx : POk A.shape x) : AOk (A.add x) B := by
  refine ⟨?_, ?_, ?_, ?_, ?_, ?_, ?_⟩
  · rw [(add_sps A x).1]; exact h.few
  · rw [(add_sps A x).1]; exact h.well
  · rw [(add_sps A x).1]; exact h.out
  · rw [(add_sps A x).1]; exact h.kept
  · unfold AN.add; split
    · simp; omega
    · exact h.bag
  · intro y hy
    rw [shape_add]
    rcases mem_add hy with e | rfl
    · exact h.pk y e
    · exact hx
  · rw [shape_add]; exact h.sym
theorem shape_adds (i t : Nat) (l : List Fr.Frm) : ∀ A : AN, (A.adds i t l).shape = A.shape := by
  induction l with
  | nil => intro A; rfl
  | cons f r ih =>
    intro A
    show ((A.add _).adds i t r).shape = _
    rw [ih, shape_add]
theorem aok_adds {B : Nat} (i t : Nat) (l : List Fr.Frm) : ∀ A : AN, AOk A B → (∃ s, A.shape[t]? = some s ∧ i ∈ s) → (∀ f ∈ l, FrOk f) → AOk (A.adds i t l) B := by
  induction l with
  | nil => intro A h _ _; exact h
  | cons f r ih =>
    intro A h hs hf
    show AOk ((A.add ⟨i, t, Fr.enc f, false⟩).adds i t r) B
    have hf0 := hf f (List.mem_cons_self ..)
    have hl := enc_len f
    have hfl : flen f = 10 ∨ flen f = 5 := by unfold flen; split <;> simp
    refine ih _ (aok_add h ⟨enc_byte f hf0, ?_, ?_, hs⟩) (by rw [shape_add]; exact hs) (fun g hg => hf g (List.mem_cons_of_mem _ hg))
    · simp only [hl]; omega
    · simp only [hl]; omega
theorem side_get {A : AN} {i j : Nat} {d : Nat × En} (h : A.side i j = some d) : ∃ s, A.sps[i]? = some s ∧ s.ss[j]? = some d := by
  unfold AN.side at h
  obtain ⟨s, h1, h2⟩ := Option.bind_eq_some_iff.1 h
  exact ⟨s, h1, h2⟩
theorem modE_two (A : AN) (i j : Nat) (f g : En → En) : (A.modE i j f).modE i j g = A.modE i j (fun e => g (f e)) := by
  unfold AN.modE
  simp only [modify_two]
theorem side_modE {A : AN} {i j : Nat} {d : Nat × En} (h : A.side i j = some d) (f : En → En) : (A.modE i j f).side i j = some (d.1, f d.2) := by
  obtain ⟨s, h1, h2⟩ := side_get h
  unfold AN.side AN.modE
  simp [h1, h2]
theorem aok_modE {A : AN} {B : Nat} (h : AOk A B) (i j : Nat) (f : En → En) (hf : ∀ e, (f e).out = []) (hk : ∀ e, KOk e → KOk (f e)) : AOk (A.modE i j f) B := by
  refine ⟨?_, ?_, ?_, ?_, h.bag, ?_, ?_⟩
  · simpa [AN.modE] using h.few
  · intro k s hs
    obtain ⟨x, hx, rfl⟩ := modify_get hs
    obtain ⟨h1, h2, h3⟩ := h.well k x hx
    split
    · exact ⟨h1, by simpa using h2, h3⟩
    · exact ⟨h1, h2, h3⟩
  · intro k s hs j' d hd
    obtain ⟨x, hx, rfl⟩ := modify_get hs
    split at hd
    · obtain ⟨y, hy, rfl⟩ := modify_get hd
      split
      · exact hf _
      · exact h.out k x hx j' y hy
    · exact h.out k x hx j' d hd
  · intro k s hs j' d hd
    obtain ⟨x, hx, rfl⟩ := modify_get hs
    split at hd
    · obtain ⟨y, hy, rfl⟩ := modify_get hd
      split
      · exact hk _ (h.kept k x hx j' y hy)
      · exact h.kept k x hx j' y hy
    · exact h.kept k x hx j' d hd
  · rw [shape_modE]; exact h.pk
  · rw [shape_modE]; exact h.sym
theorem carry_eq {A : AN} {i j : Nat} {d : Nat × En} (hd : A.side i j = some d) (f : En → En) : (A.modE i j f).carry i j = (A.modE i j (fun e => (f e).outs)).adds i d.1 (f d.2).out := by
  unfold AN.carry
  rw [side_modE hd f]
  simp only [modE_two]
theorem aok_carry {A : AN} {B : Nat} (h : AOk A B) {i j : Nat} {d : Nat × En} (hd : A.side i j = some d) (f : En → En) (hk : ∀ e, KOk e → KOk (f e)) (hf : ∀ fr ∈ (f d.2).out, FrOk fr) : AOk ((A.modE i j f).carry i j) B := by
  rw [carry_eq hd f]
  refine aok_adds i d.1 _ _ (aok_modE h i j _ (fun e => rfl) (fun e he => hk e he)) ?_ hf
  rw [shape_modE]
  obtain ⟨s, h1, h2⟩ := side_get hd
  exact h.sym i (s.ss.map (fun d => d.1)) d.1 (by simp [AN.shape, h1]) (List.mem_map.2 ⟨d, List.mem_of_getElem? h2, rfl⟩)
theorem shape_carry (A : AN) (i j : Nat) (f : En → En) : ((A.modE i j f).carry i j).shape = A.shape := by
  unfold AN.carry
  split
  · exact shape_modE ..
  · rw [shape_adds, shape_modE, shape_modE]
theorem aok_modN {A : AN} {B B' : Nat} (h : AOk A B) (hB : B ≤ B') (i : Nat) (f : Nod → Nod) (hf : ∀ s, A.sps[i]? = some s → NWell (f s.n) ∧ (f s.n).edges.length = s.n.edges.length ∧ (f s.n).off.length ≤ B') : AOk (A.modN i f) B' := by
  refine ⟨?_, ?_, ?_, ?_, h.bag, ?_, ?_⟩
  · simpa [AN.modN] using h.few
  · intro k s hs
    obtain ⟨x, hx, rfl⟩ := modify_get hs
    obtain ⟨h1, h2, h3⟩ := h.well k x hx
    split
    · rename_i e
      subst e
      obtain ⟨f1, f2, f3⟩ := hf x hx
      exact ⟨f1, f2.trans h2, f3⟩
    · exact ⟨h1, h2, by omega⟩
  · intro k s hs j' d hd
    obtain ⟨x, hx, rfl⟩ := modify_get hs
    split at hd
    · exact h.out k x hx j' d hd
    · exact h.out k x hx j' d hd
  · intro k s hs j' d hd
    obtain ⟨x, hx, rfl⟩ := modify_get hs
    split at hd
    · exact h.kept k x hx j' d hd
    · exact h.kept k x hx j' d hd
  · rw [shape_modN]; exact h.pk
  · rw [shape_modN]; exact h.sym
theorem kok_try {e : En} (h : KOk e) (m : Fr.Msg) : KOk (e.try m) := by
  unfold En.try
  split
  · exact h
  · exact h
theorem kok_tick {e : En} (h : KOk e) : KOk e.tick := h
theorem kok_inn {e : En} (h : KOk e) {q : Option Fr.Frm} (hq : ∀ f, q = some f → FrOk f) : KOk (e.inn q) ∧ ∀ m ∈ e.tld q, MOk m := by
  cases q with
  | none => exact ⟨h, fun m hm => by cases hm⟩
  | some f =>
    have hf := hq f rfl
    obtain ⟨fd, fs, fm⟩ := f
    cases fd with
    | false =>
      refine ⟨?_, fun m hm => by cases hm⟩
      show KOk (e.ack fs)
      unfold En.ack
      split
      · exact h
      · exact h
    | true =>
      have hm : MOk fm := by
        rcases hf.2 with ⟨_, a, b, c, d⟩ | ⟨a, _⟩
        · exact ⟨a, b, c, d⟩
        · cases a
      have hk : KOk (e.keep fs fm) := by
        unfold En.keep
        split
        · split
          · intro m h1
            rcases List.mem_or_eq_of_mem_set h1 with h2 | h2
            · exact h m h2
            · cases h2; exact hm
          · exact h
        · exact h
      have rdy : ∀ (l : List (Option Fr.Msg)), (∀ m, some m ∈ l → MOk m) → ∀ m ∈ En.ready l, MOk m := by
        intro l
        induction l with
        | nil => intro _ m h1; cases h1
        | cons x r ih =>
          intro hl m h1
          cases x with
          | none => cases h1
          | some y =>
            rcases List.mem_cons.1 h1 with rfl | h2
            · exact hl _ (List.mem_cons_self ..)
            · exact ih (fun m hm => hl m (List.mem_cons_of_mem _ hm)) m h2
      refine ⟨?_, rdy _ hk⟩
      show KOk ((e.keep fs fm).take.answer)
      have ht : KOk (e.keep fs fm).take := by
        intro m h1
        rcases List.mem_append.1 h1 with h2 | h2
        · exact hk m (List.mem_of_mem_drop h2)
        · have := (List.mem_replicate.1 h2).2; cases this
      unfold En.answer
      split
      · exact ht
      · exact ht
end Go.Proofs.YtlfijfodklhplaaGreat
