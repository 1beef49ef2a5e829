/- Carried: what goes out goes into the bag. -/
import Derived.Test.YtlfijfodklhplaaCar4
namespace Go.Proofs.Ytlfijfodklhplaa
open Go.RowKit
set_option linter.unusedVariables false
set_option linter.unusedSimpArgs false

theorem ovals_bvals (gs : List Nat) (l : List Fr.Frm) : ovals gs l = bvals (gs.map (fun k => (k, 10))) l := by
  unfold ovals bvals
  rw [List.zipWith_map_left]; rfl
theorem Step.outs {w w1 : World} {b : Nat} {p : Pl} (hk : Keep (only b) w w1) : Step w w1 b p { p with oa := none, oc := 0, gs := [] } :=
  ⟨fun k hk' => by
    rcases hk' with e | e | e
    · exact Or.inl (Or.inl e)
    · exact Or.inl (Or.inr (Or.inl e))
    · exact (inB_none k e).elim, fun k hk' => by simp at hk', hk.mono (fun _ _ e => Or.inl e)⟩

/-- Out of c was called: its frames are nobody's but the caller's. -/
structure Gone (w0 W1 : World) (x : Fx) (s s1 : Cy) (tag1 : Nat → Nat) (c : Nat) : Prop where
  cs : CS w0 W1 x s1 tag1
  is : s1 = { s with e := upd s.e c (s.e c).outs, p := upd s.p c { s.p c with oa := none, oc := 0, gs := [] } }
  reads : Reads W1 (s.p c).oa (s.e c).out.length 1 (bvals ((s.p c).gs.map (fun k => (k, 10))) (s.e c).out)
  gl : (s.p c).gs.length = (s.e c).out.length
  bufs : ∀ (i g : Nat) (f : Fr.Frm), (s.p c).gs[i]? = some g → (s.e c).out[i]? = some f → Buf W1 g (Fr.enc f) 10
  fok : ∀ f ∈ (s.e c).out, FrOk f
  tg : ∀ k, k ∈ (s.p c).gs → tag1 k = 4
theorem CS.gone {w0 w W1 : World} {x : Fx} {s : Cy} {tag : Nat → Nat} (h : CS w0 w x s tag) (c : Nat) (hc : c < 2) (hr : Rep W1 zero24 62 (x.b c) 0 (s.e c).outs { s.p c with oa := none, oc := 0, gs := [] }) (hk : Keep (only (x.b c)) w W1) : ∃ s1 tag1, Gone w0 W1 x s s1 tag1 c := by
  obtain ⟨tag1, h1, ht⟩ := h.step c hc _ _ hr (Step.outs hk)
  have hrep := h.rep c hc
  refine ⟨_, tag1, h1, rfl, by rw [← ovals_bvals]; exact (hrep.orow.keep hk (fun k hk' e => hrep.ob (by rw [← show k = x.b c from e]; exact hk'))).reads, hrep.gl, fun i g f hg hf => (hrep.bufs i g f hg hf).keep hk (fun e => hrep.gw g (List.mem_of_getElem? hg) (Or.inl e)), hrep.fok, fun k hk' => ?_⟩
  rw [ht k (hrep.lt k (Or.inr (Or.inr (Or.inr hk'))))]
  exact h.tp c hc k hk'
theorem Gone.collect {w0 W1 W2 : World} {x : Fx} {s s1 : Cy} {tag1 : Nat → Nat} {c : Nat} (h : Gone w0 W1 x s s1 tag1 c) (hc : c < 2) (a' : Option Addr) (ca' : Nat)
    (hr2 : RV W2 27 1 a' ((s.bag c).length + (s.e c).out.length) ca' (bvals (s.g c) (s.bag c) ++ bvals ((s.p c).gs.map (fun k => (k, 10))) (s.e c).out)) (hin : ∀ k, inB a' k → inB (s.a c) k ∨ W1.heap.size ≤ k) (hk2 : Keep (inB (s.a c)) W1 W2) :
    ∃ s' tag', CS w0 (W2.setCell ⟨x.tb, c, none⟩ (.slice a' ((s.bag c).length + (s.e c).out.length) ca')) x s' tag' ∧ s'.e = upd s.e c (s.e c).outs ∧ s'.bag = upd s.bag c (s.bag c ++ (s.e c).out) ∧ s'.sent = s.sent ∧ s'.got = s.got := by
  have hcs := h.cs
  rw [h.is] at hcs
  have hgl : (s.g c).length = (s.bag c).length := hcs.gl c hc
  have e1 : bvals (s.g c ++ (s.p c).gs.map (fun k => (k, 10))) (s.bag c ++ (s.e c).out) = bvals (s.g c) (s.bag c) ++ bvals ((s.p c).gs.map (fun k => (k, 10))) (s.e c).out := by
    unfold bvals; rw [List.zipWith_append hgl]
  rw [← e1, ← List.length_append] at hr2
  obtain ⟨tag', h2, _⟩ := hcs.setBag c hc (s.bag c ++ (s.e c).out) (s.g c ++ (s.p c).gs.map (fun k => (k, 10))) a' ca' hk2 hr2 hin (by simp [hgl, h.gl])
    (fun i g f hg hf => by
      by_cases hi : i < (s.g c).length
      · rw [List.getElem?_append_left hi] at hg
        rw [List.getElem?_append_left (by omega)] at hf
        exact hcs.buf c hc i g f hg hf
      · rw [List.getElem?_append_right (by omega)] at hg hf
        rw [← hgl] at hf
        rw [List.getElem?_map] at hg
        obtain ⟨k, hk, rfl⟩ := Option.map_eq_some_iff.1 hg
        exact h.bufs _ k f hk hf)
    (fun f hf => (List.mem_append.1 hf).elim (hcs.fok c hc f) (h.fok f)) (fun k hk => (List.mem_append.1 hk).elim (hcs.tg c hc k) (fun y => by obtain ⟨k', hk', rfl⟩ := List.mem_map.1 y; exact h.tg k' hk'))
  rw [List.length_append] at h2
  exact ⟨_, tag', h2, rfl, rfl, rfl, rfl⟩
/-- What is true of the two, in the middle of the play: what is sent, and that no more is on its way than so much. -/
structure Ok (s : Cy) (B S : Nat) : Prop where
  both : Both (s.e 0) (s.e 1) (s.bag 0) (s.bag 1) (s.sent 0) (s.sent 1) (s.got 0) (s.got 1)
  len : ∀ c, c < 2 → (s.bag c).length + (s.e c).out.length ≤ B
  sent : ∀ c, c < 2 → s.sent c ≤ S
theorem two_cases {c d : Nat} (hc : c < 2) (hd : d < 2) (hcd : c ≠ d) : (c = 0 ∧ d = 1) ∨ (c = 1 ∧ d = 0) := by omega
theorem Ok.pair {s : Cy} {B S : Nat} (h : Ok s B S) {c d : Nat} (hc : c < 2) (hd : d < 2) (hcd : c ≠ d) : Both (s.e c) (s.e d) (s.bag c) (s.bag d) (s.sent c) (s.sent d) (s.got c) (s.got d) := by
  rcases two_cases hc hd hcd with ⟨rfl, rfl⟩ | ⟨rfl, rfl⟩
  · exact h.both
  · exact h.both.symm
theorem Ok.of_pair {s : Cy} {B S : Nat} {c d : Nat} (hc : c < 2) (hd : d < 2) (hcd : c ≠ d) (h : Both (s.e c) (s.e d) (s.bag c) (s.bag d) (s.sent c) (s.sent d) (s.got c) (s.got d)) (hl : ∀ c, c < 2 → (s.bag c).length + (s.e c).out.length ≤ B) (hs : ∀ c, c < 2 → s.sent c ≤ S) : Ok s B S := by
  rcases two_cases hc hd hcd with ⟨rfl, rfl⟩ | ⟨rfl, rfl⟩
  · exact ⟨h, hl, hs⟩
  · exact ⟨h.symm, hl, hs⟩
/-- c's Out goes into its bag. -/
theorem Ok.collect {s s' : Cy} {B S : Nat} (h : Ok s B S) {c d : Nat} (hc : c < 2) (hd : d < 2) (hcd : c ≠ d) (he : s'.e = upd s.e c (s.e c).outs) (hb : s'.bag = upd s.bag c (s.bag c ++ (s.e c).out)) (hs : s'.sent = s.sent) (hg : s'.got = s.got) : Ok s' B S := by
  refine Ok.of_pair hc hd hcd ?_ ?_ (by rw [hs]; exact h.sent)
  · rw [he, hb, hs, hg, upd_self, upd_self, upd_other _ _ _ _ (Ne.symm hcd), upd_other _ _ _ _ (Ne.symm hcd)]
    exact (h.pair hc hd hcd).collect
  · intro k hk
    have := h.len k hk
    rw [he, hb]
    by_cases hkc : k = c
    · subst hkc
      rw [upd_self, upd_self]
      simp [En.outs]; omega
    · rw [upd_other _ _ _ _ hkc, upd_other _ _ _ _ hkc]; exact this

theorem send_len (e : En) (m : Fr.Msg) : (e.send m).out.length ≤ e.out.length + 4 := by
  simp [En.send, En.showFrom, En.put, frames_len]; omega
theorem tick_len (e : En) : e.tick.out.length ≤ e.out.length + 4 := by
  simp [En.tick, En.showFrom, frames_len]; omega
/-- c sends its next message. -/
theorem Ok.sent_one {s : Cy} {i : Nat} (h : Ok s (6 * i) i) {c d : Nat} (hc : c < 2) (hd : d < 2) (hcd : c ≠ d) (ho : ∀ c, c < 2 → (s.e c).out = []) {p' : Nat → Pl} : Ok { s with e := upd s.e c ((s.e c).send (rmsg (s.sent c))), p := p', sent := upd s.sent c (s.sent c + 1) } (6 * (i + 1)) (i + 1) := by
  refine Ok.of_pair hc hd hcd ?_ ?_ ?_
  · simp only [upd_self, upd_other _ _ _ _ (Ne.symm hcd)]
    exact (h.pair hc hd hcd).send
  · intro k hk
    have h1 := h.len k hk
    by_cases hkc : k = c
    · subst hkc
      have h2 := send_len (s.e k) (rmsg (s.sent k))
      simp only [upd_self]; omega
    · simp only [upd_other _ _ _ _ hkc]; omega
  · intro k hk
    have h1 := h.sent k hk
    by_cases hkc : k = c
    · subst hkc; simp only [upd_self]; omega
    · simp only [upd_other _ _ _ _ hkc]; omega
/-- c ticks. -/
theorem Ok.ticked {s : Cy} {i : Nat} (h : Ok s (6 * i) i) {c d : Nat} (hc : c < 2) (hd : d < 2) (hcd : c ≠ d) {p' : Nat → Pl} : Ok { s with e := upd s.e c (s.e c).tick, p := p' } (6 * (i + 1)) (i + 1) := by
  refine Ok.of_pair hc hd hcd ?_ ?_ ?_
  · simp only [upd_self, upd_other _ _ _ _ (Ne.symm hcd)]
    exact (h.pair hc hd hcd).tick
  · intro k hk
    have h1 := h.len k hk
    by_cases hkc : k = c
    · subst hkc
      have h2 := tick_len (s.e k)
      simp only [upd_self]; omega
    · simp only [upd_other _ _ _ _ hkc]; omega
  · intro k hk
    have h1 := h.sent k hk
    show s.sent k ≤ i + 1
    omega
/-- A bag has less, or what it has once more. -/
theorem Ok.bagged {s : Cy} {i : Nat} (h : Ok s (6 * i) i) {c d : Nat} (hc : c < 2) (hd : d < 2) (hcd : c ≠ d) (l : List Fr.Frm) (hl : ∀ f ∈ l, f ∈ s.bag c) (hn : l.length ≤ (s.bag c).length + 1) {g' : Nat → List (Nat × Nat)} {a' : Nat → Option Addr} {ca' : Nat → Nat} : Ok { s with bag := upd s.bag c l, g := g', a := a', ca := ca' } (6 * (i + 1)) (i + 1) := by
  refine Ok.of_pair hc hd hcd ?_ ?_ ?_
  · simp only [upd_self, upd_other _ _ _ _ (Ne.symm hcd)]
    exact (h.pair hc hd hcd).bag hl
  · intro k hk
    have h1 := h.len k hk
    by_cases hkc : k = c
    · subst hkc; simp only [upd_self]; omega
    · simp only [upd_other _ _ _ _ hkc]; omega
  · intro k hk
    have h1 := h.sent k hk
    show s.sent k ≤ i + 1
    omega
theorem Ok.more {s : Cy} {i : Nat} (h : Ok s (6 * i) i) : Ok s (6 * (i + 1)) (i + 1) := ⟨h.both, fun k hk => by have := h.len k hk; omega, fun k hk => by have := h.sent k hk; omega⟩
theorem deliver_len (e : En) (f : Fr.Frm) : (e.deliver f).out.length ≤ e.out.length + 4 := by
  unfold En.deliver
  split
  · have : (e.keep f.seq f.m).take.out = e.out := keep_out e f.seq f.m
    unfold En.came En.answer
    split
    · simp [this]
    · rw [this]; omega
  · unfold En.ack
    split
    · simp [En.showFrom, frames_len, En.drop]; omega
    · omega
/-- A frame out of c's bag came to d. -/
theorem Ok.delivered {s s' : Cy} {B S : Nat} (h : Ok s B S) {c d k : Nat} {f : Fr.Frm} (hc : c < 2) (hd : d < 2) (hcd : c ≠ d) (hk : Came s s' c d k f) : Ok s' (B + 4) S := by
  have hm : f ∈ s.bag c := List.mem_of_getElem? hk.is
  have h1 := (((h.pair hc hd hcd).deliver f hm).1).bag (bc' := (s.bag c).eraseIdx k) (fun g hg => List.mem_of_mem_eraseIdx hg)
  refine Ok.of_pair hc hd hcd ?_ ?_ (by rw [hk.sent]; exact h.sent)
  · rw [hk.e, hk.bag, hk.sent, hk.got, upd_self, upd_self, upd_self, upd_other _ _ _ _ hcd, upd_other _ _ _ _ (Ne.symm hcd), upd_other _ _ _ _ (Ne.symm hcd)]
    exact h1
  · intro j hj
    have h2 := h.len j hj
    rw [hk.e, hk.bag]
    by_cases hjc : j = c
    · subst hjc
      rw [upd_self, upd_other _ _ _ _ hcd, List.length_eraseIdx]
      split <;> omega
    · have hjd : j = d := by omega
      subst hjd
      have h3 := deliver_len (s.e j) f
      rw [upd_self, upd_other _ _ _ _ hjc]; omega

/-- The bag from its second frame on. -/
theorem drop_row {w : World} {rb ro L cv : Nat} {gs : List (Nat × Nat)} {l : List Fr.Frm} (h : RV w 27 1 (some ⟨rb, ro, none⟩) L cv (bvals gs l)) (hgl : gs.length = l.length) (hL : L = l.length) (hL1 : 1 ≤ L) (ro' : Nat) (hd : ro' = ro + 1 ∨ (cv = 1 ∧ ro' = ro)) (cv' : Nat) (hcv : cv' = cv - 1) :
    RV w 27 1 (some ⟨rb, ro', none⟩) (l.drop 1).length cv' (bvals (gs.drop 1) (l.drop 1)) := by
  obtain ⟨h1, h2, h3⟩ := h
  rcases h3 with ⟨x, _⟩ | ⟨g', o', x, hv⟩
  · cases x
  cases x
  subst hcv
  refine ⟨by rw [bvals_len _ _ (by simp [hgl])]; simp, by simp; omega, Or.inr ⟨rb, ro', rfl, ?_⟩⟩
  have e1 : bvals (gs.drop 1) (l.drop 1) = (bvals gs l).drop (1 * 1) := by
    unfold bvals; rw [List.drop_zipWith]
  rcases hd with rfl | ⟨rfl, rfl⟩
  · rw [e1]
    exact hv.drop 1 (by rw [bvals_len _ _ hgl]; omega)
  · have e2 : l.drop 1 = [] := List.drop_of_length_le (by omega)
    rw [e2]
    have e3 : bvals (gs.drop 1) ([] : List Fr.Frm) = [] := by simp [bvals]
    rw [e3]
    exact hv.stop

/-- What is new may bear any mark. -/
theorem CS.retag {w0 w : World} {x : Fx} {s : Cy} {tag : Nat → Nat} (h : CS w0 w x s tag) (t : Nat) : CS w0 w x s (fun k => if k < w.heap.size then tag k else t) := by
  have e : ∀ k, k < w.heap.size → (if k < w.heap.size then tag k else t) = tag k := fun k hk => if_pos hk
  exact { ends := h.ends, bags := h.bags, sents := h.sents, gots := h.gots, rep := h.rep, row := h.row, gl := h.gl, buf := h.buf, fok := h.fok, keep := h.keep, tw := fun c hc k hk => by rw [e k ((h.rep c hc).lt k hk.mine)]; exact h.tw c hc k hk, tp := fun c hc k hk => by rw [e k ((h.rep c hc).lt k (Or.inr (Or.inr (Or.inr hk))))]; exact h.tp c hc k hk, ta := fun c hc k hk => by rw [e k ((h.row c hc).lt k hk)]; exact h.ta c hc k hk, tg := fun c hc k hk => by rw [e k.1 (h.glt c hc k hk)]; exact h.tg c hc k hk, t5 := by rw [e _ h.ends.lt]; exact h.t5, t6 := by rw [e _ h.bags.lt]; exact h.t6, t7 := by rw [e _ h.sents.lt]; exact h.t7, t8 := by rw [e _ h.gots.lt]; exact h.t8, old := fun k hk => by rw [e k (Nat.lt_of_lt_of_le hk h.keep.size)]; exact h.old k hk }
theorem VBuf.bytes {w : World} {g c : Nat} {l : List Nat} (h : VBuf w g 5 1 (l.map bv) c) : Buf w g l c := by
  obtain ⟨sp, hb, hl⟩ := h
  exact ⟨sp, hb, by simpa using hl⟩
/-- One byte of a buffer is written over. -/
theorem Buf.over {w : World} {g : Nat} {l : List Nat} {c : Nat} (h : Buf w g l c) (z y : Nat) (hz : z < l.length) : Buf (w.setCell ⟨g, z, none⟩ (.int .u8 (y : Int))) g (l.set z y) c := by
  obtain ⟨sp, hb, hc⟩ := h
  refine ⟨sp, ?_, by simpa using hc⟩
  have := hb.set z (.int .u8 (y : Int))
  have e : (l.map bv ++ sp).toArray.setIfInBounds z (.int .u8 (y : Int)) = ((l.set z y).map bv ++ sp).toArray := by
    simp [hz, List.map_set, bv]
  rw [e] at this
  exact this
theorem xor_else (x p : Nat) (hx : x < 256) (hp : p < 255) : ∃ y : Nat, bits .xor .u8 (x : Int) (IntKind.u8.wrap (IntKind.i64.wrap (1 + (p : Int)))) = (y : Int) ∧ y < 256 ∧ y ≠ x := by
  refine ⟨x ^^^ (1 + p), ?_, ?_, ?_⟩
  · have e : IntKind.u8.wrap (IntKind.i64.wrap ((1 : Int) + (p : Int))) = ((1 + p : Nat) : Int) := by rw [IntKind.wrap_u8', IntKind.wrap_i64]; omega
    rw [e]; exact u8_xor_nat x (1 + p) hx (by omega)
  · exact Nat.xor_lt_two_pow (n := 8) hx (by omega)
  · intro h
    have h2 := congrArg (· ^^^ x) h
    simp only [Nat.xor_self] at h2
    rw [Nat.xor_comm x, Nat.xor_assoc, Nat.xor_self, Nat.xor_zero] at h2
    omega
end Go.Proofs.Ytlfijfodklhplaa
