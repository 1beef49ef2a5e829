/- For Carried: append of a list of one's own to another; pick, message, In of a frame. -/
import Derived.Test.YtlfijfodklhplaaEndB
import Derived.Test.YtlfijfodklhplaaProt2
namespace Go.Proofs.Ytlfijfodklhplaa
open Go.RowKit
set_option linter.unusedVariables false
set_option linter.unusedSimpArgs false

theorem run_append_zero {P : Program} (w : World) (t ty e : TypeId) (i : TypeInfo) (ht : P.underlying t = some (.slice e)) (hi : P.info? e = some i) (a a2 : Option Addr) (n c c2 : Nat) (hc : n ≤ c) (ha : a = none → n = 0) (ha2 : ∀ x, a = some x → x.spot = none) :
    (Builtin.append_ #[t, t] ty #[.slice a n c, .slice a2 0 c2]).run P w = .ok (.slice a n c) w := by
  cases a with
  | none =>
    have := ha rfl
    subst this
    cases a2 <;> simp [Builtin.append_, run_underlying ht, sizeOf, typeInfo, hi, Builtin.lenOf, Builtin.firstCells, storeCells, loadCells, loadCellsFrom]
  | some x =>
    cases a2 <;> simp [Builtin.append_, run_underlying ht, sizeOf, typeInfo, hi, Builtin.lenOf, Builtin.firstCells, storeCells, loadCells, loadCellsFrom, hc]

/-- What a slice reads: m elements, if there are any. -/
def Reads (w : World) (a2 : Option Addr) (m : Nat) (size : Nat) (news : List Value) : Prop := news.length = m * size ∧ (0 < m → ∃ ad, a2 = some ad ∧ ∀ j u, news[j]? = some u → w.cell? (ad.add j) = some u)
theorem run_append_rr {P : Program} (w : World) (t ty e : TypeId) (z : Value) (size bytes : Nat) (ht : P.underlying t = some (.slice e)) (hinfo : (P.info? e).map (fun i => (i.zero, i.size, i.bytes)) = some (some z, size, bytes)) (hzs : z.cells.size = size)
    (a : Option Addr) (n c : Nat) (vs : List Value) (hb : RV w e size a n c vs) (a2 : Option Addr) (m c' : Nat) (news : List Value) (hr : Reads w a2 m size news) (h1 : ∀ u ∈ news, u.oneCell' = true) (hbytes : (n + m) * bytes ≤ 140737488355328) (h63 : n + m ≤ 9223372036854775807) :
    ∃ a' k' w', (Builtin.append_ #[t, t] ty #[.slice a n c, .slice a2 m c']).run P w = .ok (.slice a' (n + m) k') w' ∧ RV w' e size a' (n + m) k' (vs ++ news) ∧ (∀ g, inB a' g → inB a g ∨ g = w.heap.size) ∧ Keep (inB a) w w' := by
  by_cases h0 : 0 < m
  · obtain ⟨hm, hc⟩ := hr
    obtain ⟨ad, rfl, hc'⟩ := hc h0
    exact run_append_rv w t ty e z size bytes ht hinfo hzs a n c vs hb ad m c' h0 news hm hc' h1 hbytes h63
  · have hm0 : m = 0 := by omega
    subst hm0
    obtain ⟨i, hi, _⟩ := info_parts hinfo
    have hn : news = [] := List.eq_nil_of_length_eq_zero (by simpa using hr.1)
    subst hn
    have hb0 := hb
    obtain ⟨h2, h3, h4⟩ := hb
    refine ⟨a, c, w, ?_, by simpa using hb0, fun g hg => Or.inl hg, Keep.refl _ _⟩
    rw [Nat.add_zero]
    refine run_append_zero w t ty e i ht hi a a2 n c c' h3 (fun e => ?_) (fun x e => ?_)
    · rcases h4 with ⟨_, h5, _⟩ | ⟨g, o, h5, _⟩
      · exact h5
      · rw [e] at h5; cases h5
    · rcases h4 with ⟨h5, _⟩ | ⟨g, o, h5, _⟩
      · rw [e] at h5; cases h5
      · rw [e] at h5; cases h5; rfl

theorem wpList_append_rr {P : Program} (w : World) {ops : Array Oper} {rest : List Oper} {o : Oper} {a : Act} {Q : Exit → Act → World → Prop}
    (hg : o.guard = none) (s x : Operand) (t : TypeId) (hop : o.op = Op.call { callee := Callee.builtin Builtin.append, args := #[s, x], argTypes := #[t, t] })
    (e : TypeId) (z : Value) (size bytes : Nat) (ht : P.underlying t = some (.slice e)) (hinfo : (P.info? e).map (fun i => (i.zero, i.size, i.bytes)) = some (some z, size, bytes)) (hzs : z.cells.size = size)
    (sa : Option Addr) (n c : Nat) (hs : a.eval s = .slice sa n c) (vs : List Value) (hb : RV w e size sa n c vs) (a2 : Option Addr) (m c' : Nat) (hx : a.eval x = .slice a2 m c') (news : List Value) (hr : Reads w a2 m size news)
    (h1 : ∀ u ∈ news, u.oneCell' = true) (hbytes : (n + m) * bytes ≤ 140737488355328) (h63 : n + m ≤ 9223372036854775807)
    (hK : ∀ a' k' w', RV w' e size a' (n + m) k' (vs ++ news) → (∀ g, inB a' g → inB sa g ∨ g = w.heap.size) → Keep (inB sa) w w' → wpList P ops Q rest (a.put o.dst (.slice a' (n + m) k')) w') :
    wpList P ops Q (o :: rest) a w := by
  refine wpList_plain hg fun K hK' => ?_
  obtain ⟨a', k', w', hrun, r1, r2, r3⟩ := run_append_rr (P := P) w t o.type e z size bytes ht hinfo hzs sa n c vs hb a2 m c' news hr h1 hbytes h63
  unfold Oper.wp
  simp [execOp, hop, resolve, invoke, builtin, hs, hx, hrun, Result.andThen]
  exact hK' _ _ (hK a' k' w' r1 r2 r3)

theorem RV.reads {w : World} {e : TypeId} {size : Nat} {a : Option Addr} {n c : Nat} {vs : List Value} (h : RV w e size a n c vs) : Reads w a n size vs := by
  obtain ⟨h1, h2, h3⟩ := h
  refine ⟨h1, fun h0 => ?_⟩
  rcases h3 with ⟨_, h4, _⟩ | ⟨g, o, rfl, hv⟩
  · omega
  · exact ⟨_, rfl, fun j u hu => by rw [Addr.add_lit]; exact hv.cell j u hu⟩

set_option maxHeartbeats 400000 in
theorem pick_all (c n : Int) (h0 : -9223372036854775808 ≤ c) (h1 : c ≤ 9223372036854775807) (h2 : 0 < n) (h3 : n < 4294967296) (w : World) :
    Calls Try.prog 5 #[.int .i64 c, .int .i64 n] w fun e w' => ∃ z : Nat, e = .returned (.int .i64 (z : Int)) ∧ (z : Int) < n ∧ (c = 0 → z = 0) ∧ w = w' := by
  by_cases hc : c = 0
  · subst hc
    go_enter Try.func5, Try.ntmps5
    go_wp2
    go_ret
    exact ⟨0, ret_int (by simp), by omega, fun _ => rfl, rfl⟩
  · refine (pick_any c n h0 h1 h2 h3 w).mono ?_
    rintro r w' ⟨z, rfl, hz, rfl⟩
    exact ⟨z, rfl, hz, fun e => absurd e hc, rfl⟩

theorem rmsg_ok (i : Nat) : MOk (rmsg i) := by
  refine ⟨?_, ?_, ?_, may_yes (k := 6) (l := 0) (n := ((i % 1000 : Nat) : Int)) (f := false) (by decide) (by decide) (by decide) ?_ ?_ (by simp)⟩
  · show 6 < 256; omega
  · show 0 < 256; omega
  · show i % 1000 < 65536; omega
  · show (0 : Int) ≤ _; omega
  · show ((i % 1000 : Nat) : Int) ≤ 1000; omega

set_option maxHeartbeats 400000 in
theorem message_any (i : Nat) (hi : (i : Int) < 1000000) (w : World) :
    Calls Try.prog 10 #[.int .i64 (i : Int)] w fun r w' => r = .returned (mv (rmsg i)) ∧ Keep nil w w' := by
  have e1 : (i : Int).tmod 1000 = ((i % 1000 : Nat) : Int) := by rw [Int.tmod_eq_emod_of_nonneg (by omega)]; omega
  go_enter Try.func10, Try.ntmps10
  go_wp2
  refine bodyPost_ret (v := mv (rmsg i)) ?_ rfl ⟨rfl, (Keep.refl _ _).alloc _⟩
  simp [results, Try.results10, go_sem, rmsg]

/-- Bytes of a frame, in a block of their own, with room. -/
def bval (g : Nat × Nat) (f : Fr.Frm) : Value := .slice (some ⟨g.1, 0, none⟩) (flen f) g.2
def bvals (gs : List (Nat × Nat)) (l : List Fr.Frm) : List Value := List.zipWith bval gs l
theorem lies_buf {w : World} {g cap : Nat} {f : Fr.Frm} (h : Buf w g (Fr.enc f) cap) (hf : FrOk f) : Lies w g 0 cap (Fr.enc f) :=
  ⟨h.row, h.lt, h.len, by rw [enc_len]; rcases flen_two f with e | e <;> rw [e] <;> omega, enc_byte f hf⟩

theorem in_frm (c : Array Value) (t : TypeId) (b o : Nat) (e : En) (p : Pl) (g : Nat × Nat) (f : Fr.Frm) (hf : FrOk f) (w : World) (h : Rep w c t b o e p) (hb : Buf w g.1 (Fr.enc f) g.2) (ho : (e.out.length : Int) < 1099511627000) :
    Calls Try.prog 12 #[.pointer (some ⟨b, o, none⟩), bval g f] w fun r w' => ∃ v p', r = .returned v ∧ Told w w' b p' v (e.heard f) ∧ Rep w' c t b o (e.deliver f) p' ∧ Step w w' b p p' := by
  have hl := lies_buf hb hf
  have hx := enc_read f hf
  have e1 : bval g f = .slice (some ⟨g.1, 0, none⟩) (Fr.enc f).length g.2 := by rw [enc_len]; rfl
  rw [e1]
  obtain ⟨d, n, m⟩ := f
  have hn : (n : Int) < 65536 := by have := hf.1; simp only at this; omega
  cases d with
  | true => exact in_msg c t b o e p g.1 0 g.2 n m _ w h hl hx hn ho
  | false =>
    have hm : m = Fr.none0 := by
      rcases hf.2 with ⟨x, _⟩ | ⟨_, x⟩
      · cases x
      · exact x
    subst hm
    refine (in_ack c t b o e p g.1 0 g.2 n _ w h hl hx hn ho).mono ?_
    rintro r w' ⟨rfl, p', hr, hs⟩
    exact ⟨_, p', rfl, ⟨none, 0, rfl, RV.nil _ _ _, fun g hg => (inB_none g hg).elim⟩, hr, hs⟩

/-- What pick answers, whatever the world. -/
theorem pick_nat (c n : Int) (h0 : -9223372036854775808 ≤ c) (h1 : c ≤ 9223372036854775807) (h2 : 0 < n) (h3 : n < 4294967296) :
    ∃ z : Nat, (z : Int) < n ∧ ∀ w, Calls Try.prog 5 #[.int .i64 c, .int .i64 n] w fun e w' => e = .returned (.int .i64 (z : Int)) ∧ w = w' := by
  by_cases hc : c < 0
  · have e : (-(c + 1)).tmod n = (-(c + 1)) % n := Int.tmod_eq_emod_of_nonneg (by omega)
    have z0 := Int.emod_nonneg (-(c + 1)) (show n ≠ 0 by omega)
    have z1 := Int.emod_lt_of_pos (-(c + 1)) h2
    obtain ⟨z, hz⟩ : ∃ z : Nat, (z : Int) = (-(c + 1)) % n := ⟨((-(c + 1)) % n).toNat, Int.toNat_of_nonneg z0⟩
    have HE : Hid (-(c + 1).tmod n = (z : Int)) := by
      rw [hz, ← e, Int.neg_tmod]; rfl
    refine ⟨z, by omega, fun w => ?_⟩
    clear e z0 z1 hz
    go_enter Try.func5, Try.ntmps5
    go_wp2
    go_ret
    exact ⟨ret_int HE.out, rfl⟩
  · have z0 := Int.emod_nonneg c (show n ≠ 0 by omega)
    have z1 := Int.emod_lt_of_pos c h2
    obtain ⟨z, hz⟩ : ∃ z : Nat, (z : Int) = c % n := ⟨(c % n).toNat, Int.toNat_of_nonneg z0⟩
    have HE : Hid (c % n = (z : Int)) := hz.symm
    refine ⟨z, by omega, fun w => ?_⟩
    clear z0 z1 hz
    go_enter Try.func5, Try.ntmps5
    go_wp2
    go_ret
    exact ⟨ret_int HE.out, rfl⟩
end Go.Proofs.Ytlfijfodklhplaa
