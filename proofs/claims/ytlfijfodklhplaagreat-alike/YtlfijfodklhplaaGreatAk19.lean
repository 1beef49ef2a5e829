import Derived.Test.YtlfijfodklhplaaGreatAk18
/- Walk of a node's do. Made by tools/nodh.py. -/
namespace Go.Proofs.YtlfijfodklhplaaGreat
open Go.RowKit
set_option linter.unusedVariables false
set_option linter.unusedSimpArgs false

/-- What a node must be for a message to be done. -/
structure NOk (n : Nod) : Prop where
  rise : NRise n
  best : ∀ i, n.best = some i → i < n.edges.length
  level : (n.level : Int) < 1000
  sent : (n.sent.length : Int) < 990000000000

theorem ta_yes {P : Program} {t xT : TypeId} {fs : _} (hu : P.underlying t = some (.struct fs)) (v : Value) (w : World) : (Instr.typeAssert (.iface t v) xT t true).run P w = .ok (.tuple #[v, .bool true]) w := by
  simp [Instr.typeAssert, run_underlying hu]
theorem ta_no {P : Program} {t s xT : TypeId} {fs : _} {z : Value} (hu : P.underlying s = some (.struct fs)) (ht : (t == s) = false) (hz : (P.info? s).map (·.zero) = some (some z)) (v : Value) (w : World) : (Instr.typeAssert (.iface t v) xT s true).run P w = .ok (.tuple #[z, .bool false]) w := by
  obtain ⟨j, hj, hz'⟩ := Option.map_eq_some_iff.1 hz
  have ht' : t ≠ s := by simpa using ht
  simp [Instr.typeAssert, run_underlying hu, ht', zeroValue, typeInfo, hj, hz']
theorem is_connect (v : Value) (xT : TypeId) (w : World) : (Instr.typeAssert (.iface 193 v) xT 193 true).run Tryz.prog w = .ok (.tuple #[v, .bool true]) w := ta_yes Tryz.underlying193 v w
theorem no_connect (t : TypeId) (ht : (t == 193) = false) (v : Value) (xT : TypeId) (w : World) : (Instr.typeAssert (.iface t v) xT 193 true).run Tryz.prog w = .ok (.tuple #[.agg #[.int .i64 0], .bool false]) w := ta_no Tryz.underlying193 ht (by kernel_rfl) v w
theorem is_initiate (v : Value) (xT : TypeId) (w : World) : (Instr.typeAssert (.iface 313 v) xT 313 true).run Tryz.prog w = .ok (.tuple #[v, .bool true]) w := ta_yes Tryz.underlying313 v w
theorem no_initiate (t : TypeId) (ht : (t == 313) = false) (v : Value) (xT : TypeId) (w : World) : (Instr.typeAssert (.iface t v) xT 313 true).run Tryz.prog w = .ok (.tuple #[.agg #[.int .i64 0, .int .i64 0, .bool false], .bool false]) w := ta_no Tryz.underlying313 ht (by kernel_rfl) v w
theorem is_test (v : Value) (xT : TypeId) (w : World) : (Instr.typeAssert (.iface 315 v) xT 315 true).run Tryz.prog w = .ok (.tuple #[v, .bool true]) w := ta_yes Tryz.underlying315 v w
theorem no_test (t : TypeId) (ht : (t == 315) = false) (v : Value) (xT : TypeId) (w : World) : (Instr.typeAssert (.iface t v) xT 315 true).run Tryz.prog w = .ok (.tuple #[.agg #[.int .i64 0, .int .i64 0], .bool false]) w := ta_no Tryz.underlying315 ht (by kernel_rfl) v w
theorem is_accept (v : Value) (xT : TypeId) (w : World) : (Instr.typeAssert (.iface 316 v) xT 316 true).run Tryz.prog w = .ok (.tuple #[v, .bool true]) w := ta_yes Tryz.underlying316 v w
theorem no_accept (t : TypeId) (ht : (t == 316) = false) (v : Value) (xT : TypeId) (w : World) : (Instr.typeAssert (.iface t v) xT 316 true).run Tryz.prog w = .ok (.tuple #[.agg #[], .bool false]) w := ta_no Tryz.underlying316 ht (by kernel_rfl) v w
theorem is_reject (v : Value) (xT : TypeId) (w : World) : (Instr.typeAssert (.iface 317 v) xT 317 true).run Tryz.prog w = .ok (.tuple #[v, .bool true]) w := ta_yes Tryz.underlying317 v w
theorem no_reject (t : TypeId) (ht : (t == 317) = false) (v : Value) (xT : TypeId) (w : World) : (Instr.typeAssert (.iface t v) xT 317 true).run Tryz.prog w = .ok (.tuple #[.agg #[], .bool false]) w := ta_no Tryz.underlying317 ht (by kernel_rfl) v w
theorem is_report (v : Value) (xT : TypeId) (w : World) : (Instr.typeAssert (.iface 319 v) xT 319 true).run Tryz.prog w = .ok (.tuple #[v, .bool true]) w := ta_yes Tryz.underlying319 v w
theorem no_report (t : TypeId) (ht : (t == 319) = false) (v : Value) (xT : TypeId) (w : World) : (Instr.typeAssert (.iface t v) xT 319 true).run Tryz.prog w = .ok (.tuple #[.agg #[.int .i64 0], .bool false]) w := ta_no Tryz.underlying319 ht (by kernel_rfl) v w
theorem is_root (v : Value) (xT : TypeId) (w : World) : (Instr.typeAssert (.iface 321 v) xT 321 true).run Tryz.prog w = .ok (.tuple #[v, .bool true]) w := ta_yes Tryz.underlying321 v w
theorem no_root (t : TypeId) (ht : (t == 321) = false) (v : Value) (xT : TypeId) (w : World) : (Instr.typeAssert (.iface t v) xT 321 true).run Tryz.prog w = .ok (.tuple #[.agg #[], .bool false]) w := ta_no Tryz.underlying321 ht (by kernel_rfl) v w

set_option maxRecDepth 100000 in
set_option maxHeartbeats 2000000 in
theorem act_connect (b : Nat) (n : Nod) (p : Np) (j : Nat) (l : Nat) (w : World) (h : NRep w b n p) (ho : NOk n) (hj : j < n.edges.length) :
    Calls Tryz.prog 173 #[.pointer (some ⟨b, 0, none⟩), .agg #[.int .i64 (j : Int), (NMsg.connect l : NMsg).val]] w fun r w' => r = .returned (.bool (n.act j (.connect l)).2) ∧ ∃ p', NRep w' b (n.act j (.connect l)).1 p' ∧ NStep w w' b p p' := by
  have HC : Unit → ∀ w1, Keep nil w w1 → _ := fun _ w1 k1 => nconnect_any b n p j l w1 (h.keep k1 (fun _ _ e => e)) ho.rise hj ho.level (by have := ho.sent; omega)
  have hblw := h.blk.lt
  simp only [NMsg.val]
  have ta_connect := is_connect
  clear h ho hj
  go_enter Tryz.func173, Tryz.ntmps173
  go_wp2_with fail
  refine Calls.mono (HC () _ (((Keep.refl nil w).alloc _).alloc _)) ?_
  rintro r w3 ⟨rfl, p3, hr3, hs3⟩
  have HP : Unit → ∃ p', NRep w3 b (n.act j (.connect l)).1 p' ∧ NStep w w3 b p p' := fun _ => ⟨p3, hr3, (NStep.of_keep b p (((Keep.refl nil w).alloc _).alloc _)).trans hs3⟩
  clear hr3 hs3 HC
  go_wp2
  go_ret
  exact ⟨rfl, HP ()⟩

set_option maxRecDepth 100000 in
set_option maxHeartbeats 2000000 in
theorem act_initiate (b : Nat) (n : Nod) (p : Np) (j : Nat) (l nm : Nat) (f : Bool) (w : World) (h : NRep w b n p) (ho : NOk n) (hj : j < n.edges.length) :
    Calls Tryz.prog 173 #[.pointer (some ⟨b, 0, none⟩), .agg #[.int .i64 (j : Int), (NMsg.initiate l nm f : NMsg).val]] w fun r w' => r = .returned (.bool (n.act j (.initiate l nm f)).2) ∧ ∃ p', NRep w' b (n.act j (.initiate l nm f)).1 p' ∧ NStep w w' b p p' := by
  have HC : Unit → ∀ w1, Keep nil w w1 → _ := fun _ w1 k1 => initiate_any b n p j l nm f w1 (h.keep k1 (fun _ _ e => e)) ho.rise ho.sent
  have hblw := h.blk.lt
  simp only [NMsg.val]
  have ta_connect := no_connect 313 (by rfl)
  have ta_initiate := is_initiate
  clear h ho hj
  go_enter Tryz.func173, Tryz.ntmps173
  go_wp2_with fail
  refine Calls.mono (HC () _ (((Keep.refl nil w).alloc _).alloc _)) ?_
  rintro r w3 ⟨rfl, p3, hr3, hs3⟩
  have HP : Unit → ∃ p', NRep w3 b (n.act j (.initiate l nm f)).1 p' ∧ NStep w w3 b p p' := fun _ => ⟨p3, hr3, (NStep.of_keep b p (((Keep.refl nil w).alloc _).alloc _)).trans hs3⟩
  clear hr3 hs3 HC
  go_wp2
  go_ret
  exact ⟨rfl, HP ()⟩

set_option maxRecDepth 100000 in
set_option maxHeartbeats 2000000 in
theorem act_test (b : Nat) (n : Nod) (p : Np) (j : Nat) (l nm : Nat) (w : World) (h : NRep w b n p) (ho : NOk n) (hj : j < n.edges.length) :
    Calls Tryz.prog 173 #[.pointer (some ⟨b, 0, none⟩), .agg #[.int .i64 (j : Int), (NMsg.test l nm : NMsg).val]] w fun r w' => r = .returned (.bool (n.act j (.test l nm)).2) ∧ ∃ p', NRep w' b (n.act j (.test l nm)).1 p' ∧ NStep w w' b p p' := by
  have HC : Unit → ∀ w1, Keep nil w w1 → _ := fun _ w1 k1 => ntest_any b n p j l nm w1 (h.keep k1 (fun _ _ e => e)) ho.rise hj (by have := ho.sent; omega)
  have hblw := h.blk.lt
  simp only [NMsg.val]
  have ta_connect := no_connect 315 (by rfl)
  have ta_initiate := no_initiate 315 (by rfl)
  have ta_test := is_test
  clear h ho hj
  go_enter Tryz.func173, Tryz.ntmps173
  go_wp2_with fail
  refine Calls.mono (HC () _ (((Keep.refl nil w).alloc _).alloc _)) ?_
  rintro r w3 ⟨rfl, p3, hr3, hs3⟩
  have HP : Unit → ∃ p', NRep w3 b (n.act j (.test l nm)).1 p' ∧ NStep w w3 b p p' := fun _ => ⟨p3, hr3, (NStep.of_keep b p (((Keep.refl nil w).alloc _).alloc _)).trans hs3⟩
  clear hr3 hs3 HC
  go_wp2
  go_ret
  exact ⟨rfl, HP ()⟩

set_option maxRecDepth 100000 in
set_option maxHeartbeats 2000000 in
theorem act_accept (b : Nat) (n : Nod) (p : Np) (j : Nat)  (w : World) (h : NRep w b n p) (ho : NOk n) (hj : j < n.edges.length) :
    Calls Tryz.prog 173 #[.pointer (some ⟨b, 0, none⟩), .agg #[.int .i64 (j : Int), (NMsg.accept : NMsg).val]] w fun r w' => r = .returned (.bool (n.act j .accept).2) ∧ ∃ p', NRep w' b (n.act j .accept).1 p' ∧ NStep w w' b p p' := by
  have HC : Unit → ∀ w1, Keep nil w w1 → _ := fun _ w1 k1 => accept_any b n p j w1 (h.keep k1 (fun _ _ e => e)) ho.rise.few hj (by have := ho.sent; omega)
  have hblw := h.blk.lt
  simp only [NMsg.val]
  have ta_connect := no_connect 316 (by rfl)
  have ta_initiate := no_initiate 316 (by rfl)
  have ta_test := no_test 316 (by rfl)
  have ta_accept := is_accept
  clear h ho hj
  go_enter Tryz.func173, Tryz.ntmps173
  go_wp2_with fail
  refine Calls.mono (HC () _ (((Keep.refl nil w).alloc _).alloc _)) ?_
  rintro r w3 ⟨rfl, p3, hr3, hs3⟩
  have HP : Unit → ∃ p', NRep w3 b (n.act j .accept).1 p' ∧ NStep w w3 b p p' := fun _ => ⟨p3, hr3, (NStep.of_keep b p (((Keep.refl nil w).alloc _).alloc _)).trans hs3⟩
  clear hr3 hs3 HC
  go_wp2
  go_ret
  exact ⟨rfl, HP ()⟩

set_option maxRecDepth 100000 in
set_option maxHeartbeats 2000000 in
theorem act_reject (b : Nat) (n : Nod) (p : Np) (j : Nat)  (w : World) (h : NRep w b n p) (ho : NOk n) (hj : j < n.edges.length) :
    Calls Tryz.prog 173 #[.pointer (some ⟨b, 0, none⟩), .agg #[.int .i64 (j : Int), (NMsg.reject : NMsg).val]] w fun r w' => r = .returned (.bool (n.act j .reject).2) ∧ ∃ p', NRep w' b (n.act j .reject).1 p' ∧ NStep w w' b p p' := by
  have HC : Unit → ∀ w1, Keep nil w w1 → _ := fun _ w1 k1 => nreject_any b n p j w1 (h.keep k1 (fun _ _ e => e)) hj ho.rise.few
  have HT : Unit → ∀ w2 p2, NRep w2 b (n.reject j) p2 → _ := fun _ w2 p2 h2 => tests_any b (n.reject j) p2 w2 h2 ((reject_same n j).2.2.2 ho.rise) (by rw [(reject_same n j).2.1]; have := ho.sent; omega)
  have hblw := h.blk.lt
  simp only [NMsg.val]
  have ta_connect := no_connect 317 (by rfl)
  have ta_initiate := no_initiate 317 (by rfl)
  have ta_test := no_test 317 (by rfl)
  have ta_accept := no_accept 317 (by rfl)
  have ta_reject := is_reject
  clear h ho hj
  go_enter Tryz.func173, Tryz.ntmps173
  go_wp2_with fail
  refine Calls.mono (HC () _ (((Keep.refl nil w).alloc _).alloc _)) ?_
  rintro r w2 ⟨rfl, hr2, hs2⟩
  have H2 : Unit → NRep w2 b (n.reject j) p ∧ NStep w w2 b p p := fun _ => ⟨hr2, (NStep.of_keep b p (((Keep.refl nil w).alloc _).alloc _)).trans hs2⟩
  clear hr2 hs2 HC
  go_wp2_with fail
  refine Calls.mono (HT () _ _ (H2 ()).1) ?_
  rintro r w3 ⟨rfl, p3, hr3, hs3⟩
  have HP : Unit → ∃ p', NRep w3 b (n.act j .reject).1 p' ∧ NStep w w3 b p p' := fun _ => ⟨p3, hr3, (H2 ()).2.trans hs3⟩
  clear hr3 hs3 HT
  go_wp2
  go_ret
  exact ⟨rfl, HP ()⟩

set_option maxRecDepth 100000 in
set_option maxHeartbeats 2000000 in
theorem act_report (b : Nat) (n : Nod) (p : Np) (j : Nat) (x : Nat) (w : World) (h : NRep w b n p) (ho : NOk n) (hj : j < n.edges.length) :
    Calls Tryz.prog 173 #[.pointer (some ⟨b, 0, none⟩), .agg #[.int .i64 (j : Int), (NMsg.report x : NMsg).val]] w fun r w' => r = .returned (.bool (n.act j (.report x)).2) ∧ ∃ p', NRep w' b (n.act j (.report x)).1 p' ∧ NStep w w' b p p' := by
  have HC : Unit → ∀ w1, Keep nil w w1 → _ := fun _ w1 k1 => report_any b n p j x w1 (h.keep k1 (fun _ _ e => e)) ho.rise.few ho.best (by have := ho.sent; omega)
  have hblw := h.blk.lt
  simp only [NMsg.val]
  have ta_connect := no_connect 319 (by rfl)
  have ta_initiate := no_initiate 319 (by rfl)
  have ta_test := no_test 319 (by rfl)
  have ta_accept := no_accept 319 (by rfl)
  have ta_reject := no_reject 319 (by rfl)
  have ta_report := is_report
  clear h ho hj
  go_enter Tryz.func173, Tryz.ntmps173
  go_wp2_with fail
  refine Calls.mono (HC () _ (((Keep.refl nil w).alloc _).alloc _)) ?_
  rintro r w3 ⟨rfl, p3, hr3, hs3⟩
  have HP : Unit → ∃ p', NRep w3 b (n.act j (.report x)).1 p' ∧ NStep w w3 b p p' := fun _ => ⟨p3, hr3, (NStep.of_keep b p (((Keep.refl nil w).alloc _).alloc _)).trans hs3⟩
  clear hr3 hs3 HC
  go_wp2
  go_ret
  exact ⟨rfl, HP ()⟩

set_option maxRecDepth 100000 in
set_option maxHeartbeats 2000000 in
theorem act_root (b : Nat) (n : Nod) (p : Np) (j : Nat)  (w : World) (h : NRep w b n p) (ho : NOk n) (hj : j < n.edges.length) :
    Calls Tryz.prog 173 #[.pointer (some ⟨b, 0, none⟩), .agg #[.int .i64 (j : Int), (NMsg.root : NMsg).val]] w fun r w' => r = .returned (.bool (n.act j .root).2) ∧ ∃ p', NRep w' b (n.act j .root).1 p' ∧ NStep w w' b p p' := by
  have HC : Unit → ∀ w1, Keep nil w w1 → _ := fun _ w1 k1 => changeRoot_any b n p w1 (h.keep k1 (fun _ _ e => e)) ho.rise.few ho.best (by have := ho.sent; omega)
  have hblw := h.blk.lt
  simp only [NMsg.val]
  have ta_connect := no_connect 321 (by rfl)
  have ta_initiate := no_initiate 321 (by rfl)
  have ta_test := no_test 321 (by rfl)
  have ta_accept := no_accept 321 (by rfl)
  have ta_reject := no_reject 321 (by rfl)
  have ta_report := no_report 321 (by rfl)
  have ta_root := is_root
  clear h ho hj
  go_enter Tryz.func173, Tryz.ntmps173
  go_wp2_with fail
  refine Calls.mono (HC () _ (((Keep.refl nil w).alloc _).alloc _)) ?_
  rintro r w3 ⟨rfl, p3, hr3, hs3⟩
  have HP : Unit → ∃ p', NRep w3 b (n.act j .root).1 p' ∧ NStep w w3 b p p' := fun _ => ⟨p3, hr3, (NStep.of_keep b p (((Keep.refl nil w).alloc _).alloc _)).trans hs3⟩
  clear hr3 hs3 HC
  go_wp2
  go_ret
  exact ⟨rfl, HP ()⟩

theorem act_any (b : Nat) (n : Nod) (p : Np) (j : Nat) (m : NMsg) (w : World) (h : NRep w b n p) (ho : NOk n) (hj : j < n.edges.length) :
    Calls Tryz.prog 173 #[.pointer (some ⟨b, 0, none⟩), .agg #[.int .i64 (j : Int), m.val]] w fun r w' => r = .returned (.bool (n.act j m).2) ∧ ∃ p', NRep w' b (n.act j m).1 p' ∧ NStep w w' b p p' := by
  cases m with
  | connect l => exact act_connect b n p j l w h ho hj
  | initiate l nm f => exact act_initiate b n p j l nm f w h ho hj
  | test l nm => exact act_test b n p j l nm w h ho hj
  | accept => exact act_accept b n p j w h ho hj
  | reject => exact act_reject b n p j w h ho hj
  | report x => exact act_report b n p j x w h ho hj
  | root => exact act_root b n p j w h ho hj
end Go.Proofs.YtlfijfodklhplaaGreat
/- slices.Delete of one element, over a row of one's own. -/
namespace Go.Proofs.YtlfijfodklhplaaGreat
open Go.RowKit
set_option linter.unusedVariables false
set_option linter.unusedSimpArgs false

/-- append onto a row that has room: in its place. -/
theorem step_append_room {P : Program} {ops : Array Oper} {op : Oper} {a : Act} {w : World} {K : Act → World → Prop} {Q : Exit → Act → World → Prop} {E : Prop}
    (hg : op.guard = none) (s x : Operand) (t : TypeId) (hop : op.op = Op.call { callee := Callee.builtin Builtin.append, args := #[s, x], argTypes := #[t, t] })
    (e : TypeId) (i : TypeInfo) (ht : P.underlying t = some (.slice e)) (hi : P.info? e = some i)
    (g o n c : Nat) (cur : List Value) (hb : Blk w g cur.toArray e) (hs : a.eval s = .slice (some ⟨g, o, none⟩) n c) (ad : Addr) (m c' : Nat) (hx : a.eval x = .slice (some ad) m c') (news : List Value) (hm : news.length = m * i.size)
    (hc : ∀ j u, news[j]? = some u → w.cell? (ad.add j) = some u) (h1 : ∀ u ∈ news, u.oneCell' = true) (hroom : n + m ≤ c) (hfit : o + n * i.size + news.length ≤ cur.length)
    (hK : ∀ w', Blk w' g (cur.take (o + n * i.size) ++ news ++ cur.drop (o + n * i.size + news.length)).toArray e → Keep (only g) w w' → K (a.put op.dst (.slice (some ⟨g, o, none⟩) (n + m) c)) w') :
    if Region.wanted op (yielded ops a.tmps) = true then Oper.wp P op a w K Q else E := by
  have hw : Region.wanted op (yielded ops a.tmps) = true := by simp [Region.wanted, hg]
  rw [if_pos hw]
  have hrun := run_append_room_at (P := P) w t op.type e i ht hi g o n c cur.toArray hb ad m c' news hm hc h1 hroom (by simpa using hfit)
  unfold Oper.wp
  simp [execOp, hop, resolve, invoke, builtin, hs, hx, hrun, Result.andThen]
  refine hK _ ?_ ?_
  · unfold Blk at hb ⊢
    rw [setRow_heap w g _ _ _ _ hb]; simp
  · exact ⟨rfl, rfl, rfl, by simp [World.setRow], fun k hk hn => setRow_other w g k _ (fun e => hn e)⟩

/-- clear of a slice over a row. -/
theorem run_clear_at {P : Program} (w : World) (t ty e : TypeId) (z : Value) (ht : P.underlying t = some (.slice e)) (hv : ∀ w, (zeroValue e).run P w = .ok z w)
    (g o n c : Nat) (h0 : 0 < n) (cur : List Value) (hb : Blk w g cur.toArray e) (news : List Value) (hz : (Builtin.zeroCells z.cells n).toList = news)
    (h1 : ∀ u ∈ news, u.oneCell' = true) (hfit : o + news.length ≤ cur.length) :
    ∃ w', (Builtin.clear_ #[t] ty #[.slice (some ⟨g, o, none⟩) n c]).run P w = .ok (.tuple #[]) w' ∧ Blk w' g (cur.take o ++ news ++ cur.drop (o + news.length)).toArray e ∧ Keep (only g) w w' := by
  obtain ⟨m, rfl⟩ : ∃ m, n = m + 1 := ⟨n - 1, by omega⟩
  have hst := run_storeCells_at P g o e news 0 cur.toArray w hb (by simpa using hfit) h1
  simp only [Nat.add_zero] at hst
  refine ⟨w.setRow g (cur.take o ++ news ++ cur.drop (o + news.length)).toArray, by simp [Builtin.clear_, run_underlying ht, hv, hz, hst], ?_, ?_⟩
  · unfold Blk at hb ⊢
    rw [setRow_heap w g _ _ _ _ hb]
  · exact ⟨rfl, rfl, rfl, by simp [World.setRow], fun k hk hn => setRow_other w g k _ (fun e => hn e)⟩

theorem zero_came (w : World) : (zeroValue 270).run Tryz.prog w = .ok (.agg #[.int .i64 0, .nilIface]) w := by
  have h : (Tryz.prog.info? 270).map (fun i => i.zero) = some (some (.agg #[.int .i64 0, .nilIface])) := by kernel_rfl
  obtain ⟨i, hi, hs⟩ := Option.map_eq_some_iff.1 h
  simp [zeroValue, typeInfo, hi, hs]
theorem came_info : ∃ i, Tryz.prog.info? 270 = some i ∧ i.size = 2 := by
  have h : (Tryz.prog.info? 270).map (fun i => i.size) = some 2 := by kernel_rfl
  obtain ⟨i, hi, hs⟩ := Option.map_eq_some_iff.1 h
  exact ⟨i, hi, hs⟩

set_option maxRecDepth 100000 in
set_option maxHeartbeats 2000000 in
theorem delete_came (g o n c k j : Nat) (pre mid x tl sp : List Value) (w : World) (hb : Blk w g (pre ++ mid ++ x ++ tl ++ sp).toArray 270) (ho : pre.length = o) (hm : mid.length = k * 2) (hx : x.length = 2) (ht : tl.length = (n - j) * 2) (h1 : ∀ u ∈ tl, u.oneCell' = true) (hk : j = k + 1) (hjn : j ≤ n) (hc : n ≤ c) :
    Calls Tryz.prog 207 #[.slice (some ⟨g, o, none⟩) n c, .int .i64 (k : Int), .int .i64 (j : Int)] w fun r w' => r = .returned (.slice (some ⟨g, o, none⟩) (n - 1) c) ∧ Blk w' g (pre ++ mid ++ tl ++ [Value.int .i64 0, Value.nilIface] ++ sp).toArray 270 ∧ Keep (only g) w w' := by
  have hkj : k ≤ j := by omega
  have hkn : k ≤ n := by omega
  have hkc : k ≤ c := by omega
  have hkI : (k : Int) ≤ (j : Int) := by omega
  have hjI : (j : Int) ≤ (n : Int) := by omega
  have hcI : (n : Int) ≤ (c : Int) := by omega
  have e1 : ((k : Int) == (j : Int)) = false := by rw [beq_eq_false_iff_ne]; omega
  have e2 : ¬ (k : Int) = (j : Int) := by omega
  have H : Unit → j = k + 1 ∧ j ≤ n ∧ n ≤ c := fun _ => ⟨hk, hjn, hc⟩
  obtain ⟨i, hi, hsz⟩ := came_info
  clear hk
  have hbd : Blk w.drew g (pre ++ mid ++ x ++ tl ++ sp).toArray 270 := hb.keep ((Keep.refl nil w).drew) id
  obtain ⟨ad, hite, hca⟩ : ∃ ad : Addr, (if c = j then some (⟨g, o, none⟩ : Addr) else some ⟨g, o + j * 2, none⟩) = some ad ∧ ∀ q u, tl[q]? = some u → w.drew.cell? (ad.add q) = some u := by
    by_cases hcj : c = j
    · refine ⟨⟨g, o, none⟩, by rw [if_pos hcj], fun q u hu => ?_⟩
      have hq := (List.getElem?_eq_some_iff.1 hu).1
      have := H ()
      have hz : (n - j) * 2 = 0 := by rw [show n - j = 0 by omega]
      omega
    · refine ⟨⟨g, o + j * 2, none⟩, by rw [if_neg hcj], fun q u hu => ?_⟩
      rw [Addr.add_lit]
      have hc0 := hbd.cell (o + j * 2 + q)
      have hq := (List.getElem?_eq_some_iff.1 hu).1
      rw [hc0]
      simp only [List.getElem?_toArray]
      rw [List.append_assoc, List.append_assoc, List.append_assoc, ← List.append_assoc, List.getElem?_append_right (by simp; have := H (); omega), List.getElem?_append_right (by simp; have := H (); omega), List.getElem?_append_left (by simp; have := H (); omega)]
      rw [← hu]
      congr 1
      simp
      have := H ()
      omega
  have hln : tl.length = (n - j) * i.size := by rw [hsz]; exact ht
  have hrm : k + (n - j) ≤ c := by have := H (); omega
  have hft : o + k * i.size + tl.length ≤ (pre ++ mid ++ x ++ tl ++ sp).length := by rw [hsz]; simp; have := H (); omega
  go_enter Tryz.func207, Tryz.ntmps207
  go_wp2_with fail
  go_region_law (refine step_append_room rfl (.tmp 22) (.tmp 25) 184 rfl 270 i Tryz.underlying184 hi g o k c (pre ++ mid ++ x ++ tl ++ sp) hbd rfl ad (n - j) (c - j) rfl tl hln hca h1 hrm hft ?_; intro W1 hb1 hk1)
  have e3 : (pre ++ mid ++ x ++ tl ++ sp).take (o + k * i.size) = pre ++ mid := by
    rw [hsz, List.append_assoc, List.append_assoc, show o + k * 2 = (pre ++ mid).length by simp; omega]; exact List.take_left
  have e4 : (pre ++ mid ++ x ++ tl ++ sp).drop (o + k * i.size + tl.length) = (x ++ tl).drop tl.length ++ sp := by
    rw [hsz, ← List.drop_drop, show o + k * 2 = (pre ++ mid).length by simp; omega, show pre ++ mid ++ x ++ tl ++ sp = (pre ++ mid) ++ (x ++ tl ++ sp) by simp, List.drop_left, List.drop_append_of_le_length (by simp)]
  rw [e3, e4] at hb1
  have H1 : Unit → Blk W1 g (pre ++ mid ++ tl ++ ((x ++ tl).drop tl.length ++ sp)).toArray 270 ∧ Keep (only g) w W1 := fun _ => ⟨hb1, ((Keep.refl nil w).drew.mono (fun _ _ e => e.elim)).trans' hk1 (fun _ _ e => e)⟩
  have hlx : ((x ++ tl).drop tl.length).length = 2 := by simp; omega
  have hone : n - (k + (n - j)) = 1 := by have := H (); omega
  have hzv : ∀ w, (zeroValue 270).run Tryz.prog w = .ok (.agg #[.int .i64 0, .nilIface]) w := fun w => zero_came w
  have hkn2 : k + (n - j) ≤ n := by have := H (); omega
  have hkc2 : k + (n - j) ≤ c := hrm
  have hpl : (pre ++ mid ++ tl).length = o + (k + (n - j)) * 2 := by simp; omega
  obtain ⟨W2, hrun, hb2, hk2⟩ := run_clear_at (P := Tryz.prog) W1 184 0 270 _ Tryz.underlying184 hzv g (o + (k + (n - j)) * 2) (n - (k + (n - j))) (c - (k + (n - j))) (by omega) (pre ++ mid ++ tl ++ ((x ++ tl).drop tl.length ++ sp)) hb1 [Value.int .i64 0, Value.nilIface] (by rw [hone]; first | kernel_rfl | decide | simp [Builtin.zeroCells, Value.cells, List.ofFn]) (by simp [Value.oneCell']) (by simp only [List.length_append] at hpl hlx ⊢; simp; omega)
  have e5 : (pre ++ mid ++ tl ++ ((x ++ tl).drop tl.length ++ sp)).take (o + (k + (n - j)) * 2) = pre ++ mid ++ tl := by rw [← hpl]; exact List.take_left
  have e6 : (pre ++ mid ++ tl ++ ((x ++ tl).drop tl.length ++ sp)).drop (o + (k + (n - j)) * 2 + [Value.int .i64 0, Value.nilIface].length) = sp := by
    rw [← List.drop_drop, ← hpl, List.drop_left, show [Value.int .i64 0, Value.nilIface].length = ((x ++ tl).drop tl.length).length by rw [hlx]; rfl, List.drop_left]
  rw [e5, e6] at hb2
  have HP : Unit → Blk W2 g (pre ++ mid ++ tl ++ [Value.int .i64 0, Value.nilIface] ++ sp).toArray 270 ∧ Keep (only g) w W2 ∧ n - 1 = k + (n - j) := fun _ => ⟨hb2, (H1 ()).2.trans' hk2 (fun _ _ e => e), by have := H (); omega⟩
  clear hb1 hk1 e3 e4 hbd hb hb2 hk2 e5 e6 hpl hlx hone hzv
  go_wp2
  go_ret
  exact ⟨by rw [(HP ()).2.2]; rfl, (HP ()).1, (HP ()).2.1⟩
end Go.Proofs.YtlfijfodklhplaaGreat
/- What a node's calls leave as it was: the mathematics. -/
namespace Go.Proofs.YtlfijfodklhplaaGreat
open Go.RowKit
set_option linter.unusedVariables false
set_option linter.unusedSimpArgs false

/-- From n to n': the edges stay in number and weight, best and level stay sound, nothing is put off, at most s messages more are sent. -/
structure NFr (n n' : Nod) (s : Nat) : Prop where
  len : n'.edges.length = n.edges.length
  rise : NRise n → NRise n'
  best : (∀ i, n.best = some i → i < n.edges.length) → ∀ i, n'.best = some i → i < n.edges.length
  level : n.level ≤ 10 → n'.level ≤ 10
  off : n'.off = n.off
  sent : n'.sent.length ≤ n.sent.length + s
theorem NFr.refl (n : Nod) : NFr n n 0 := ⟨rfl, id, id, id, rfl, by omega⟩
theorem NFr.trans {n n1 n2 : Nod} {s t : Nat} (h : NFr n n1 s) (k : NFr n1 n2 t) : NFr n n2 (s + t) :=
  ⟨k.len.trans h.len, fun e => k.rise (h.rise e), fun e i hi => by
    have := k.best (fun i hi => by rw [h.len]; exact h.best e i hi) i hi
    rw [h.len] at this; exact this, fun e => k.level (h.level e), k.off.trans h.off, by have := h.sent; have := k.sent; omega⟩
theorem NFr.mono {n n1 : Nod} {s t : Nat} (h : NFr n n1 s) (hst : s ≤ t) : NFr n n1 t := ⟨h.len, h.rise, h.best, h.level, h.off, by have := h.sent; omega⟩
/-- Cells that none of it hangs on. -/
theorem NFr.of {n n' : Nod} (he : n'.edges = n.edges) (hb : n'.best = n.best) (hl : n'.level ≤ n.level) (ho : n'.off = n.off) (hs : n'.sent = n.sent) : NFr n n' 0 :=
  ⟨by rw [he], fun h => h.of he, fun h i hi => h i (by rw [← hb]; exact hi), fun h => by omega, ho, by rw [hs]; omega⟩
theorem fr_setSt (n : Nod) (j s : Nat) : NFr n (n.setSt j s) 0 := ⟨setSt_len n j s, fun h => h.set j s, fun h i hi => h i hi, id, rfl, by simp [Nod.setSt]⟩
theorem fr_send (n : Nod) (j : Nat) (m : NMsg) : NFr n (n.send j m) 1 := ⟨rfl, fun h => h.of rfl, fun h i hi => h i hi, id, rfl, by simp [Nod.send]⟩
theorem fr_wake (n : Nod) : NFr n n.wake 1 := by
  unfold Nod.wake
  split
  · have h0 : NFr n { n with level := 0, state := 2, count := 0 } 0 := NFr.of rfl rfl (Nat.zero_le _) rfl rfl
    split
    · have h1 : NFr n { n with level := 0, state := 2, count := 0, over := true } 0 := NFr.of rfl rfl (Nat.zero_le _) rfl rfl
      exact h1.mono (by omega)
    · rename_i j hj
      exact ((h0.trans (fr_setSt _ j 1)).trans (fr_send _ j (.connect 0))).mono (by omega)
  · exact (NFr.refl n).mono (by omega)
theorem fr_spread (n : Nod) (j l nm : Nat) (f : Bool) : NFr n (n.spread j l nm f) 1 := by
  unfold Nod.spread
  split
  · have h1 : NFr (n.send j (.initiate l nm f)) { n.send j (.initiate l nm f) with count := wrap64 (n.count + 1) } 0 := NFr.of rfl rfl (Nat.le_refl _) rfl rfl
    exact (fr_send n j (.initiate l nm f)).trans h1
  · exact fr_send n j _
theorem fr_reports (n : Nod) : NFr n n.reports 1 := by
  unfold Nod.reports
  split
  · have h0 : NFr n { n with state := 2 } 0 := NFr.of rfl rfl (Nat.le_refl _) rfl rfl
    split
    · exact h0.mono (by omega)
    · exact (h0.trans (fr_send _ _ _)).mono (by omega)
  · exact (NFr.refl n).mono (by omega)
theorem fr_tests (n : Nod) : NFr n n.tests 1 := by
  unfold Nod.tests
  split
  · have h1 : NFr n { n with tested := none } 0 := NFr.of rfl rfl (Nat.le_refl _) rfl rfl
    exact (h1.trans (fr_reports _)).mono (by omega)
  · rename_i j hj
    have h1 : NFr n { n with tested := some j } 0 := NFr.of rfl rfl (Nat.le_refl _) rfl rfl
    exact (h1.trans (fr_send _ _ _)).mono (by omega)
theorem fr_spreads (fr l nm : Nat) (f : Bool) (k : Nat) : ∀ (n : Nod) (j : Nat), NFr n (n.spreads fr l nm f k j) k := by
  induction k with
  | zero => intro n j; exact NFr.refl n
  | succ k ih =>
    intro n j
    rw [Nod.spreads]
    split
    · exact ((fr_spread n j l nm f).trans (ih _ _)).mono (by omega)
    · exact (ih n _).mono (by omega)
theorem initiate_eq (n : Nod) (fr l nm : Nat) (f : Bool) : n.initiate fr l nm f = (if f then ((n.ini fr l nm f).spreads fr l nm f n.edges.length 0).tests else (n.ini fr l nm f).spreads fr l nm f n.edges.length 0) := rfl
theorem fr_initiate (n : Nod) (fr l nm : Nat) (f : Bool) (hl : l ≤ 10) : NFr n (n.initiate fr l nm f) (n.edges.length + 1) := by
  have h0 : NFr n (n.ini fr l nm f) 0 := ⟨rfl, fun h => h.of rfl, (fun h i hi => by cases hi), fun _ => hl, rfl, Nat.le_refl _⟩
  have h1 : NFr n ((n.ini fr l nm f).spreads fr l nm f n.edges.length 0) (0 + n.edges.length) := h0.trans (fr_spreads fr l nm f n.edges.length (n.ini fr l nm f) 0)
  rw [initiate_eq]
  split
  · exact (h1.trans (fr_tests _)).mono (by omega)
  · exact h1.mono (by omega)
theorem fr_reject (n : Nod) (j : Nat) : NFr n (n.reject j) 0 := by
  unfold Nod.reject
  split
  · exact fr_setSt _ _ _
  · exact NFr.refl n
theorem fr_hear (n : Nod) (j x : Nat) (hj : j < n.edges.length) : NFr n (n.hear j x) 0 := by
  unfold Nod.hear
  split
  · exact ⟨rfl, fun h => h.of rfl, (fun h i hi => by cases hi; exact hj), id, rfl, Nat.le_refl _⟩
  · exact NFr.refl n
theorem fr_changeRoot (n : Nod) : NFr n n.changeRoot 1 := by
  unfold Nod.changeRoot
  split
  · exact (NFr.refl n).mono (by omega)
  · split
    · exact fr_send _ _ _
    · exact ((fr_send n _ _).trans (fr_setSt _ _ _)).mono (by omega)
theorem fr_connect (n : Nod) (j l : Nat) : NFr n (n.connect j l).1 2 := by
  unfold Nod.connect
  have h0 := fr_wake n
  simp only
  split
  · exact ((h0.trans (fr_setSt _ j 1)).trans (fr_spread _ _ _ _ _)).mono (by omega)
  · split
    · exact h0.mono (by omega)
    · exact (h0.trans (fr_send _ _ _)).mono (by omega)
theorem fr_test (n : Nod) (j l nm : Nat) : NFr n (n.test j l nm).1 2 := by
  unfold Nod.test
  have h0 := fr_wake n
  simp only
  split
  · exact h0.mono (by omega)
  · split
    · exact (h0.trans (fr_send _ _ _)).mono (by omega)
    · have h1 := h0.trans (fr_reject n.wake j)
      split
      · exact (h1.trans (fr_tests _)).mono (by omega)
      · exact (h1.trans (fr_send _ _ _)).mono (by omega)
theorem fr_accept (n : Nod) (j : Nat) (hj : j < n.edges.length) : NFr n (n.accept j) 1 := by
  unfold Nod.accept
  have h1 : NFr n { n with tested := none } 0 := NFr.of rfl rfl (Nat.le_refl _) rfl rfl
  have h2 := fr_hear { n with tested := none } j (n.wt j) hj
  exact ((h1.trans h2).trans (fr_reports _)).mono (by omega)
theorem fr_report (n : Nod) (j x : Nat) (hj : j < n.edges.length) : NFr n (n.report j x).1 1 := by
  unfold Nod.report
  split
  · split
    · exact (NFr.refl n).mono (by omega)
    · split
      · exact fr_changeRoot n
      · split
        · have h1 : NFr n { n with over := true } 0 := NFr.of rfl rfl (Nat.le_refl _) rfl rfl
          exact h1.mono (by omega)
        · exact (NFr.refl n).mono (by omega)
  · have h1 : NFr n { n with count := wrap64 (n.count - 1) } 0 := NFr.of rfl rfl (Nat.le_refl _) rfl rfl
    have h2 := fr_hear { n with count := wrap64 (n.count - 1) } j x hj
    exact ((h1.trans h2).trans (fr_reports _)).mono (by omega)
/-- A message that may be: its level is no higher than 10. -/
def NMsg.may : NMsg → Prop
  | .initiate l _ _ => l ≤ 10
  | _ => True
theorem fr_act (n : Nod) (j : Nat) (m : NMsg) (hj : j < n.edges.length) (hm : m.may) : NFr n (n.act j m).1 (n.edges.length + 2) := by
  cases m with
  | connect l => exact (fr_connect n j l).mono (by omega)
  | initiate l nm f => exact (fr_initiate n j l nm f hm).mono (by omega)
  | test l nm => exact (fr_test n j l nm).mono (by omega)
  | accept => exact (fr_accept n j hj).mono (by omega)
  | reject => exact ((fr_reject n j).trans (fr_tests _)).mono (by omega)
  | report x => exact (fr_report n j x hj).mono (by omega)
  | root => exact (fr_changeRoot n).mono (by omega)
/-- A node that is sound. -/
structure NGood (n : Nod) : Prop where
  rise : NRise n
  best : ∀ i, n.best = some i → i < n.edges.length
  level : n.level ≤ 10
  off : ∀ c ∈ n.off, c.1 < n.edges.length ∧ c.2.may
theorem NGood.fr {n n' : Nod} {s : Nat} (h : NGood n) (k : NFr n n' s) : NGood n' :=
  ⟨k.rise h.rise, fun i hi => by rw [k.len]; exact k.best h.best i hi, k.level h.level, fun c hc => by rw [k.off] at hc; rw [k.len]; exact h.off c hc⟩
theorem NGood.ok {n : Nod} (h : NGood n) (hs : (n.sent.length : Int) < 990000000000) : NOk n := ⟨h.rise, h.best, by have := h.level; omega, hs⟩
theorem NGood.erase {n : Nod} (h : NGood n) (k : Nat) : NGood { n with off := n.off.eraseIdx k } :=
  ⟨h.rise.of rfl, h.best, h.level, fun c hc => h.off c (List.mem_of_mem_eraseIdx hc)⟩
theorem NGood.put {n : Nod} (h : NGood n) (j : Nat) (m : NMsg) (hj : j < n.edges.length) (hm : m.may) : NGood { n with off := n.off ++ [(j, m)] } :=
  ⟨h.rise.of rfl, h.best, h.level, fun c hc => by
    rcases List.mem_append.1 hc with hc | hc
    · exact h.off c hc
    · rw [List.mem_singleton.1 hc]; exact ⟨hj, hm⟩⟩
theorem NGood.new (ws : List Nat) (hr : ∀ (i k : Nat) (e f : Nat), i < k → ws[i]? = some e → ws[k]? = some f → e ≤ f) (hf : (ws.length : Int) < 1000) : NGood (Nod.new ws) := by
  refine ⟨⟨fun i k e f hik he hf => ?_, by simpa [Nod.new] using hf⟩, (fun i hi => by cases hi), Nat.zero_le _, (fun c hc => by cases hc)⟩
  simp only [Nod.new, List.getElem?_map, Option.map_eq_some_iff] at he hf
  obtain ⟨e', he', rfl⟩ := he
  obtain ⟨f', hf', rfl⟩ := hf
  exact hr i k e' f' hik he' hf'
end Go.Proofs.YtlfijfodklhplaaGreat
