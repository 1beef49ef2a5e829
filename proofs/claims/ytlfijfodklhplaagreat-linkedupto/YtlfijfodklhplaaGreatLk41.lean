import Derived.Test.YtlfijfodklhplaaGreatLk09
import Derived.Test.YtlfijfodklhplaaGreatLk16
import Derived.Test.YtlfijfodklhplaaGreatLk32
import Derived.Laws.IdiomStrings
/- What stands in a list of lists: walk of pile. -/
namespace Go.Proofs.YtlfijfodklhplaaGreat
open Go.RowKit
set_option linter.unusedVariables false
set_option linter.unusedSimpArgs false

/-- One digit, as a string. -/
def dgt (j : Nat) : ByteArray := (⟨#[48, 49, 50, 51, 52, 53, 54, 55, 56, 57]⟩ : ByteArray).extract (j % 10) (j % 10 + 1)
theorem dgt_size (j : Nat) : (dgt j).size ≤ 1 := by
  unfold dgt
  rw [ByteArray.size_extract]
  omega
def pilF : Nat → ByteArray → Nat → ByteArray
  | 0, s, _ => s
  | n + 1, s, j => if j / 10 = 0 then s ++ dgt j else pilF n (s ++ dgt j) (j / 10)
theorem pilF_fuel : ∀ (n m : Nat) (s : ByteArray) (j : Nat), j < n → j < m → pilF n s j = pilF m s j
  | 0, _, _, _, h, _ => by omega
  | _ + 1, 0, _, _, _, h => by omega
  | n + 1, m + 1, s, j, h1, h2 => by
    simp only [pilF]
    split
    · rfl
    · exact pilF_fuel n m _ _ (by omega) (by omega)
/-- What pile gives. -/
def pil (s : ByteArray) (j : Nat) : ByteArray := pilF (j + 1) s j
theorem pil_last {s : ByteArray} {j : Nat} (h : j / 10 = 0) : pil s j = s ++ dgt j := by unfold pil pilF; rw [if_pos h]
theorem pil_more {s : ByteArray} {j : Nat} (h : ¬ j / 10 = 0) : pil s j = pil (s ++ dgt j) (j / 10) := by
  unfold pil
  rw [pilF, if_neg h]
  exact pilF_fuel _ _ _ _ (by omega) (by omega)

set_option maxRecDepth 100000 in
set_option maxHeartbeats 1000000 in
theorem pile_any (i : Nat) (w : World) (hi : (i : Int) < 1099511627776) :
    Calls Tryz.prog 100 #[.int .i64 (i : Int)] w fun r w' => r = .returned (.string (pil ⟨#[80]⟩ i)) ∧ w' = w := by
  have HI : Unit → (i : Int) < 1099511627776 := fun _ => hi
  clear hi
  go_enter Tryz.func100, Tryz.ntmps100
  go_wp2_with fail
  go_loop [0, 3] (fun v s => ∃ (j : Nat) (b : ByteArray), j ≤ i ∧ v = .int .i64 (j : Int) ∧ s = .string b ∧ pil b j = pil ⟨#[80]⟩ i ∧ b.size + j ≤ i + 1) (fun v _ => (intOf v).toNat)
  case atStart => exact ⟨i, ⟨#[80]⟩, Nat.le_refl _, rfl, rfl, rfl, by simp [ByteArray.size]; omega⟩
  case round =>
    obtain ⟨j, b, hj, rfl, rfl, hp, hs⟩ := hrel
    have hj0 : (0 : Int) ≤ (j : Int) := by omega
    have HJ : Unit → (j : Int) < 1099511627776 ∧ j ≤ i ∧ pil b j = pil ⟨#[80]⟩ i ∧ b.size + j ≤ i + 1 := fun _ => ⟨by have := HI (); omega, hj, hp, hs⟩
    have HW : Unit → wrap64 ((j : Int) / 10) = ((j / 10 : Nat) : Int) := fun _ => by have := HJ (); unfold wrap64; omega
    clear hj hp hs
    go_wp2_with fail
    all_goals try (exfalso; rename_i hh; have h1 := HJ (); have h2 := HI (); omega)
    · have hh : (wrap64 ((j : Int) / 10) == 0) = true := by assumption
      rw [HW ()] at hh
      have h0 : j / 10 = 0 := by simp at hh; omega
      go_ret
      refine ⟨?_, rfl⟩
      rw [← (HJ ()).2.2.1, pil_last h0]
      rfl
    · have hh : (wrap64 ((j : Int) / 10) == 0) = false := by assumption
      rw [HW ()] at hh
      have h0 : ¬ j / 10 = 0 := by simp at hh; omega
      refine ⟨⟨j / 10, b ++ dgt j, by have := HJ (); omega, by rw [HW ()], rfl, ?_, ?_⟩, ?_⟩
      · rw [← pil_more h0]; exact (HJ ()).2.2.1
      · rw [ByteArray.size_append]
        have h1 := dgt_size j
        have h2 := HJ ()
        omega
      · rw [HW ()]
        simp [intOf]
        omega
end Go.Proofs.YtlfijfodklhplaaGreat
/- A string as bytes of its own, and back. -/
namespace Go.Proofs.YtlfijfodklhplaaGreat
open Go.RowKit
set_option linter.unusedVariables false
set_option linter.unusedSimpArgs false

/-- The bytes of a string, as numbers. -/
def bl (s : ByteArray) : List Nat := s.data.toList.map (·.toNat)
theorem bl_len (s : ByteArray) : (bl s).length = s.size := by unfold bl; rw [List.length_map, Array.length_toList]; rfl
theorem bl_byte (s : ByteArray) : ∀ x ∈ bl s, x < 256 := by
  intro x hx
  obtain ⟨u, _, rfl⟩ := List.mem_map.1 hx
  exact u.toNat_lt
theorem bstr_bl (s : ByteArray) : bstr (bl s) = s := by
  have h := bstr_fold (bl s) ByteArray.empty
  have e1 : (bl s).map UInt8.ofNat = s.data.toList := by
    unfold bl
    rw [List.map_map]
    conv => rhs; rw [← List.map_id s.data.toList]
    apply List.map_congr_left
    intro u _
    simp
  rw [e1] at h
  have h2 : (bstr (bl s)).data.toList = s.data.toList := by unfold bstr; rw [h]; rfl
  cases hb : bstr (bl s) with
  | mk d =>
    rw [hb] at h2
    cases s with
    | mk d2 =>
      simp only at h2
      congr 1
      exact Array.ext' h2
theorem bytes_conv (w : World) (s : ByteArray) : ∃ c w1, (convert 9 56 (.string s)).run Tryz.prog w = .ok (.slice (some ⟨w.heap.size, 0, none⟩) (bl s).length c) w1 ∧ Row w1 w.heap.size 0 (bl s) ∧ Keep nil w w1 ∧ w1.heap.size = w.heap.size + 1 ∧ (bl s).length ≤ c := by
  have h := run_bytes_of_string (P := Tryz.prog) w 9 56 5 s Tryz.underlying9 Tryz.underlying56 Tryz.underlying5
  refine ⟨_, _, by rw [h, bl_len], fun i hi => ?_, ((Keep.refl nil w).drew).alloc _, by simp, by rw [bl_len]; exact grownCap_ge w s.size 0 _⟩
  rw [Nat.zero_add]
  have hc := World.cell?_alloc_mark w.drew (bytesRow s (grownCap w s.size 0 5)) 5 ((bytesRow s (grownCap w s.size 0 5)).size, (bytesRow s (grownCap w s.size 0 5)).size + 1) i
  refine hc.trans ?_
  have hi' : i < s.data.size := by rw [bl_len] at hi; exact hi
  unfold bytesRow
  rw [Array.getElem?_append_left (by rw [Array.size_map]; exact hi'), Array.getElem?_map, Array.getElem?_eq_getElem hi']
  simp [bl]
end Go.Proofs.YtlfijfodklhplaaGreat
/- append onto nil or a row of one's own, told whole: in its place, or in a new block. -/
namespace Go.Proofs.YtlfijfodklhplaaGreat
open Go.RowKit
set_option linter.unusedVariables false
set_option linter.unusedSimpArgs false

/-- append of cells that lie somewhere, onto nil or a row of one's own. -/
theorem run_append_rvS {P : Program} (w : World) (t ty e : TypeId) (z : Value) (size bytes : Nat) (ht : P.underlying t = some (.slice e)) (hinfo : (P.info? e).map (fun i => (i.zero, i.size, i.bytes)) = some (some z, size, bytes)) (hzs : z.cells.size = size)
    (a : Option Addr) (n c : Nat) (vs : List Value) (hb : RV w e size a n c vs) (ad : Addr) (m c' : Nat) (h0 : 0 < m) (news : List Value) (hm : news.length = m * size)
    (hc : ∀ j u, news[j]? = some u → w.cell? (ad.add j) = some u) (h1 : ∀ u ∈ news, u.oneCell' = true) (hbytes : (n + m) * bytes ≤ 140737488355328) (h63 : n + m ≤ 9223372036854775807) :
    ∃ a' k' w', (Builtin.append_ #[t, t] ty #[.slice a n c, .slice (some ad) m c']).run P w = .ok (.slice a' (n + m) k') w' ∧ RV w' e size a' (n + m) k' (vs ++ news) ∧ ((a' = a ∧ k' = c) ∨ (a' = some ⟨w.heap.size, 0, none⟩ ∧ Keep nil w w')) ∧ Keep (inB a) w w' := by
  obtain ⟨hn, hnc, hb⟩ := hb
  have hlen : (vs ++ news).length = (n + m) * size := by rw [List.length_append, hn, hm, Nat.add_mul]
  rcases hb with ⟨rfl, rfl, rfl⟩ | ⟨g, o, rfl, hb⟩
  · have hv : vs = [] := List.eq_nil_of_length_eq_zero (by simpa using hn)
    subst hv
    rw [Nat.zero_add] at hbytes h63 ⊢
    obtain ⟨k', w', hr, h2, h3, h4⟩ := run_append_new (P := P) w t ty e z size bytes ht hinfo hzs ad m c' h0 news hm hc hbytes h63
    obtain ⟨sp, hbl, hsp⟩ := h2
    refine ⟨_, k', w', hr, ⟨by simpa using hm, h3, Or.inr ⟨w.heap.size, 0, rfl, [], sp, by simpa using hbl, rfl, by simp at hsp ⊢; omega⟩⟩, Or.inr ⟨rfl, h4⟩, h4.mono (fun _ _ e => e.elim)⟩
  · obtain ⟨i, hi, hz, hs, hby⟩ := info_parts hinfo
    have hb0 := hb
    obtain ⟨pre, sp, hbl, rfl, hl⟩ := hb
    by_cases hroom : n + m ≤ c
    · have hsp : m * size ≤ sp.length := by
        have : (n + m) * size ≤ c * size := Nat.mul_le_mul_right _ hroom
        rw [Nat.add_mul] at this; omega
      have hr := run_append_room_at (P := P) w t ty e i ht hi g pre.length n c (pre ++ vs ++ sp).toArray hbl ad m c' news (by rw [hm, hs]) hc h1 hroom (by simp [hs, hm, hn]; omega)
      refine ⟨_, c, _, hr, ⟨hlen, hroom, Or.inr ⟨g, pre.length, rfl, pre, sp.drop (m * size), ?_, rfl, by simp [hm, hn]; omega⟩⟩, Or.inl ⟨rfl, rfl⟩, ?_⟩
      · unfold Blk at hbl ⊢
        rw [setRow_heap w g _ _ _ _ hbl]
        have e1 : (pre ++ vs ++ sp).take (pre.length + n * i.size) = pre ++ vs := by rw [hs, ← hn, ← List.length_append]; exact List.take_left
        have e2 : (pre ++ vs ++ sp).drop (pre.length + n * i.size + news.length) = sp.drop (m * size) := by rw [hs, ← hn, hm, ← List.length_append, List.drop_append, List.drop_of_length_le (by omega)]; simp
        rw [e1, e2]; simp
      · exact ⟨rfl, rfl, rfl, by simp [World.setRow], fun k hk hn => setRow_other w g k _ (fun e => hn (inB_some.2 e))⟩
    · have hg : c < n + m := by omega
      have hr := run_append_grow (P := P) w t ty e i z ht hi hz ⟨g, pre.length, none⟩ n c vs (by rw [hn, hs]) (fun j v hv => by
        rw [Addr.add_lit]; exact hb0.cell j v hv) ad m c' news (by rw [hm, hs]) hc hg (by omega) (by rw [hby]; exact growslice_fits hg hbytes)
      have hge := grownCap_ge w (n + m) c e
      refine ⟨_, _, _, hr, ⟨hlen, hge, Or.inr ⟨w.heap.size, 0, rfl, [], (Builtin.zeroCells z.cells (grownCap w (n + m) c e - (n + m))).toList, ?_, rfl, ?_⟩⟩, Or.inr ⟨rfl, ((Keep.refl _ w).drew).alloc _⟩, ((Keep.refl _ w).drew).alloc _⟩
      · have := Blk.new w.drew (vs.toArray ++ news.toArray ++ Builtin.zeroCells z.cells (grownCap w (n + m) c e - (n + m))) e
        have e3 : vs.toArray ++ news.toArray ++ Builtin.zeroCells z.cells (grownCap w (n + m) c e - (n + m)) = ([] ++ (vs ++ news) ++ (Builtin.zeroCells z.cells (grownCap w (n + m) c e - (n + m))).toList).toArray := by
          apply Array.ext'; simp
        rw [e3] at this ⊢
        exact this
      · rw [zero_len, hzs, List.length_append, hn, hm, ← Nat.add_mul, ← Nat.add_mul]
        exact Nat.mul_le_mul_right _ (by omega)

theorem wpList_append_rvS {P : Program} (w : World) {ops : Array Oper} {rest : List Oper} {o : Oper} {a : Act} {Q : Exit → Act → World → Prop}
    (hg : o.guard = none) (s x : Operand) (t : TypeId) (hop : o.op = Op.call { callee := Callee.builtin Builtin.append, args := #[s, x], argTypes := #[t, t] })
    (e : TypeId) (z : Value) (size bytes : Nat) (ht : P.underlying t = some (.slice e)) (hinfo : (P.info? e).map (fun i => (i.zero, i.size, i.bytes)) = some (some z, size, bytes)) (hzs : z.cells.size = size)
    (sa : Option Addr) (n c : Nat) (hs : a.eval s = .slice sa n c) (vs : List Value) (hb : RV w e size sa n c vs) (ad : Addr) (m c' : Nat) (h0 : 0 < m) (hx : a.eval x = .slice (some ad) m c') (news : List Value) (hm : news.length = m * size)
    (hc : ∀ j u, news[j]? = some u → w.cell? (ad.add j) = some u) (h1 : ∀ u ∈ news, u.oneCell' = true) (hbytes : (n + m) * bytes ≤ 140737488355328) (h63 : n + m ≤ 9223372036854775807)
    (hK : ∀ a' k' w', RV w' e size a' (n + m) k' (vs ++ news) → ((a' = sa ∧ k' = c) ∨ (a' = some ⟨w.heap.size, 0, none⟩ ∧ Keep nil w w')) → Keep (inB sa) w w' → wpList P ops Q rest (a.put o.dst (.slice a' (n + m) k')) w') :
    wpList P ops Q (o :: rest) a w := by
  refine wpList_plain hg fun K hK' => ?_
  obtain ⟨a', k', w', hrun, r1, r2, r3⟩ := run_append_rvS (P := P) w t o.type e z size bytes ht hinfo hzs sa n c vs hb ad m c' h0 news hm hc h1 hbytes h63
  unfold Oper.wp
  simp [execOp, hop, resolve, invoke, builtin, hs, hx, hrun, Result.andThen]
  exact hK' _ _ (hK a' k' w' r1 r2 r3)

theorem step_append_rvS {P : Program} {ops : Array Oper} {o : Oper} {a : Act} {w : World} {K : Act → World → Prop} {Q : Exit → Act → World → Prop} {E : Prop}
    (hg : o.guard = none) (s x : Operand) (t : TypeId) (hop : o.op = Op.call { callee := Callee.builtin Builtin.append, args := #[s, x], argTypes := #[t, t] })
    (e : TypeId) (z : Value) (size bytes : Nat) (ht : P.underlying t = some (.slice e)) (hinfo : (P.info? e).map (fun i => (i.zero, i.size, i.bytes)) = some (some z, size, bytes)) (hzs : z.cells.size = size)
    (sa : Option Addr) (n c : Nat) (hs : a.eval s = .slice sa n c) (vs : List Value) (hb : RV w e size sa n c vs) (ad : Addr) (m c' : Nat) (h0 : 0 < m) (hx : a.eval x = .slice (some ad) m c') (news : List Value) (hm : news.length = m * size)
    (hc : ∀ j u, news[j]? = some u → w.cell? (ad.add j) = some u) (h1 : ∀ u ∈ news, u.oneCell' = true) (hbytes : (n + m) * bytes ≤ 140737488355328) (h63 : n + m ≤ 9223372036854775807)
    (hK : ∀ a' k' w', RV w' e size a' (n + m) k' (vs ++ news) → ((a' = sa ∧ k' = c) ∨ (a' = some ⟨w.heap.size, 0, none⟩ ∧ Keep nil w w')) → Keep (inB sa) w w' → K (a.put o.dst (.slice a' (n + m) k')) w') :
    if Region.wanted o (yielded ops a.tmps) = true then Oper.wp P o a w K Q else E := by
  have hw : Region.wanted o (yielded ops a.tmps) = true := by simp [Region.wanted, hg]
  rw [if_pos hw]
  obtain ⟨a', k', w', hrun, r1, r2, r3⟩ := run_append_rvS (P := P) w t o.type e z size bytes ht hinfo hzs sa n c vs hb ad m c' h0 news hm hc h1 hbytes h63
  unfold Oper.wp
  simp [execOp, hop, resolve, invoke, builtin, hs, hx, hrun, Result.andThen]
  exact hK a' k' w' r1 r2 r3


/-- The row itself stands, whatever was put behind it. -/
theorem rv_after {w w' : World} {e : TypeId} {size : Nat} {a a' : Option Addr} {n c m k' : Nat} {vs news : List Value} (h : RV w e size a n c vs) (h' : RV w' e size a' (n + m) k' (vs ++ news)) (hd : (a' = a ∧ k' = c) ∨ (a' = some ⟨w.heap.size, 0, none⟩ ∧ Keep nil w w')) : RV w' e size a n c vs := by
  rcases hd with ⟨rfl, rfl⟩ | ⟨_, k⟩
  · obtain ⟨h1, h2, h3⟩ := h
    obtain ⟨g1, g2, g3⟩ := h'
    refine ⟨h1, h2, ?_⟩
    rcases g3 with ⟨e1, e2, e3⟩ | ⟨g, o, rfl, pre, sp, hb, hp, hc⟩
    · exact Or.inl ⟨e1, by omega, e3⟩
    · exact Or.inr ⟨g, o, rfl, pre, news ++ sp, by simpa [List.append_assoc] using hb, hp, by simp at hc ⊢; omega⟩
  · exact h.keep k (fun _ _ x => x)
end Go.Proofs.YtlfijfodklhplaaGreat
