import Derived.Test.YtlfijfodklhplaaGreatAk36
/- looks: do two nodes look the same? -/
namespace Go.Proofs.YtlfijfodklhplaaGreat
open Go.RowKit
set_option linter.unusedVariables false
set_option linter.unusedSimpArgs false

set_option maxRecDepth 100000 in
set_option maxHeartbeats 2000000 in
theorem looks_yes (n : Nod) (a b : Option Addr) (ca cb : Nat) (w : World) (ha : RV w 3 1 a n.edges.length ca (icells (n.edges.map (·.2)))) (hb : RV w 3 1 b n.edges.length cb (icells (n.edges.map (·.2)))) (hl : (n.edges.length : Int) < 1000000) :
    Calls Tryz.prog 25 #[lookv n a ca, lookv n b cb] w fun r w' => r = .returned (.bool true) ∧ Keep nil w w' := by
  have H : Unit → RV w 3 1 a n.edges.length ca (icells (n.edges.map (·.2))) ∧ RV w 3 1 b n.edges.length cb (icells (n.edges.map (·.2))) := fun _ => ⟨ha, hb⟩
  obtain ⟨ln, hln⟩ : ∃ ln, ln = n.edges.length := ⟨_, rfl⟩
  have HLN : Unit → ln = n.edges.length := fun _ => hln
  unfold lookv
  rw [← hln] at hl ⊢
  generalize n.state = st
  generalize n.level = lv
  generalize n.name = nm
  generalize n.over = ov
  generalize n.off.length = ofl
  clear ha hb hln
  go_enter Tryz.func25, Tryz.ntmps25
  go_wp2_with fail
  obtain ⟨W0, hW0⟩ : ∃ W0, W0 = (w.alloc (Obj.cells #[.int .i64 (st : Int), .int .i64 (lv : Int), .int .i64 (nm : Int), .bool ov, .int .i64 (ofl : Int), .slice a ln ca] 50)).alloc (Obj.cells #[.int .i64 (st : Int), .int .i64 (lv : Int), .int .i64 (nm : Int), .bool ov, .int .i64 (ofl : Int), .slice b ln cb] 50) := ⟨_, rfl⟩
  obtain ⟨xa, hxa⟩ : ∃ xa, xa = w.heap.size := ⟨_, rfl⟩
  obtain ⟨xb, hxb⟩ : ∃ xb, xb = w.heap.size + 1 := ⟨_, rfl⟩
  have HW0 : Unit → Keep nil w W0 ∧ W0.cell? ⟨xa, 5, none⟩ = some (.slice a ln ca) ∧ W0.cell? ⟨xb, 5, none⟩ = some (.slice b ln cb) ∧ xa < W0.heap.size ∧ xb < W0.heap.size := fun _ => by
    rw [hW0, hxa, hxb]
    exact ⟨((Keep.refl nil w).alloc _).alloc _, by simp, by simp, by simp; omega, by simp⟩
  rw [← hW0, ← hxb, ← hxa]
  clear hW0 hxa hxb
  go_loopw [5] (fun v wr => ∃ i : Nat, i ≤ ln ∧ v = .int .i64 (i : Int) ∧ Keep nil W0 wr) (fun v _ => ln - (intOf v).toNat)
  case atStart => exact ⟨0, by omega, rfl, by repeat (first | exact Keep.refl _ _ | apply Keep.drew | apply Keep.drewN)⟩
  case round =>
    obtain ⟨i, hi, rfl, hkw⟩ := hrel
    have HQ : Unit → Keep nil W0 wr ∧ i ≤ ln := fun _ => ⟨hkw, hi⟩
    obtain ⟨k0, ca5, cb5, la, lb⟩ := HW0 ()
    have ca5' := (hkw.cell xa 5 la id).trans ca5
    have cb5' := (hkw.cell xb 5 lb id).trans cb5
    have la' : xa < wr.heap.size := Nat.lt_of_lt_of_le la hkw.size
    have lb' : xb < wr.heap.size := Nat.lt_of_lt_of_le lb hkw.size
    have k1 := k0.trans hkw
    clear ca5 cb5 la lb k0
    by_cases hil : i < ln
    · have HIL : Unit → i < ln := fun _ => hil
      have hiI : (i : Int) < (ln : Int) := by omega
      have hi9 : (i : Int) < 1000000 := by omega
      have hie : i < n.edges.length := by rw [← HLN ()]; exact hil
      obtain ⟨e, he⟩ : ∃ e, (n.edges.map (·.2))[i]? = some e := ⟨_, List.getElem?_eq_getElem (by simpa using hie)⟩
      obtain ⟨g, q, hga, hv⟩ := rv_pos ((H ()).1.keep k1 (fun _ _ e => e)) (by omega)
      obtain ⟨g', q', hga', hv'⟩ := rv_pos ((H ()).2.keep k1 (fun _ _ e => e)) (by omega)
      have e0 := hv.cell i _ (icells_get _ i e he)
      have d0 := hv'.cell i _ (icells_get _ i e he)
      have hgl := hv.lt
      have hgl' := hv'.lt
      rw [hga] at ca5'
      rw [hga'] at cb5'
      clear hi hil hkw he hga hga' hv hv' k1 hie
      go_wp2_with fail
      go_quiet (fail)
      have HK : Unit → Keep nil W0 (wr.drewN nq) := fun _ => (HQ ()).1.drewN nq
      clear e0 d0 hgl hgl'
      go_wp2
      exact ⟨⟨i + 1, by have := HIL (); omega, by go_num, HK ()⟩, by have := HIL (); simp [intOf]; omega⟩
    · have hiI : ¬ ((i : Int) < (ln : Int)) := by omega
      clear hi hil hkw k1
      go_wp2
      go_ret
      exact ⟨rfl, (HW0 ()).1.trans (HQ ()).1⟩
end Go.Proofs.YtlfijfodklhplaaGreat
/- pick, as a function. -/
namespace Go.Proofs.YtlfijfodklhplaaGreat
open Go.RowKit
set_option linter.unusedVariables false
set_option linter.unusedSimpArgs false

def pk (c n : Int) : Nat := ((if c < 0 then -(c + 1) else c) % n).toNat
theorem pk_lt (c n : Int) (h : 0 < n) : (pk c n : Int) < n := by
  unfold pk
  have z0 := Int.emod_nonneg (if c < 0 then -(c + 1) else c) (show n ≠ 0 by omega)
  have z1 := Int.emod_lt_of_pos (if c < 0 then -(c + 1) else c) h
  omega
theorem pk_eq (c n : Int) (h : 0 < n) : (pk c n : Int) = (if c < 0 then -(c + 1) else c) % n := by
  unfold pk
  have z0 := Int.emod_nonneg (if c < 0 then -(c + 1) else c) (show n ≠ 0 by omega)
  omega
set_option maxHeartbeats 400000 in
theorem pick_fun (c n : Int) (h0 : -9223372036854775808 ≤ c) (h1 : c ≤ 9223372036854775807) (h2 : 0 < n) (h3 : n < 4611686018427387904) (w : World) :
    Calls Tryz.prog 12 #[.int .i64 c, .int .i64 n] w fun e w' => e = .returned (.int .i64 (pk c n : Int)) ∧ w = w' := by
  by_cases hc : c < 0
  · go_enter Tryz.func12, Tryz.ntmps12
    go_wp2
    go_ret
    have e : (-(c + 1)).tmod n = (-(c + 1)) % n := Int.tmod_eq_emod_of_nonneg (by omega)
    have z0 := Int.emod_nonneg (-(c + 1)) (show n ≠ 0 by omega)
    have z1 := Int.emod_lt_of_pos (-(c + 1)) h2
    have hp := pk_eq c n h2
    rw [if_pos hc] at hp
    refine ⟨ret_int ?_, rfl⟩
    rw [hp, ← Int.neg_tmod, e]
  · go_enter Tryz.func12, Tryz.ntmps12
    go_wp2
    go_ret
    have z0 := Int.emod_nonneg c (show n ≠ 0 by omega)
    have z1 := Int.emod_lt_of_pos c h2
    have hp := pk_eq c n h2
    rw [if_neg (by omega)] at hp
    exact ⟨ret_int (by rw [hp]), rfl⟩
end Go.Proofs.YtlfijfodklhplaaGreat
/- does: one step on a net. -/
namespace Go.Proofs.YtlfijfodklhplaaGreat
open Go.RowKit
set_option linter.unusedVariables false
set_option linter.unusedSimpArgs false

/-- A step as data, and what it does. -/
structure Stp where
  kind : Int
  a : Int
  b : Int
noncomputable def AN.doesK (A : AN) (k kd nn : Nat) (sa sb : Int) : AN :=
  match kd with
  | 0 => A.wake (pk sa (nn : Int))
  | 1 => A.tick (pk sa (nn : Int))
  | 2 => if k < A.bag.length then A.lose k else A
  | 3 => A.again k
  | 4 => A.spoil k (pk sb 10) (1 + pk (IntKind.i64.wrap (sb.tdiv 10)) 255)
  | 5 => A.deliver 0
  | 6 => A.deliver 0
  | 7 => A.deliver 0
  | _ => A.deliver k
noncomputable def AN.does (A : AN) (s : Stp) : AN := A.doesK (pk s.a ((A.bag.length : Int) + 1)) (pk s.kind 12) A.sps.length s.a s.b
theorem doesK_ge (A : AN) (k kd nn : Nat) (sa sb : Int) (h : (8 : Int) ≤ (kd : Int)) : A.doesK k kd nn sa sb = A.deliver k := by
  obtain ⟨m, rfl⟩ : ∃ m, kd = m + 8 := ⟨kd - 8, by omega⟩
  rfl
def Stp.ok (s : Stp) : Prop := (-9223372036854775808 ≤ s.kind ∧ s.kind ≤ 9223372036854775807) ∧ (-9223372036854775808 ≤ s.a ∧ s.a ≤ 9223372036854775807) ∧ (-9223372036854775808 ≤ s.b ∧ s.b ≤ 9223372036854775807)
/-- What a net is between steps. -/
structure NtOk (w : World) (N : Nt) (B : Nat) : Prop where
  rep : NtR w N
  ok : AOk N.abs B
  st : ASt N.abs
  es : EOk N.abs
  some_ : 0 < N.sps.length
theorem es_to {w w' : World} {N N' : Nt} (h : EOk N.abs) (t : NtTo w w' N N') : EOk N'.abs := by
  have e1 : N'.abs.es = N.abs.es := t.es
  have e2 : N'.abs.shape = N.abs.shape := by
    have h1 := congrArg (List.map (fun x : Nat × Option Addr × Nat × List Nat => x.2.2.2)) t.fix
    simp only [List.map_map] at h1
    have h2 : ∀ M : Nt, M.abs.shape = M.sps.map ((fun x : Nat × Option Addr × Nat × List Nat => x.2.2.2) ∘ Sp.fix) := fun M => by
      simp [AN.shape, Nt.abs, Sp.abs, Sd.abs, Sp.fix, Function.comp_def]
    rw [h2, h2, h1]
  exact ⟨by rw [e1]; exact h.few, by rw [e1, e2]; exact h.ends⟩

theorem aok_mono {A : AN} {B B' : Nat} (h : AOk A B) (hB : B ≤ B') : AOk A B' :=
  ⟨h.few, fun i s hs => by obtain ⟨a, b, c⟩ := h.well i s hs; exact ⟨a, b, by omega⟩, h.out, h.kept, h.bag, h.pk, h.sym⟩
/-- A net behind a step. -/
def Nx (w w' : World) (N : Nt) (B : Nat) (A : AN) : Prop := ∃ N', NtOk w' N' B ∧ N'.abs = A ∧ NtTo w w' N N' ∧ N'.way = N.way
theorem NtOk.keepN {w w' : World} {N : Nt} {B : Nat} (h : NtOk w N B) (k : Keep nil w w') : NtOk w' N B := ⟨h.rep.keep k (fun _ _ e => e), h.ok, h.st, h.es, h.some_⟩
theorem NtOk.same {w w' : World} {N : Nt} {B B' : Nat} (h : NtOk w N B) (k : Keep nil w w') (hB : B ≤ B') : Nx w w' N B' N.abs :=
  ⟨N, ⟨h.rep.keep k (fun _ _ e => e), aok_mono h.ok hB, h.st, h.es, h.some_⟩, rfl, NtTo.of_keep N k, rfl⟩
theorem NtOk.next {w w' : World} {N N' : Nt} {B B' : Nat} {A : AN} (h : NtOk w N B) (r : NtR w' N') (a : N'.abs = A) (t : NtTo w w' N N') (wy : N'.way = N.way) (o : AOk N'.abs B') (hB : B' ≤ B + 4) (st : ASt N'.abs) : Nx w w' N (B + 4) A :=
  ⟨N', ⟨r, aok_mono o hB, st, es_to h.es t, by rw [t.len]; exact h.some_⟩, a, t, wy⟩
theorem ok_wake (N : Nt) (k B : Nat) (w : World) (h : NtOk w N B) (hk : k < N.sps.length) :
    Calls Tryz.prog 15 #[.pointer (some ⟨N.nb, 0, none⟩), .int .i64 (k : Int)] w fun r w' => ∃ v, r = .returned v ∧ Nx w w' N (B + 4) (N.abs.wake k) := by
  refine awake N.nb k w ((mwake_any N k _ B w h.rep (List.getElem?_eq_getElem hk) h.ok h.st).mono ?_)
  rintro r w' ⟨rfl, N', b1, b2, b3, b4, b5, b6⟩
  exact ⟨_, rfl, h.next b1 b2 b3 b4 b5 (by omega) b6⟩
theorem ok_tick (N : Nt) (k B : Nat) (w : World) (h : NtOk w N B) (hk : k < N.sps.length) :
    Calls Tryz.prog 33 #[.pointer (some ⟨N.nb, 0, none⟩), .int .i64 (k : Int)] w fun r w' => ∃ v, r = .returned v ∧ Nx w w' N (B + 4) (N.abs.tick k) := by
  refine atick N.nb k w ((mtick_any N k _ B w h.rep (List.getElem?_eq_getElem hk) h.ok h.st).mono ?_)
  rintro r w' ⟨rfl, N', b1, b2, b3, b4, b5, b6⟩
  exact ⟨_, rfl, h.next b1 b2 b3 b4 b5 (by omega) b6⟩
theorem ok_lose (N : Nt) (k B : Nat) (w : World) (h : NtOk w N B) :
    Calls Tryz.prog 35 #[.pointer (some ⟨N.nb, 0, none⟩), .int .i64 (k : Int)] w fun r w' => ∃ v, r = .returned v ∧ Nx w w' N (B + 4) (if k < N.abs.bag.length then N.abs.lose k else N.abs) := by
  by_cases hk : k < N.L.length
  · rw [if_pos (by rw [NtR.abs_len.1]; exact hk)]
    refine alose N.nb k w ((mlose_yes N k _ B w h.rep (List.getElem?_eq_getElem hk) h.ok).mono ?_)
    rintro r w' ⟨rfl, N', b1, b2, b3, b4, b5⟩
    exact ⟨_, rfl, h.next b1 b2 b3 b4 b5 (by omega) (by rw [b2]; exact h.st)⟩
  · rw [if_neg (by rw [NtR.abs_len.1]; exact hk)]
    refine alose N.nb k w ((mlose_no N k w h.rep (by omega)).mono ?_)
    rintro r w' ⟨rfl, k1⟩
    exact ⟨_, rfl, h.same k1 (by omega)⟩
theorem nods_add (A : AN) (x : AP) : (A.add x).nods = A.nods := by unfold AN.nods; rw [(add_sps A x).1]
theorem ok_again (N : Nt) (k B : Nat) (w : World) (h : NtOk w N B) :
    Calls Tryz.prog 36 #[.pointer (some ⟨N.nb, 0, none⟩), .int .i64 (k : Int)] w fun r w' => ∃ v, r = .returned v ∧ Nx w w' N (B + 4) (N.abs.again k) := by
  by_cases hk : k < N.L.length
  · refine aagain N.nb k w ((magain_yes N k _ B w h.rep (List.getElem?_eq_getElem hk) h.ok).mono ?_)
    rintro r w' ⟨rfl, N', b1, b2, b3, b4, b5⟩
    refine ⟨_, rfl, h.next b1 b2 b3 b4 b5 (by omega) ?_⟩
    rw [b2]
    unfold AN.again
    split
    · exact h.st
    · unfold ASt; rw [nods_add]; exact h.st
  · have e : N.abs.again k = N.abs := by
      unfold AN.again
      rw [List.getElem?_eq_none (by rw [NtR.abs_len.1]; omega)]
    rw [e]
    refine aagain N.nb k w ((magain_no N k w h.rep (by omega)).mono ?_)
    rintro r w' ⟨rfl, k1⟩
    exact ⟨_, rfl, h.same k1 (by omega)⟩
theorem ok_deliver (N : Nt) (k B : Nat) (w : World) (h : NtOk w N B) (hB : B < 4900) :
    Calls Tryz.prog 32 #[.pointer (some ⟨N.nb, 0, none⟩), .int .i64 (k : Int)] w fun r w' => ∃ v, r = .returned v ∧ Nx w w' N (B + 4) (N.abs.deliver k) := by
  by_cases hk : k < N.L.length
  · refine adeliver N.nb k w ((mdeliver_yes N k _ B w h.rep (List.getElem?_eq_getElem hk) h.ok h.st hB).mono ?_)
    rintro r w' ⟨rfl, N', b1, b2, b3, b4, b5, b6⟩
    exact ⟨_, rfl, h.next b1 b2 b3 b4 b5 (by omega) b6⟩
  · have e : N.abs.deliver k = N.abs := by
      unfold AN.deliver
      rw [List.getElem?_eq_none (by rw [NtR.abs_len.1]; omega)]
    rw [e]
    refine adeliver N.nb k w ((mdeliver_no N k w h.rep (by omega)).mono ?_)
    rintro r w' ⟨rfl, k1⟩
    exact ⟨_, rfl, h.same k1 (by omega)⟩
theorem ok_spoil (N : Nt) (k j y B : Nat) (w : World) (h : NtOk w N B) (hy : y < 256) :
    Calls Tryz.prog 37 #[.pointer (some ⟨N.nb, 0, none⟩), .int .i64 (k : Int), .int .i64 (j : Int), .int .u8 (y : Int)] w fun r w' => ∃ v, r = .returned v ∧ Nx w w' N (B + 4) (N.abs.spoil k j y) := by
  by_cases hk : k < N.L.length
  · refine aspoil N.nb k j y w ((mspoil_some N k j y _ B w h.rep (List.getElem?_eq_getElem hk) h.ok hy).mono ?_)
    rintro r w' ⟨z, rfl, N', b1, b2, b3, b4, b5⟩
    refine ⟨_, rfl, h.next b1 b2 b3 b4 b5 (by omega) ?_⟩
    rw [b2]
    unfold AN.spoil
    split
    · exact h.st
    · split
      · exact h.st
      · exact h.st
  · have e : N.abs.spoil k j y = N.abs := by
      unfold AN.spoil
      rw [List.getElem?_eq_none (by rw [NtR.abs_len.1]; omega)]
    rw [e]
    refine aspoil N.nb k j y w ((mspoil_none N k j y w h.rep (by omega)).mono ?_)
    rintro r w' ⟨rfl, k1⟩
    exact ⟨_, rfl, h.same k1 (by omega)⟩
end Go.Proofs.YtlfijfodklhplaaGreat
