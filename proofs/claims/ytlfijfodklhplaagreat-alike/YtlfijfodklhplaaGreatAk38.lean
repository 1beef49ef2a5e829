import Derived.Test.YtlfijfodklhplaaGreatAk37
/- The walk of does. -/
namespace Go.Proofs.YtlfijfodklhplaaGreat
open Go.RowKit
set_option linter.unusedVariables false
set_option linter.unusedSimpArgs false

set_option maxRecDepth 100000 in
set_option maxHeartbeats 4000000 in
theorem does_any (N : Nt) (s : Stp) (B : Nat) (w : World) (h : NtOk w N B) (hs : s.ok) (hB : B < 4900) :
    Calls Tryz.prog 21 #[.pointer (some ⟨N.nb, 0, none⟩), .int .i64 (N.sps.length : Int), .agg #[.int .i64 s.kind, .int .i64 s.a, .int .i64 s.b]] w fun r w' => r = .returned (.tuple #[]) ∧ ∃ N', NtOk w' N' (B + 4) ∧ N'.abs = N.abs.does s ∧ NtTo w w' N N' ∧ N'.way = N.way := by
  have H : Unit → NtOk w N B ∧ s.ok ∧ B < 4900 := fun _ => ⟨h, hs, hB⟩
  have HN : Unit → ∀ w', Keep nil w w' → NtOk w' N B := fun _ w' k => h.keepN k
  have HPK : Unit → ∀ w', Keep nil w w' → Calls Tryz.prog 24 #[.pointer (some ⟨N.nb, 0, none⟩)] w' fun r w2 => ∃ v, r = .returned v ∧ ∃ a c, v = .slice a N.L.length c ∧ Keep nil w' w2 := fun _ w' k => by
    refine apackets N.nb w' ((mpackets_any N B w' (h.keepN k).rep h.ok).mono ?_)
    rintro r w2 ⟨T, a, c, rfl, ht⟩
    have e : T.length = N.L.length := by have := congrArg List.length ht.same; simpa using this
    exact ⟨_, rfl, a, c, by rw [e], ht.keep⟩
  have hb3 : (N.L.length : Int) ≤ 300 := by have := h.ok.bag; rw [NtR.abs_len.1] at this; omega
  have hsp : (N.sps.length : Int) ≤ 1000 := by have := h.ok.few; rw [NtR.abs_len.2] at this; omega
  have hs0 : 0 < (N.sps.length : Int) := by have := h.some_; omega
  have HPI : Unit → ∀ (c n : Int), (-9223372036854775808 ≤ c ∧ c ≤ 9223372036854775807) → 0 < n → n < 1000000 → ∀ w', Calls Tryz.prog 12 #[.int .i64 c, .int .i64 n] w' fun e w2 => e = .returned (.int .i64 (pk c n : Int)) ∧ w' = w2 := fun _ c n hc h0 h1 w' => pick_fun c n hc.1 hc.2 h0 (by omega) w'
  obtain ⟨nb, hnb⟩ : ∃ nb, nb = N.nb := ⟨_, rfl⟩
  have HNB : Unit → nb = N.nb := fun _ => hnb
  obtain ⟨ll, hll⟩ : ∃ ll, ll = N.L.length := ⟨_, rfl⟩
  have HLL : Unit → ll = N.L.length := fun _ => hll
  obtain ⟨nn, hnn⟩ : ∃ nn, nn = N.sps.length := ⟨_, rfl⟩
  have HNN : Unit → nn = N.sps.length := fun _ => hnn
  rw [← hnb, ← hll] at HPK
  rw [← hll] at hb3
  rw [← hnn] at hsp hs0
  rw [← hnb, ← hnn]
  obtain ⟨sk, sa, sb⟩ := s
  simp only
  clear h hs hB hnb hll hnn
  go_enter Tryz.func21, Tryz.ntmps21
  go_wp2_with fail
  obtain ⟨W1, hW1⟩ : ∃ W1, W1 = w.alloc (Obj.cells #[.int .i64 sk, .int .i64 sa, .int .i64 sb] 48) := ⟨_, rfl⟩
  obtain ⟨xb, hxb⟩ : ∃ xb, xb = w.heap.size := ⟨_, rfl⟩
  have K1 : Unit → Keep nil w W1 ∧ Blk W1 xb #[.int .i64 sk, .int .i64 sa, .int .i64 sb] 48 := fun _ => by rw [hW1, hxb]; exact ⟨(Keep.refl nil w).alloc _, Blk.new _ _ _⟩
  rw [← hW1, ← hxb]
  have HXB : Unit → xb = w.heap.size := fun _ => hxb
  clear hW1 hxb
  refine Calls.mono (HPK () W1 (K1 ()).1) ?_
  rintro r w2 ⟨v, rfl, a, c, rfl, hk2⟩
  have K2 : Unit → Keep nil w w2 ∧ Blk w2 xb #[.int .i64 sk, .int .i64 sa, .int .i64 sb] 48 := fun _ => ⟨(K1 ()).1.trans hk2, (K1 ()).2.keep hk2 id⟩
  have x0 : w2.cell? ⟨xb, 0, none⟩ = some (.int .i64 sk) := by rw [(K2 ()).2.cell]; rfl
  have x1 : w2.cell? ⟨xb, 1, none⟩ = some (.int .i64 sa) := by rw [(K2 ()).2.cell]; rfl
  have x2 : w2.cell? ⟨xb, 2, none⟩ = some (.int .i64 sb) := by rw [(K2 ()).2.cell]; rfl
  have hxl := (K2 ()).2.lt
  have HP1 : Unit → ∀ w', _ := fun _ w' => HPI () sa ((ll : Int) + 1) (H ()).2.1.2.1 (by omega) (by omega) w'
  have HP2 : Unit → ∀ w', _ := fun _ w' => HPI () sk 12 (H ()).2.1.1 (by omega) (by omega) w'
  clear HPK hk2
  go_wp2_with fail
  refine Calls.mono (HP1 () w2) ?_
  rintro r w3 ⟨rfl, rfl⟩
  obtain ⟨kz, hkz⟩ : ∃ kz, kz = pk sa ((ll : Int) + 1) := ⟨_, rfl⟩
  have HKZ : Unit → kz = pk sa ((ll : Int) + 1) := fun _ => hkz
  rw [← hkz]
  clear HP1 hkz
  go_wp2_with fail
  refine Calls.mono (HP2 () w2) ?_
  rintro r w3 ⟨rfl, rfl⟩
  obtain ⟨kd, hkd⟩ : ∃ kd, kd = pk sk 12 := ⟨_, rfl⟩
  have HKD : Unit → kd = pk sk 12 := fun _ => hkd
  rw [← hkd]
  have hk12 : (kd : Int) < 12 := by rw [hkd]; exact pk_lt sk 12 (by omega)
  have hkc : kd = 0 ∨ kd = 1 ∨ kd = 2 ∨ kd = 3 ∨ kd = 4 ∨ kd = 5 ∨ kd = 6 ∨ kd = 7 ∨ (8 : Int) ≤ (kd : Int) := by omega
  clear HP2 hkd hk12
  have HX : Unit → ∀ (w4 : World) (A : AN), Nx w2 w4 N (B + 4) A → A = N.abs.does ⟨sk, sa, sb⟩ → ∃ N', NtOk w4 N' (B + 4) ∧ N'.abs = N.abs.does ⟨sk, sa, sb⟩ ∧ NtTo w w4 N N' ∧ N'.way = N.way := fun _ w4 A ⟨N', a1, a2, a3, a4⟩ e => ⟨N', a1, a2.trans e, (NtTo.of_keep N (K2 ()).1).trans a3, a4⟩
  have HDK : Unit → N.abs.does ⟨sk, sa, sb⟩ = N.abs.doesK kz kd nn sa sb := fun _ => by
    unfold AN.does
    rw [NtR.abs_len.1, NtR.abs_len.2, ← HLL (), ← HNN (), ← HKZ (), ← HKD ()]
  rcases hkc with rfl | rfl | rfl | rfl | rfl | rfl | rfl | rfl | hk8
  · have HP3 : Unit → ∀ w', _ := fun _ w' => HPI () sa (nn : Int) (H ()).2.1.2.1 hs0 (by omega) w'
    clear HPI
    go_wp2_with fail
    refine Calls.mono (HP3 () w2) ?_
    rintro r w3 ⟨rfl, rfl⟩
    have hpn : pk sa (nn : Int) < N.sps.length := by have := pk_lt sa (nn : Int) hs0; rw [← HNN ()]; omega
    obtain ⟨pz, hpz⟩ : ∃ pz, pz = pk sa (nn : Int) := ⟨_, rfl⟩
    rw [← hpz] at hpn ⊢
    have HPZ : Unit → pz = pk sa (nn : Int) ∧ pz < N.sps.length := fun _ => ⟨hpz, hpn⟩
    clear HP3 hpz hpn
    go_wp2_with fail
    refine Calls.mono (by have := ok_wake N pz B w2 (HN () w2 (K2 ()).1) (HPZ ()).2; rw [← HNB ()] at this; exact this) ?_
    rintro r w4 ⟨v, rfl, hx⟩
    have HF : Unit → _ := fun _ => HX () w4 _ hx (by rw [HDK (), (HPZ ()).1]; rfl)
    clear HX hx x0 x1 x2 hxl
    go_wp2
    go_end0
    exact ⟨rfl, HF ()⟩
  · have HP3 : Unit → ∀ w', _ := fun _ w' => HPI () sa (nn : Int) (H ()).2.1.2.1 hs0 (by omega) w'
    clear HPI
    go_wp2_with fail
    refine Calls.mono (HP3 () w2) ?_
    rintro r w3 ⟨rfl, rfl⟩
    have hpn : pk sa (nn : Int) < N.sps.length := by have := pk_lt sa (nn : Int) hs0; rw [← HNN ()]; omega
    obtain ⟨pz, hpz⟩ : ∃ pz, pz = pk sa (nn : Int) := ⟨_, rfl⟩
    rw [← hpz] at hpn ⊢
    have HPZ : Unit → pz = pk sa (nn : Int) ∧ pz < N.sps.length := fun _ => ⟨hpz, hpn⟩
    clear HP3 hpz hpn
    go_wp2_with fail
    refine Calls.mono (by have := ok_tick N pz B w2 (HN () w2 (K2 ()).1) (HPZ ()).2; rw [← HNB ()] at this; exact this) ?_
    rintro r w4 ⟨v, rfl, hx⟩
    have HF : Unit → _ := fun _ => HX () w4 _ hx (by rw [HDK (), (HPZ ()).1]; rfl)
    clear HX hx x0 x1 x2 hxl
    go_wp2
    go_end0
    exact ⟨rfl, HF ()⟩
  · clear HPI
    go_wp2_with fail
    refine Calls.mono (by have := ok_lose N kz B w2 (HN () w2 (K2 ()).1); rw [← HNB ()] at this; exact this) ?_
    rintro r w4 ⟨v, rfl, hx⟩
    have HF : Unit → _ := fun _ => HX () w4 _ hx (by rw [HDK ()]; rfl)
    clear HX hx x0 x1 x2 hxl
    go_wp2
    go_end0
    exact ⟨rfl, HF ()⟩
  · clear HPI
    go_wp2_with fail
    refine Calls.mono (by have := ok_again N kz B w2 (HN () w2 (K2 ()).1); rw [← HNB ()] at this; exact this) ?_
    rintro r w4 ⟨v, rfl, hx⟩
    have HF : Unit → _ := fun _ => HX () w4 _ hx (by rw [HDK ()]; rfl)
    clear HX hx x0 x1 x2 hxl
    go_wp2
    go_end0
    exact ⟨rfl, HF ()⟩
  · obtain ⟨pj, hpj⟩ : ∃ pj, pj = pk sb 10 := ⟨_, rfl⟩
    obtain ⟨pq, hpq⟩ : ∃ pq, pq = pk (IntKind.i64.wrap (sb.tdiv 10)) 255 := ⟨_, rfl⟩
    obtain ⟨cx, hcx⟩ : ∃ cx, cx = IntKind.i64.wrap (sb.tdiv 10) := ⟨_, rfl⟩
    have hwr : -9223372036854775808 ≤ cx ∧ cx ≤ 9223372036854775807 := by rw [hcx, IntKind.wrap_i64]; omega
    have HP3 : Unit → ∀ w', _ := fun _ w' => HPI () sb 10 (H ()).2.1.2.2 (by omega) (by omega) w'
    have HP4 : Unit → ∀ w', _ := fun _ w' => HPI () cx 255 hwr (by omega) (by omega) w'
    rw [← hpj] at HP3
    rw [hcx, ← hpq] at HP4
    have hq9 : (pq : Int) < 255 := by rw [hpq]; exact pk_lt _ 255 (by omega)
    have hq8 : (1 : Int) + (pq : Int) < 256 := by omega
    have HSP : Unit → ∀ w', Keep nil w2 w' → Calls Tryz.prog 37 #[.pointer (some ⟨nb, 0, none⟩), .int .i64 (kz : Int), .int .i64 (pj : Int), .int .u8 (1 + (pq : Int))] w' fun r w5 => ∃ v, r = .returned v ∧ Nx w2 w5 N (B + 4) (N.abs.spoil kz pj (1 + pq)) := fun _ w' k' => by
      have h1 := ok_spoil N kz pj (1 + pq) B w' (HN () w' ((K2 ()).1.trans k')) (by omega)
      rw [← HNB ()] at h1
      have e1 : (((1 + pq : Nat)) : Int) = 1 + (pq : Int) := by omega
      rw [e1] at h1
      refine h1.mono ?_
      rintro r w5 ⟨v, rfl, N', a1, a2, a3, a4⟩
      exact ⟨v, rfl, N', a1, a2, (NtTo.of_keep N k').trans a3, a4⟩
    have HXC : Unit → ∀ (w5 : World) (A : AN), Nx w2 w5 N (B + 4) A → w5.cell? ⟨xb, 2, none⟩ = some (.int .i64 sb) := fun _ w5 A ⟨N', a1, a2, a3, a4⟩ => by
      refine (a3.keep.cell xb 2 hxl (fun e => ?_)).trans x2
      have h1 := (H ()).1.rep.Olt e
      have h2 := HXB ()
      omega
    have HPJ : Unit → pj = pk sb 10 ∧ pq = pk (IntKind.i64.wrap (sb.tdiv 10)) 255 := fun _ => ⟨hpj, hpq⟩
    clear HPI hpj hpq hwr hcx
    have hw1 : IntKind.i64.wrap (1 + (pq : Int)) = 1 + (pq : Int) := by rw [IntKind.wrap_i64]; omega
    have hw2 : IntKind.u8.wrap (1 + (pq : Int)) = 1 + (pq : Int) := by rw [IntKind.wrap_u8]; omega
    clear hq8 hq9 hb3 hsp hs0
    go_wp2_with fail
    go_region_held3 (fun w' => w'.cell? ⟨xb, 2, none⟩ = some (.int .i64 sb)) (first | exact x2 | exact HXC () _ _ hx) (first | (go_at_call_of 12 (Value.int IntKind.i64 sb); refine (HP3 () _).mono ?_; rintro r w3 ⟨rfl, rfl⟩) | (go_at_call 12; refine (HP4 () _).mono ?_; rintro r w3 ⟨rfl, rfl⟩) | (go_at_call 37; refine (HSP () _ ((Keep.refl nil w2).drew)).mono ?_; rintro r w5 ⟨v, rfl, hx⟩))
    have HF : Unit → _ := fun _ => HX () w5 _ hx (by rw [HDK (), (HPJ ()).1, (HPJ ()).2]; rfl)
    clear HX hx x0 x1 x2 hxl HXC HSP HP3 HP4
    go_wp2
    go_end0
    exact ⟨rfl, HF ()⟩
  · clear HPI
    go_wp2_with fail
    refine Calls.mono (by have := ok_deliver N 0 B w2 (HN () w2 (K2 ()).1) (H ()).2.2; rw [← HNB ()] at this; exact this) ?_
    rintro r w4 ⟨v, rfl, hx⟩
    have HF : Unit → _ := fun _ => HX () w4 _ hx (by rw [HDK ()]; rfl)
    clear HX hx x0 x1 x2 hxl
    go_wp2
    go_end0
    exact ⟨rfl, HF ()⟩
  · clear HPI
    go_wp2_with fail
    refine Calls.mono (by have := ok_deliver N 0 B w2 (HN () w2 (K2 ()).1) (H ()).2.2; rw [← HNB ()] at this; exact this) ?_
    rintro r w4 ⟨v, rfl, hx⟩
    have HF : Unit → _ := fun _ => HX () w4 _ hx (by rw [HDK ()]; rfl)
    clear HX hx x0 x1 x2 hxl
    go_wp2
    go_end0
    exact ⟨rfl, HF ()⟩
  · clear HPI
    go_wp2_with fail
    refine Calls.mono (by have := ok_deliver N 0 B w2 (HN () w2 (K2 ()).1) (H ()).2.2; rw [← HNB ()] at this; exact this) ?_
    rintro r w4 ⟨v, rfl, hx⟩
    have HF : Unit → _ := fun _ => HX () w4 _ hx (by rw [HDK ()]; rfl)
    clear HX hx x0 x1 x2 hxl
    go_wp2
    go_end0
    exact ⟨rfl, HF ()⟩
  · clear HPI
    go_wp2_with fail
    refine Calls.mono (by have := ok_deliver N kz B w2 (HN () w2 (K2 ()).1) (H ()).2.2; rw [← HNB ()] at this; exact this) ?_
    rintro r w4 ⟨v, rfl, hx⟩
    have HF : Unit → _ := fun _ => HX () w4 _ hx (by rw [HDK ()]; exact (doesK_ge _ _ _ _ _ _ hk8).symm)
    clear HX hx x0 x1 x2 hxl
    go_wp2
    go_end0
    exact ⟨rfl, HF ()⟩
end Go.Proofs.YtlfijfodklhplaaGreat
/- A node that is awake stays so. -/
namespace Go.Proofs.YtlfijfodklhplaaGreat
open Go.RowKit
set_option linter.unusedVariables false
set_option linter.unusedSimpArgs false

theorem st_wake (n : Nod) : n.wake.state ≠ 0 := by
  unfold Nod.wake
  split
  · split <;> simp [Nod.setSt, Nod.send]
  · assumption
theorem st_spread (n : Nod) (j l nm : Nat) (f : Bool) : (n.spread j l nm f).state = n.state := by
  unfold Nod.spread; split <;> rfl
theorem st_reports {n : Nod} (h : n.state ≠ 0) : n.reports.state ≠ 0 := by
  unfold Nod.reports
  split
  · split <;> simp [Nod.send]
  · exact h
theorem st_tests {n : Nod} (h : n.state ≠ 0) : n.tests.state ≠ 0 := by
  unfold Nod.tests
  split
  · exact st_reports h
  · exact h
theorem st_spreads (fr l nm : Nat) (f : Bool) (k : Nat) : ∀ (n : Nod) (j : Nat), (n.spreads fr l nm f k j).state = n.state := by
  induction k with
  | zero => intro n j; rfl
  | succ k ih =>
    intro n j
    unfold Nod.spreads
    rw [ih]
    split
    · exact st_spread n j l nm f
    · rfl
theorem st_initiate (n : Nod) (fr l nm : Nat) (f : Bool) : (n.initiate fr l nm f).state ≠ 0 := by
  unfold Nod.initiate
  cases f with
  | true =>
    simp only [if_true]
    refine st_tests ?_
    rw [st_spreads]; simp
  | false =>
    simp only [Bool.false_eq_true, if_false]
    rw [st_spreads]; simp
theorem st_reject (n : Nod) (j : Nat) : (n.reject j).state = n.state := by unfold Nod.reject; split <;> rfl
theorem st_hear (n : Nod) (j w : Nat) : (n.hear j w).state = n.state := by unfold Nod.hear; split <;> rfl
theorem st_root (n : Nod) : n.changeRoot.state = n.state := by
  unfold Nod.changeRoot
  split
  · rfl
  · split <;> rfl
theorem st_act {n : Nod} (h : n.state ≠ 0) (j : Nat) (m : NMsg) : (n.act j m).1.state ≠ 0 := by
  cases m with
  | connect l =>
    show (n.connect j l).1.state ≠ 0
    unfold Nod.connect
    simp only
    split
    · rw [st_spread]; exact st_wake n
    · split
      · exact st_wake n
      · exact st_wake n
  | initiate l nm f => exact st_initiate n j l nm f
  | test l nm =>
    show (n.test j l nm).1.state ≠ 0
    unfold Nod.test
    simp only
    split
    · exact st_wake n
    · split
      · exact st_wake n
      · split
        · exact st_tests (by rw [st_reject]; exact st_wake n)
        · show (n.wake.reject j).state ≠ 0
          rw [st_reject]; exact st_wake n
  | accept =>
    show (n.accept j).state ≠ 0
    unfold Nod.accept
    exact st_reports (by rw [st_hear]; exact h)
  | reject =>
    show ((n.reject j).tests).state ≠ 0
    exact st_tests (by rw [st_reject]; exact h)
  | report w =>
    show (n.report j w).1.state ≠ 0
    unfold Nod.report
    split
    · split
      · exact h
      · split
        · show n.changeRoot.state ≠ 0
          rw [st_root]; exact h
        · split <;> exact h
    · exact st_reports (by rw [st_hear]; exact h)
  | root =>
    show n.changeRoot.state ≠ 0
    rw [st_root]; exact h
theorem st_oneOff (f : Nat) : ∀ (n : Nod) (k : Nat), n.state ≠ 0 → (n.oneOff f k).1.state ≠ 0 := by
  induction f with
  | zero => intro n k h; exact h
  | succ f ih =>
    intro n k h
    unfold Nod.oneOff
    split
    · exact h
    · rename_i c _
      split
      · exact st_act h c.1 c.2
      · exact ih _ _ (st_act h c.1 c.2)
theorem st_offs (f : Nat) : ∀ (n : Nod), n.state ≠ 0 → (n.offs f).state ≠ 0 := by
  induction f with
  | zero => intro n h; exact h
  | succ f ih =>
    intro n h
    unfold Nod.offs
    split
    · exact ih _ (st_oneOff _ _ _ h)
    · exact st_oneOff _ _ _ h
theorem st_take {n : Nod} (h : n.state ≠ 0) (j : Nat) (m : Fr.Msg) : (n.take j m).state ≠ 0 := by
  unfold Nod.take
  split
  · exact st_offs _ _ (st_act h j _)
  · exact st_act h j _
/-- Node i is awake. -/
def Awk (i : Nat) (A : AN) : Prop := ∀ n, A.nods[i]? = some n → n.state ≠ 0
theorem awk_modN {i : Nat} {A : AN} (h : Awk i A) (k : Nat) (f : Nod → Nod) (hf : ∀ n : Nod, n.state ≠ 0 → (f n).state ≠ 0) : Awk i (A.modN k f) := by
  intro n hn
  rw [nods_modN] at hn
  obtain ⟨x, hx, rfl⟩ := modify_get hn
  split
  · exact hf x (h x hx)
  · exact h x hx
theorem awk_nods {i : Nat} {A A' : AN} (h : Awk i A) (e : A'.nods = A.nods) : Awk i A' := by unfold Awk; rw [e]; exact h
theorem awk_post {i : Nat} {A : AN} (h : Awk i A) (k : Nat) : Awk i (A.post k) := by
  unfold AN.post
  exact awk_nods (awk_modN h k (fun n => { n with sent := [] }) (fun n hn => hn)) (nods_sends _ _ _)
theorem awk_wake {i : Nat} {A : AN} (h : Awk i A) (k : Nat) : Awk i (A.wake k) := awk_post (awk_modN h k _ (fun n hn => st_wake n)) k
theorem awk_woken (i : Nat) (A : AN) : Awk i (A.wake i) := by
  refine awk_post (A := A.modN i Nod.wake) ?_ i
  intro n hn
  rw [nods_modN] at hn
  obtain ⟨x, hx, rfl⟩ := modify_get hn
  rw [if_pos rfl]
  exact st_wake x
theorem awk_takes {i : Nat} (t j : Nat) (l : List Fr.Msg) : ∀ A : AN, Awk i A → Awk i (A.takes t j l) := by
  induction l with
  | nil => intro A h; exact h
  | cons m r ih =>
    intro A h
    exact ih _ (awk_post (awk_modN h t _ (fun n hn => st_take hn j m)) t)
theorem awk_deliver {i : Nat} {A : AN} (h : Awk i A) (k : Nat) : Awk i (A.deliver k) := by
  unfold AN.deliver
  split
  · exact h
  · rename_i x _
    unfold AN.comes
    refine awk_takes _ _ _ _ (awk_nods h ?_)
    rw [nods_carry, nods_modE]; rfl
theorem awk_again {i : Nat} {A : AN} (h : Awk i A) (k : Nat) : Awk i (A.again k) := by
  unfold AN.again
  split
  · exact h
  · exact awk_nods h (nods_add _ _)
theorem awk_spoil {i : Nat} {A : AN} (h : Awk i A) (k a y : Nat) : Awk i (A.spoil k a y) := by
  unfold AN.spoil
  split
  · exact h
  · split
    · exact h
    · exact h
theorem awk_does {i : Nat} {A : AN} (h : Awk i A) (s : Stp) : Awk i (A.does s) := by
  unfold AN.does AN.doesK
  split
  · exact awk_wake h _
  · exact awk_nods h (nods_ticks _ _ _)
  · split
    · exact h
    · exact h
  · exact awk_again h _
  · exact awk_spoil h _ _ _
  · exact awk_deliver h _
  · exact awk_deliver h _
  · exact awk_deliver h _
  · exact awk_deliver h _
end Go.Proofs.YtlfijfodklhplaaGreat
/- Two nets side by side. -/
namespace Go.Proofs.YtlfijfodklhplaaGreat
open Go.RowKit
set_option linter.unusedVariables false
set_option linter.unusedSimpArgs false

theorem NtOk.keepE {ex : Nat → Prop} {w w' : World} {N : Nt} {B : Nat} (h : NtOk w N B) (k : Keep ex w w') (hn : ∀ i, N.Own i → ¬ ex i) : NtOk w' N B := ⟨h.rep.keep k hn, h.ok, h.st, h.es, h.some_⟩
/-- Two nets that lie apart, in blocks that are all younger than a world. -/
structure Tw (W0 w : World) (N M : Nt) (A C : AN) (B D : Nat) : Prop where
  keep : Keep nil W0 w
  x : NtOk w N B
  y : NtOk w M D
  xa : N.abs = A
  ya : M.abs = C
  part : ∀ k, N.Own k → M.Own k → False
  newx : ∀ k, N.Own k → W0.heap.size ≤ k
  newy : ∀ k, M.Own k → W0.heap.size ≤ k
theorem Tw.keepE {ex : Nat → Prop} {W0 w w' : World} {N M : Nt} {A C : AN} {B D : Nat} (h : Tw W0 w N M A C B D) (k : Keep ex w w') (hx : ∀ i, N.Own i → ¬ ex i) (hy : ∀ i, M.Own i → ¬ ex i) (h0 : ∀ i, ex i → W0.heap.size ≤ i) : Tw W0 w' N M A C B D :=
  ⟨h.keep.trans' k (fun i hi e => by have := h0 i e; omega), h.x.keepE k hx, h.y.keepE k hy, h.xa, h.ya, h.part, h.newx, h.newy⟩
theorem Tw.keepN {W0 w w' : World} {N M : Nt} {A C : AN} {B D : Nat} (h : Tw W0 w N M A C B D) (k : Keep nil w w') : Tw W0 w' N M A C B D := h.keepE k (fun _ _ e => e) (fun _ _ e => e) (fun _ e => e.elim)
/-- What is written is younger than the two nets. -/
theorem Tw.young {ex : Nat → Prop} {W0 w w1 w' : World} {N M : Nt} {A C : AN} {B D : Nat} (h : Tw W0 w N M A C B D) (k1 : Keep nil w w1) (k : Keep ex w1 w') (h0 : ∀ i, ex i → w.heap.size ≤ i) : Tw W0 w' N M A C B D :=
  (h.keepN k1).keepE k (fun i hi e => by have := h.x.rep.Olt hi; have := h0 i e; omega) (fun i hi e => by have := h.y.rep.Olt hi; have := h0 i e; omega) (fun i e => by have := h0 i e; have := h.keep.size; omega)
theorem Tw.left {W0 w w' : World} {N M N' : Nt} {A C : AN} {B D B' : Nat} (h : Tw W0 w N M A C B D) (a : NtOk w' N' B') (t : NtTo w w' N N') : Tw W0 w' N' M N'.abs C B' D := by
  have hm : ∀ k, N'.Own k → M.Own k → False := fun k e e2 => by
    rcases t.mine k e with x | x
    · exact h.part k x e2
    · have := h.y.rep.Olt e2; omega
  refine ⟨h.keep.trans' t.keep (fun i hi e => by have := h.newx i e; omega), a, h.y.keepE t.keep (fun i hi e => h.part i e hi), rfl, h.ya, hm, fun k e => ?_, h.newy⟩
  rcases t.mine k e with x | x
  · exact h.newx k x
  · have := h.keep.size; omega
theorem Tw.right {W0 w w' : World} {N M M' : Nt} {A C : AN} {B D D' : Nat} (h : Tw W0 w N M A C B D) (a : NtOk w' M' D') (t : NtTo w w' M M') : Tw W0 w' N M' A M'.abs B D' := by
  have hm : ∀ k, N.Own k → M'.Own k → False := fun k e2 e => by
    rcases t.mine k e with x | x
    · exact h.part k e2 x
    · have := h.x.rep.Olt e2; omega
  refine ⟨h.keep.trans' t.keep (fun i hi e => by have := h.newy i e; omega), h.x.keepE t.keep (fun i hi e => h.part i hi e), a, h.xa, rfl, hm, h.newx, fun k e => ?_⟩
  rcases t.mine k e with x | x
  · exact h.newy k x
  · have := h.keep.size; omega
end Go.Proofs.YtlfijfodklhplaaGreat
