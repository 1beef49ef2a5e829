/- The statement on Written: the walks of each kind put together, and the row. -/
import Derived.Test.YtlfijfodklhplaaWAck
import Derived.Test.YtlfijfodklhplaaWMsg1
import Derived.Test.YtlfijfodklhplaaWMsg2
import Derived.Test.YtlfijfodklhplaaWMsg3
import Derived.Test.YtlfijfodklhplaaWMsg4
import Derived.Test.YtlfijfodklhplaaWMsg5
import Derived.Test.YtlfijfodklhplaaWMsg6
import Derived.Test.YtlfijfodklhplaaWMsg7
import Derived.ProofKit
import Derived.OpenShut
namespace Go.Proofs.Ytlfijfodklhplaa
open Go.ChangeShapes Go.WideShapes Go.ChangeAt Go.RowKit
set_option linter.unusedVariables false

/-- What pick answers, whatever the world. -/
theorem pick_val (c n : Int) (h0 : -9223372036854775808 ≤ c) (h1 : c ≤ 9223372036854775807) (h2 : 0 < n) (h3 : n < 4294967296) :
    ∃ z : Int, (0 ≤ z ∧ z < n) ∧ ∀ w, Calls Try.prog 5 #[.int .i64 c, .int .i64 n] w fun e w' => e = .returned (.int .i64 z) ∧ w = w' := by
  by_cases hc : c < 0
  · have e : (-(c + 1)).tmod n = (-(c + 1)) % n := Int.tmod_eq_emod_of_nonneg (by omega)
    have z0 := Int.emod_nonneg (-(c + 1)) (show n ≠ 0 by omega)
    have z1 := Int.emod_lt_of_pos (-(c + 1)) h2
    have HE : Hid (-(c + 1).tmod n = (-(c + 1)) % n) := by rw [← e, Int.neg_tmod]; rfl
    refine ⟨(-(c + 1)) % n, ⟨z0, z1⟩, fun w => ?_⟩
    clear e z0 z1
    go_enter Try.func5, Try.ntmps5
    go_wp2
    go_ret
    exact ⟨ret_int HE.out, rfl⟩
  · have z0 := Int.emod_nonneg c (show n ≠ 0 by omega)
    have z1 := Int.emod_lt_of_pos c h2
    refine ⟨c % n, ⟨z0, z1⟩, fun w => ?_⟩
    clear z0 z1
    go_enter Try.func5, Try.ntmps5
    go_wp2
    go_ret
    exact ⟨rfl, rfl⟩

theorem written_walk (a0 : Bool) (a1 a2 a3 a4 : Int) (a5 : Bool) (a6 a7 : Int) (w1 : (Lit.int .i64 a1).wf = true) (w2 : (Lit.int .i64 a2).wf = true) (w3 : (Lit.int .i64 a3).wf = true) (w4 : (Lit.int .i64 a4).wf = true) (w6 : (Lit.int .i64 a6).wf = true) (w7 : (Lit.int .i64 a7).wf = true) (w : World) :
    Calls Try.prog 3 #[.bool a0, .int .i64 a1, .int .i64 a2, .int .i64 a3, .int .i64 a4, .bool a5, .int .i64 a6, .int .i64 a7] w fun e w' => e = .returned (.bool true) ∧ Below w.heap.size w w' := by
  cases a0
  · exact (written_ack a1 a2 a3 a4 a5 a6 a7 w1 w6 w7 w).mono fun e w' h => ⟨h.1, h.2.below⟩
  · obtain ⟨b2, b2'⟩ := i64_bounds w2
    obtain ⟨z, ⟨z0, z1⟩, hp⟩ := pick_val a2 7 b2 b2' (by omega) (by omega)
    have hz : z = 0 ∨ z = 1 ∨ z = 2 ∨ z = 3 ∨ z = 4 ∨ z = 5 ∨ z = 6 := by omega
    rcases hz with rfl | rfl | rfl | rfl | rfl | rfl | rfl
    · exact (written_1 a1 a2 a3 a4 a5 a6 a7 w1 w3 w4 w6 w7 w hp).mono fun e w' h => ⟨h.1, h.2.below⟩
    · exact (written_2 a1 a2 a3 a4 a5 a6 a7 w1 w3 w4 w6 w7 w hp).mono fun e w' h => ⟨h.1, h.2.below⟩
    · exact (written_3 a1 a2 a3 a4 a5 a6 a7 w1 w3 w4 w6 w7 w hp).mono fun e w' h => ⟨h.1, h.2.below⟩
    · exact (written_4 a1 a2 a3 a4 a5 a6 a7 w1 w3 w4 w6 w7 w hp).mono fun e w' h => ⟨h.1, h.2.below⟩
    · exact (written_5 a1 a2 a3 a4 a5 a6 a7 w1 w3 w4 w6 w7 w hp).mono fun e w' h => ⟨h.1, h.2.below⟩
    · exact (written_6 a1 a2 a3 a4 a5 a6 a7 w1 w3 w4 w6 w7 w hp).mono fun e w' h => ⟨h.1, h.2.below⟩
    · exact (written_7 a1 a2 a3 a4 a5 a6 a7 w1 w3 w4 w6 w7 w hp).mono fun e w' h => ⟨h.1, h.2.below⟩

theorem written_own : ownKnob Try.prog.godebug = none := by kernel_rfl

set_option maxRecDepth 100000 in
theorem written_lifted (os : Os) (started : os.Started) (H : Type) (enc : TypeId × Value → H) :
    ReturnsInHanded {} Try.checked os 3 .any (Rows.writtenSpec.pre6 enc Try.prog Try.f3 Rows.writtenRow.domain false) (Rows.writtenSpec.post enc Try.prog Try.f3 false true false false) := by
  refine returnsInHanded_of_change (C := Try.checked) written_own started (by kernel_rfl) Try.func3
    (ChangeSpec.witness6 (enc := enc) (C := Try.checked) false ⟨#[], #[.bool false, .int .i64 0, .int .i64 0, .int .i64 0, .int .i64 0, .bool false, .int .i64 0, .int .i64 0], []⟩ 8 (by kernel_rfl) (by kernel_rfl) (by kernel_rfl) (by kernel_rfl)) ?_
  intro W base args ds gs before hval0 hW hcnd _
  have hval : ∀ (j : Nat) t v, Try.f3.params[j]? = some t → args[j]? = some v → Value.okWide Try.prog W .any base t v := hval0
  have hW' := hW
  obtain ⟨p, q, hA0, hV, rfl, hfz, hnd⟩ := hW
  have hA : DataW.TrodAll enc Try.prog W 0 (fun _ => true) true Try.f3.params.toList args.toList ds p := hA0
  rw [Try.params3] at hA hval
  obtain ⟨v0, vs0, d0, ds0, p0, q0, hargs, rfl, rfl, h0, r0⟩ := trodAll_cons hA
  obtain ⟨v1, vs1, d1, ds1, p1, q1, rfl, rfl, rfl, h1, r1⟩ := trodAll_cons r0
  obtain ⟨v2, vs2, d2, ds2, p2, q2, rfl, rfl, rfl, h2, r2⟩ := trodAll_cons r1
  obtain ⟨v3, vs3, d3, ds3, p3, q3, rfl, rfl, rfl, h3, r3⟩ := trodAll_cons r2
  obtain ⟨v4, vs4, d4, ds4, p4, q4, rfl, rfl, rfl, h4, r4⟩ := trodAll_cons r3
  obtain ⟨v5, vs5, d5, ds5, p5, q5, rfl, rfl, rfl, h5, r5⟩ := trodAll_cons r4
  obtain ⟨v6, vs6, d6, ds6, p6, q6, rfl, rfl, rfl, h6, r6⟩ := trodAll_cons r5
  obtain ⟨v7, vs7, d7, ds7, p7, q7, rfl, rfl, rfl, h7, r7⟩ := trodAll_cons r6
  obtain ⟨rfl, rfl, rfl⟩ := trodAll_nil r7
  obtain rfl : args = #[v0, v1, v2, v3, v4, v5, v6, v7] := by cases args; simp_all
  obtain ⟨rfl, rfl⟩ := trodVars_none hV
  obtain ⟨a0, rfl, rfl, rfl⟩ := open_bool Try.underlying4 (hval 0 4 v0 rfl rfl) h0
  obtain ⟨a1, rfl, rfl, rfl, w1⟩ := open_int Try.underlying3 (hval 1 3 v1 rfl rfl) h1
  obtain ⟨a2, rfl, rfl, rfl, w2⟩ := open_int Try.underlying3 (hval 2 3 v2 rfl rfl) h2
  obtain ⟨a3, rfl, rfl, rfl, w3⟩ := open_int Try.underlying3 (hval 3 3 v3 rfl rfl) h3
  obtain ⟨a4, rfl, rfl, rfl, w4⟩ := open_int Try.underlying3 (hval 4 3 v4 rfl rfl) h4
  obtain ⟨a5, rfl, rfl, rfl⟩ := open_bool Try.underlying4 (hval 5 4 v5 rfl rfl) h5
  obtain ⟨a6, rfl, rfl, rfl, w6⟩ := open_int Try.underlying3 (hval 6 3 v6 rfl rfl) h6
  obtain ⟨a7, rfl, rfl, rfl, w7⟩ := open_int Try.underlying3 (hval 7 3 v7 rfl rfl) h7
  clear hA0 hval0
  simp only [List.append_nil] at hW'
  refine (written_walk a0 a1 a2 a3 a4 a5 a6 a7 w1 w2 w3 w4 w6 w7 W).mono fun e W' ⟨he, bel⟩ => ?_
  subst he
  exact ⟨_, rfl, _, _, _, [], [], [], hW', trodAll_mk1 (shut_bool Try.underlying4 _), trodAll_cons_mk (shut_bool Try.underlying4 _) (trodAll_cons_mk (shut_int Try.underlying3 w1) (trodAll_cons_mk (shut_int Try.underlying3 w2) (trodAll_cons_mk (shut_int Try.underlying3 w3) (trodAll_cons_mk (shut_int Try.underlying3 w4) (trodAll_cons_mk (shut_bool Try.underlying4 _) (trodAll_cons_mk (shut_int Try.underlying3 w6) (trodAll_cons_mk (shut_int Try.underlying3 w7) trodAll_mk0))))))), rfl, bel.frame _, fun h => by cases h⟩

theorem written_over : Rows.writtenRow.holds Try.pinned (OpenSpec.ofChange Rows.writtenSpec) :=
  OpenClaim.holds_of_wide 3 Try.f3 rfl rfl rfl rfl rfl rfl rfl ⟨rfl, rfl, rfl, rfl, rfl⟩ rfl rfl rfl rfl rfl (by kernel_rfl) Try.func3 (by kernel_rfl)
    (of_decide_eq_true (by kernel_rfl)) (by unfold Func.isWrapper; first | (rw [if_pos (by decide +kernel)]; kernel_rfl) | (rw [if_neg (by decide +kernel)]; exact ⟨rfl, rfl⟩))
    (fun os started H enc _ => written_lifted os started H enc)

/-- The statement. -/
theorem written_holds : Rows.WrittenSaid :=
  written_over
#print axioms written_holds
end Go.Proofs.Ytlfijfodklhplaa
