/- Walk of the reader's message where there is none. -/
import Derived.Test.YtlfijfodklhplaaGreatMessage
namespace Go.Proofs.YtlfijfodklhplaaGreat
open Go.RowKit
set_option linter.unusedVariables false

/-- From place k on there are the five bytes of a message. -/
def MsgOk (l : List Nat) (k : Nat) : Prop := ∃ x1 x2 x3 x4 x5 : Nat, l[k]? = some x1 ∧ l[k + 1]? = some x2 ∧ l[k + 2]? = some x3 ∧ l[k + 3]? = some x4 ∧ l[k + 4]? = some x5 ∧ x3 ≤ 1 ∧ may (x1 : Int) (x2 : Int) ((x4 : Int) * 256 + (x5 : Int)) (x3 == 1) = true

theorem at_some (l : List Nat) (k : Nat) (h : k < l.length) : ∃ x, l[k]? = some x := ⟨l[k], List.getElem?_eq_getElem h⟩

set_option maxHeartbeats 1000000 in
theorem message_no (rb bb bo cap : Nat) (l : List Nat) (k : Nat) (w : World) (hr : Rd w rb bb bo cap l k) (hno : ¬ MsgOk l k) :
    Calls Tryz.prog 226 #[.pointer (some ⟨rb, 0, none⟩)] w fun e w' => e = .panicked noFrame ∧ Keep (only rb) w w' := by
  have s0 := MS.start hr
  clear hr
  go_enter Tryz.func226, Tryz.ntmps226
  go_wp2_with fail
  by_cases g1 : l.length ≤ k
  · refine (one_no rb bb bo cap l k _ s0.rd g1).mono ?_
    rintro e w1 ⟨rfl, hk1⟩
    exact ⟨rfl, rfl, s0.keep.trans hk1⟩
  obtain ⟨x1, h1⟩ := at_some l k (by omega)
  clear g1
  refine (one_at rb bb bo cap l k _ s0.rd x1 h1).mono ?_
  rintro e w1 ⟨rfl, hr1, hk1⟩
  have s1 := s0.call hr1 hk1
  have q1 := s1.m.cell 0
  have q2 := s1.m.frozen 0
  simp at q1
  go_wp2_with fail
  have s1' : MS w _ rb bb bo cap l (k + 1) (mc (x1 : Int) 0 0 false) := s1.store 0 (.int .i64 (x1 : Int))
  by_cases g1 : l.length ≤ k + 1
  · refine (one_no rb bb bo cap l (k + 1) _ s1'.rd g1).mono ?_
    rintro e w2 ⟨rfl, hk2⟩
    exact ⟨rfl, rfl, s1'.keep.trans hk2⟩
  obtain ⟨x2, h2⟩ := at_some l (k + 1) (by omega)
  clear g1
  refine (one_at rb bb bo cap l (k + 1) _ s1'.rd x2 h2).mono ?_
  rintro e w2 ⟨rfl, hr2, hk2⟩
  have s2 := s1'.call hr2 hk2
  clear q1 q2 s0 s1 s1' hr1 hk1 hr2 hk2
  have q1 := s2.m.cell 1
  have q2 := s2.m.frozen 1
  simp at q1
  go_wp2_with fail
  have s2' : MS w _ rb bb bo cap l (k + 2) (mc (x1 : Int) (x2 : Int) 0 false) := s2.store 1 (.int .i64 (x2 : Int))
  by_cases g1 : ∃ h : k + 2 < l.length, l[k + 2] ≤ 1
  · obtain ⟨g1, hf⟩ := g1
    obtain ⟨x3, h3⟩ := at_some l (k + 2) g1
    replace hf : x3 ≤ 1 := by rw [List.getElem?_eq_getElem g1] at h3; cases h3; exact hf
    clear g1
    refine (flag_at rb bb bo cap l (k + 2) _ s2'.rd x3 h3 hf).mono ?_
    rintro e w3 ⟨rfl, hr3, hk3⟩
    have s3 := s2'.call hr3 hk3
    clear q1 q2 s2 s2' hr3 hk3
    have q1 := s3.m.cell 3
    have q2 := s3.m.frozen 3
    simp at q1
    go_wp2_with fail
    have s3' : MS w _ rb bb bo cap l (k + 3) (mc (x1 : Int) (x2 : Int) 0 (x3 == 1)) := s3.store 3 (.bool (x3 == 1))
    by_cases g1 : l.length ≤ k + 3 + 1
    · refine (two_no rb bb bo cap l (k + 3) _ s3'.rd g1).mono ?_
      rintro e w4 ⟨rfl, hk4⟩
      exact ⟨rfl, rfl, s3'.keep.trans hk4⟩
    obtain ⟨x4, h4⟩ := at_some l (k + 3) (by omega)
    obtain ⟨x5, h5⟩ := at_some l (k + 4) (by omega)
    clear g1
    refine (two_at rb bb bo cap l (k + 3) _ s3'.rd x4 x5 h4 h5).mono ?_
    rintro e w4 ⟨rfl, hr4, hk4⟩
    have s4 := s3'.call hr4 hk4
    clear q1 q2 s3 s3' hr4 hk4
    have hm : may (x1 : Int) (x2 : Int) ((x4 : Int) * 256 + (x5 : Int)) (x3 == 1) = false := by
      cases h : may (x1 : Int) (x2 : Int) ((x4 : Int) * 256 + (x5 : Int)) (x3 == 1) with
      | false => rfl
      | true => exact absurd ⟨x1, x2, x3, x4, x5, h1, h2, h3, h4, h5, hf, h⟩ hno
    have q0 := s4.m.cell 0
    have q1 := s4.m.cell 1
    have q2 := s4.m.cell 2
    have q3 := s4.m.cell 3
    have q4 := s4.m.frozen 2
    simp at q0 q1 q2 q3
    go_wp2_with fail
    have s5 : MS w (w4.setCell ⟨w.heap.size + 1, 2, none⟩ (.int .i64 ((x4 : Int) * 256 + (x5 : Int)))) rb bb bo cap l (k + 5) (mc (x1 : Int) (x2 : Int) ((x4 : Int) * 256 + (x5 : Int)) (x3 == 1)) := s4.store 2 _
    refine (mayBe_any _ _ _ _ _).mono ?_
    rintro e w6 ⟨rfl, hk6⟩
    have s6 := s5.keep.trans (hk6.mono (fun _ _ e => e.elim))
    clear q0 q1 q2 q3 q4 s4 s5 hk6
    go_wp2_with fail
    refine (must_no _).mono ?_
    rintro e w7 ⟨rfl, rfl⟩
    exact ⟨rfl, rfl, s6⟩
  · refine (flag_no rb bb bo cap l (k + 2) _ s2'.rd (fun h hx => g1 ⟨h, hx⟩)).mono ?_
    rintro e w3 ⟨rfl, hk3⟩
    exact ⟨rfl, rfl, s2'.keep.trans hk3⟩
end Go.Proofs.YtlfijfodklhplaaGreat
