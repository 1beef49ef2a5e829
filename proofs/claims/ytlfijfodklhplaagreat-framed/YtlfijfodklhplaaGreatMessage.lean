/- Walk of the reader's message. -/
import Derived.Test.YtlfijfodklhplaaGreatTwo
import Derived.Test.YtlfijfodklhplaaGreatMay
namespace Go.Proofs.YtlfijfodklhplaaGreat
open Go.RowKit
set_option linter.unusedVariables false

/-- A message's cells. -/
abbrev mc (k l n : Int) (f : Bool) : Array Value := #[.int .i64 k, .int .i64 l, .int .i64 n, .bool f]

/-- In the middle of the walk: the reader, the message so far, the result's block. -/
structure MS (w0 w : World) (rb bb bo cap : Nat) (l : List Nat) (k : Nat) (c : Array Value) : Prop where
  rd : Rd w rb bb bo cap l k
  m : Blk w (w0.heap.size + 1) c 76
  r : Blk w w0.heap.size (mc 0 0 0 false) 76
  keep : Keep (only rb) w0 w
  rbl : rb < w0.heap.size
  bbl : bb < w0.heap.size
theorem MS.call {w0 w w1 : World} {rb bb bo cap : Nat} {l : List Nat} {k k' : Nat} {c : Array Value} (s : MS w0 w rb bb bo cap l k c) (hr : Rd w1 rb bb bo cap l k') (hk : Keep (only rb) w w1) : MS w0 w1 rb bb bo cap l k' c := by
  have h1 := s.rbl
  exact ⟨hr, s.m.keep hk (by simp only [only]; omega), s.r.keep hk (by simp only [only]; omega), s.keep.trans hk, s.rbl, s.bbl⟩
theorem MS.store {w0 w : World} {rb bb bo cap : Nat} {l : List Nat} {k : Nat} {c : Array Value} (s : MS w0 w rb bb bo cap l k c) (i : Nat) (v : Value) : MS w0 (w.setCell ⟨w0.heap.size + 1, i, none⟩ v) rb bb bo cap l k (c.setIfInBounds i v) := by
  have h1 := s.rbl
  have h2 := s.bbl
  have hk : Keep (only (w0.heap.size + 1)) w (w.setCell ⟨w0.heap.size + 1, i, none⟩ v) := (Keep.refl (only (w0.heap.size + 1)) w).setCell (p := ⟨w0.heap.size + 1, i, none⟩) (fun _ => rfl) v
  exact ⟨s.rd.setCell _ _ (by simp; omega) (by simp; omega), s.m.set i v, s.r.keep hk (by simp only [only]; omega), s.keep.setCell (p := ⟨w0.heap.size + 1, i, none⟩) (fun h => by simp at h; omega) v, s.rbl, s.bbl⟩
theorem MS.start {w : World} {rb bb bo cap : Nat} {l : List Nat} {k : Nat} (hr : Rd w rb bb bo cap l k) : MS w ((w.alloc (.cells (mc 0 0 0 false) 76)).alloc (.cells (mc 0 0 0 false) 76)) rb bb bo cap l k (mc 0 0 0 false) :=
  ⟨(hr.alloc _).alloc _, Blk.new' _ _ _ _ (by simp), (Blk.new _ _ _).old _, ((Keep.refl _ _).alloc _).alloc _, hr.lt, hr.bb⟩

/-- The result is laid: four cells. -/
theorem MS.res {w0 w : World} {rb bb bo cap : Nat} {l : List Nat} {k : Nat} {c : Array Value} (s : MS w0 w rb bb bo cap l k c) (a b n : Int) (f : Bool) :
    Rd ((((w.setCell ⟨w0.heap.size, 0, none⟩ (.int .i64 a)).setCell ⟨w0.heap.size, 1, none⟩ (.int .i64 b)).setCell ⟨w0.heap.size, 2, none⟩ (.int .i64 n)).setCell ⟨w0.heap.size, 3, none⟩ (.bool f)) rb bb bo cap l k ∧
    Keep (only rb) w0 ((((w.setCell ⟨w0.heap.size, 0, none⟩ (.int .i64 a)).setCell ⟨w0.heap.size, 1, none⟩ (.int .i64 b)).setCell ⟨w0.heap.size, 2, none⟩ (.int .i64 n)).setCell ⟨w0.heap.size, 3, none⟩ (.bool f)) ∧
    Blk ((((w.setCell ⟨w0.heap.size, 0, none⟩ (.int .i64 a)).setCell ⟨w0.heap.size, 1, none⟩ (.int .i64 b)).setCell ⟨w0.heap.size, 2, none⟩ (.int .i64 n)).setCell ⟨w0.heap.size, 3, none⟩ (.bool f)) w0.heap.size (mc a b n f) 76 := by
  have h1 := s.rbl
  have h2 := s.bbl
  refine ⟨?_, ?_, (((s.r.set 0 (.int .i64 a)).set 1 (.int .i64 b)).set 2 (.int .i64 n)).set 3 (.bool f)⟩
  · exact (((s.rd.setCell _ _ (by simp; omega) (by simp; omega)).setCell _ _ (by simp; omega) (by simp; omega)).setCell _ _ (by simp; omega) (by simp; omega)).setCell _ _ (by simp; omega) (by simp; omega)
  · exact (((s.keep.setCell (fun h => by simp at h) _).setCell (fun h => by simp at h) _).setCell (fun h => by simp at h) _).setCell (fun h => by simp at h) _

set_option maxHeartbeats 1000000 in
theorem message_yes (rb bb bo cap : Nat) (l : List Nat) (k : Nat) (w : World) (hr : Rd w rb bb bo cap l k) (x1 x2 x3 x4 x5 : Nat) (h1 : l[k]? = some x1) (h2 : l[k + 1]? = some x2) (h3 : l[k + 2]? = some x3) (h4 : l[k + 3]? = some x4) (h5 : l[k + 4]? = some x5)
    (hf : x3 ≤ 1) (hm : may (x1 : Int) (x2 : Int) ((x4 : Int) * 256 + (x5 : Int)) (x3 == 1) = true) :
    Calls Tryz.prog 226 #[.pointer (some ⟨rb, 0, none⟩)] w fun e w' =>
      e = .returned (.agg (mc (x1 : Int) (x2 : Int) ((x4 : Int) * 256 + (x5 : Int)) (x3 == 1))) ∧ Rd w' rb bb bo cap l (k + 5) ∧ Keep (only rb) w w' := by
  have s0 := MS.start hr
  clear hr
  go_enter Tryz.func226, Tryz.ntmps226
  go_wp2_with fail
  refine (one_at rb bb bo cap l k _ s0.rd x1 h1).mono ?_
  rintro e w1 ⟨rfl, hr1, hk1⟩
  have s1 := s0.call hr1 hk1
  have q1 := s1.m.cell 0
  have q2 := s1.m.frozen 0
  simp at q1
  go_wp2_with fail
  have s1' : MS w _ rb bb bo cap l (k + 1) (mc (x1 : Int) 0 0 false) := s1.store 0 (.int .i64 (x1 : Int))
  refine (one_at rb bb bo cap l (k + 1) _ s1'.rd x2 h2).mono ?_
  rintro e w2 ⟨rfl, hr2, hk2⟩
  have s2 := s1'.call hr2 hk2
  clear q1 q2 s0 s1 s1' hr1 hk1 hr2 hk2
  have q1 := s2.m.cell 1
  have q2 := s2.m.frozen 1
  simp at q1
  go_wp2_with fail
  have s2' : MS w _ rb bb bo cap l (k + 2) (mc (x1 : Int) (x2 : Int) 0 false) := s2.store 1 (.int .i64 (x2 : Int))
  refine (flag_at rb bb bo cap l (k + 2) _ s2'.rd x3 h3 hf).mono ?_
  rintro e w3 ⟨rfl, hr3, hk3⟩
  have s3 := s2'.call hr3 hk3
  clear q1 q2 s2 s2' hr3 hk3
  have q1 := s3.m.cell 3
  have q2 := s3.m.frozen 3
  simp at q1
  go_wp2_with fail
  have s3' : MS w _ rb bb bo cap l (k + 3) (mc (x1 : Int) (x2 : Int) 0 (x3 == 1)) := s3.store 3 (.bool (x3 == 1))
  refine (two_at rb bb bo cap l (k + 3) _ s3'.rd x4 x5 h4 h5).mono ?_
  rintro e w4 ⟨rfl, hr4, hk4⟩
  have s4 := s3'.call hr4 hk4
  clear q1 q2 s3 s3' hr4 hk4
  have q0 := s4.m.cell 0
  have q1 := s4.m.cell 1
  have q2 := s4.m.cell 2
  have q3 := s4.m.cell 3
  have q4 := s4.m.frozen 2
  simp at q0 q1 q2 q3
  go_wp2_with fail
  have s5 : MS w (w4.setCell ⟨w.heap.size + 1, 2, none⟩ (.int .i64 ((x4 : Int) * 256 + (x5 : Int)))) rb bb bo cap l (k + 5) (mc (x1 : Int) (x2 : Int) ((x4 : Int) * 256 + (x5 : Int)) (x3 == 1)) := s4.store 2 _
  refine (mayBe_any _ _ _ _ _).mono ?_
  rintro e w6 ⟨rfl, hk6⟩
  have s6 := s5.call (s5.rd.keep hk6 (fun e => e) (fun e => e)) (hk6.mono (fun _ _ e => e.elim))
  clear q0 q1 q2 q3 q4 s4 s5 hk6
  have q0 := s6.m.cell 0
  have q1 := s6.m.cell 1
  have q2 := s6.m.cell 2
  have q3 := s6.m.cell 3
  have q4 := fun i => s6.r.frozen i
  have r0 := s6.r.cell 0
  have r1 := s6.r.cell 1
  have r2 := s6.r.cell 2
  have r3 := s6.r.cell 3
  simp at q0 q1 q2 q3 r0 r1 r2 r3
  go_wp2_with fail
  refine (must_yes _).mono ?_
  rintro e w7 ⟨rfl, rfl⟩
  go_wp2
  obtain ⟨t1, t2, t3⟩ := s6.res (x1 : Int) (x2 : Int) ((x4 : Int) * 256 + (x5 : Int)) (x3 == 1)
  have z0 := t3.cell 0
  have z1 := t3.cell 1
  have z2 := t3.cell 2
  have z3 := t3.cell 3
  simp at z0 z1 z2 z3
  exact bodyPost_ret (v := .agg (mc (x1 : Int) (x2 : Int) ((x4 : Int) * 256 + (x5 : Int)) (x3 == 1))) (by simp [results, Tryz.results226, go_sem, z0, z1, z2, z3]) rfl ⟨rfl, t1, t2⟩
end Go.Proofs.YtlfijfodklhplaaGreat
