/- The document's Decode, at all bytes: the same frames as the program's. -/
import Derived.Test.YtlfijfodklhplaaGreatRefDec10
namespace Go.Proofs.YtlfijfodklhplaaGreat
open Go.RowKit
set_option linter.unusedVariables false

theorem list5 (l : List Nat) (h : l.length = 5) : ∃ a b c d e, l = [a, b, c, d, e] := by
  match l, h with
  | [a, b, c, d, e], _ => exact ⟨a, b, c, d, e, rfl⟩
theorem list10 (l : List Nat) (h : l.length = 10) : ∃ a b c d e f g i j k, l = [a, b, c, d, e, f, g, i, j, k] := by
  match l, h with
  | [a, b, c, d, e, f, g, i, j, k], _ => exact ⟨a, b, c, d, e, f, g, i, j, k, rfl⟩

theorem frame_ten (x1 x2 x3 x4 x5 x6 x7 : Nat) (h1 : x1 < 256) (h2 : x2 < 256) (h3 : x3 < 256) (h4 : x4 < 256) (h6 : x6 < 256) (h7 : x7 < 256)
    (hm : may (x3 : Int) (x4 : Int) ((x6 : Int) * 256 + (x7 : Int)) (x5 == 1) = true) : FrOk ⟨true, x1 * 256 + x2, ⟨x3, x4, x6 * 256 + x7, x5 == 1⟩⟩ := by
  refine ⟨by show x1 * 256 + x2 < 65536; omega, Or.inl ⟨rfl, h3, h4, by show x6 * 256 + x7 < 65536; omega, ?_⟩⟩
  have e : ((x6 * 256 + x7 : Nat) : Int) = (x6 : Int) * 256 + (x7 : Int) := by omega
  show may (x3 : Int) (x4 : Int) ((x6 * 256 + x7 : Nat) : Int) (x5 == 1) = true
  rw [e]; exact hm

/-- What six values ReadOk tells is told by the bytes. -/
theorem read_six {l : List Nat} {x y : Six} (h : ReadOk l x) (k : ReadOk l y) : x = y := by
  obtain ⟨n, c1, c2, hB, _, _, _, hl⟩ := h
  obtain ⟨n', c1', c2', hB', _, _, _, hl'⟩ := k
  have hn : n' = n := by omega
  subst hn
  obtain ⟨s1, s2, e1, e2, ⟨e0, f0, rfl⟩ | ⟨e0, f0, y1, y2, y3, y4, y5, f1, f2, f3, f4, f5, f6, f7, rfl⟩⟩ := hB
  · obtain ⟨t1, t2, e1', e2', ⟨e0', _, rfl⟩ | ⟨e0', f0', _⟩⟩ := hB'
    · rw [e1] at e1'; rw [e2] at e2'; cases e1'; cases e2'; rfl
    · omega
  · obtain ⟨t1, t2, e1', e2', ⟨e0', f0', _⟩ | ⟨e0', f0', z1, z2, z3, z4, z5, g1, g2, g3, g4, g5, g6, g7, rfl⟩⟩ := hB'
    · omega
    · rw [e1] at e1'; rw [e2] at e2'; rw [f1] at g1; rw [f2] at g2; rw [f3] at g3; rw [f4] at g4; rw [f5] at g5
      cases e1'; cases e2'; cases g1; cases g2; cases g3; cases g4; cases g5; rfl

theorem six_five (x1 x2 : Nat) : six ⟨false, x1 * 256 + x2, Fr.none0⟩ = ⟨false, (x1 : Int) * 256 + (x2 : Int), 0, 0, 0, false⟩ := by
  simp [six, Fr.none0]
theorem six_ten (x1 x2 x3 x4 x5 x6 x7 : Nat) : six ⟨true, x1 * 256 + x2, ⟨x3, x4, x6 * 256 + x7, x5 == 1⟩⟩ = ⟨true, (x1 : Int) * 256 + (x2 : Int), (x3 : Int), (x4 : Int), (x6 : Int) * 256 + (x7 : Int), x5 == 1⟩ := by
  simp [six]

theorem refdec_yes (bb bo cap : Nat) (l : List Nat) (w : World) (hrow : Row w bb bo l) (hbb : bb < w.heap.size) (hcap : l.length ≤ cap) (hb : ∀ x ∈ l, x < 256) (x : Six) (hx : ReadOk l x) :
    Calls Tryz.prog 81 #[.slice (some ⟨bb, bo, none⟩) l.length cap] w fun e w' => e = .returned (.tuple #[.agg (fc x.d x.s x.k x.l x.n x.f), .int .i64 0]) ∧ Keep nil w w' := by
  rcases read_len l x hx with h | h
  · obtain ⟨x0, x1, x2, x3, x4, rfl⟩ := list5 l h
    have he := read5 x0 x1 x2 x3 x4 (hb _ (by simp)) (hb _ (by simp)) (hb _ (by simp)) (hb _ (by simp)) x hx
    have hok : FrOk ⟨false, x1 * 256 + x2, Fr.none0⟩ := ⟨by have := hb x1 (by simp); have := hb x2 (by simp); show x1 * 256 + x2 < 65536; omega, Or.inr ⟨rfl, rfl⟩⟩
    have hy := enc_read _ hok
    rw [he, six_five] at hy
    rw [read_six hx hy]
    exact refdec_five_yes bb bo cap x0 x1 x2 x3 x4 w hrow hbb hcap hb he
  · obtain ⟨x0, x1, x2, x3, x4, x5, x6, x7, x8, x9, rfl⟩ := list10 l h
    obtain ⟨hm, he⟩ := read10 x0 x1 x2 x3 x4 x5 x6 x7 x8 x9 (hb _ (by simp)) (hb _ (by simp)) (hb _ (by simp)) (hb _ (by simp)) (hb _ (by simp)) (hb _ (by simp)) x hx
    have hok := frame_ten x1 x2 x3 x4 x5 x6 x7 (hb _ (by simp)) (hb _ (by simp)) (hb _ (by simp)) (hb _ (by simp)) (hb _ (by simp)) (hb _ (by simp)) hm
    have hy := enc_read _ hok
    rw [he, six_ten] at hy
    rw [read_six hx hy]
    exact refdec_ten_yes bb bo cap x0 x1 x2 x3 x4 x5 x6 x7 x8 x9 w hrow hbb hcap hb hok he

theorem refdec_no (bb bo cap : Nat) (l : List Nat) (w : World) (hrow : Row w bb bo l) (hbb : bb < w.heap.size) (hcap : l.length ≤ cap) (hb : ∀ x ∈ l, x < 256) (hno : ∀ x, ¬ ReadOk l x) :
    Calls Tryz.prog 81 #[.slice (some ⟨bb, bo, none⟩) l.length cap] w fun e w' => e = .returned (.tuple #[.agg (fc false 0 0 0 0 false), .int .i64 9]) ∧ Keep nil w w' := by
  by_cases h5 : l.length = 5
  · obtain ⟨x0, x1, x2, x3, x4, rfl⟩ := list5 l h5
    have hok : FrOk ⟨false, x1 * 256 + x2, Fr.none0⟩ := ⟨by have := hb x1 (by simp); have := hb x2 (by simp); show x1 * 256 + x2 < 65536; omega, Or.inr ⟨rfl, rfl⟩⟩
    refine refdec_five_no bb bo cap x0 x1 x2 x3 x4 w hrow hbb hcap hb (fun he => ?_)
    have hy := enc_read _ hok
    rw [he] at hy
    exact hno _ hy
  · by_cases h10 : l.length = 10
    · obtain ⟨x0, x1, x2, x3, x4, x5, x6, x7, x8, x9, rfl⟩ := list10 l h10
      have b1 := hb x1 (by simp)
      have b2 := hb x2 (by simp)
      by_cases hm : may (x3 : Int) (x4 : Int) ((x6 : Int) * 256 + (x7 : Int)) (x5 == 1) = true
      · have hok := frame_ten x1 x2 x3 x4 x5 x6 x7 b1 b2 (hb _ (by simp)) (hb _ (by simp)) (hb _ (by simp)) (hb _ (by simp)) hm
        refine refdec_ten_no bb bo cap x0 x1 x2 x3 x4 x5 x6 x7 x8 x9 w hrow hbb hcap hb hok (fun he => ?_)
        have hy := enc_read _ hok
        rw [he] at hy
        exact hno _ hy
      · refine refdec_ten_err bb bo cap x0 x1 x2 x3 x4 x5 x6 x7 x8 x9 w hrow hbb hcap hb ?_
        rw [encErr_ten (by omega) (by rintro (⟨_, h⟩ | ⟨h, _⟩); exact hm h; cases h)]
        omega
    · exact refdec_len _ _ _ w (by rw [bne_iff_ne]; omega) (by rw [bne_iff_ne]; omega)
end Go.Proofs.YtlfijfodklhplaaGreat
