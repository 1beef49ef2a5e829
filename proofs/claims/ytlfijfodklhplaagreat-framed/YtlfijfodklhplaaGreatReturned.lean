/- Walk of returned: bytes that were lent stand as they did. -/
import Derived.Test.YtlfijfodklhplaaGreatTold
import Derived.Test.YtlfijfodklhplaaGreatLent
namespace Go.Proofs.YtlfijfodklhplaaGreat
open Go.RowKit
set_option linter.unusedVariables false

theorem nil_eql (w : World) (a : Option Addr) (n c : Nat) : (binOp .eql 56 (.slice a n c) (.slice none 0 0)).run Tryz.prog w = .ok (.bool a.isNone) w :=
  Lib.run_eql_slice_nil w 56 5 a n c 0 0 Tryz.underlying56

set_option maxRecDepth 100000 in
set_option maxHeartbeats 1000000 in
theorem returned_nil (yb : Nat) (g : Value) (w : World) :
    Calls Tryz.prog 82 #[.pointer (some ⟨yb, 0, none⟩), g, .slice none 0 0] w fun e w' => e = .returned (.bool true) ∧ w = w' := by
  have hnil := nil_eql
  go_enter Tryz.func82, Tryz.ntmps82
  go_wp2
  go_ret
  exact ⟨rfl, rfl⟩

theorem marks_at (k : Nat) (h : k < 8) : (marks 8)[k]? = some (171 + k) := by
  simp [marks, h]

set_option maxRecDepth 100000 in
set_option maxHeartbeats 4000000 in
theorem returned_rows (yb g c : Nat) (ad : Addr) (cap : Nat) (l : List Nat) (a0 : Option Addr) (na ca : Nat) (VA : List Value) (p0 p1 p3 p4 p5 p6 p7 : Value) (w : World) (hyb : Blk w yb #[p0, p1, .slice a0 na ca, p3, p4, p5, p6, p7] 73) (hyg : yb ≠ g)
    (hra : RowIs w a0 na ca 106 VA (fun b => b = g ∨ b = yb)) (hb : BRow w g (l ++ marks 8) c) (hcl : l.length + 8 ≤ c) (hrb : BSl w ad l) (hbt : ∀ x ∈ l, x < 256)
    (hlen : (l.length : Int) ≤ 140737488351232) (hna : (na : Int) < 1099511627776) :
    Calls Tryz.prog 82 #[.pointer (some ⟨yb, 0, none⟩), .slice (some ⟨g, 0, none⟩) l.length c, .slice (some ad) l.length cap] w fun e w' =>
      e = .returned (.bool true) ∧ ∃ m, BkB (only g) (w.drewN m) w' yb na a0 VA p0 p1 p3 p4 p5 p6 p7 := by
  have hnil := nil_eql
  have hc1 : ∀ k, k < l.length → w.cell? ⟨g, k, none⟩ = some (.int .u8 ((l[k]?.getD 0 : Nat) : Int)) := fun k hk => by
    have := hb.cell k (bv l[k]) (by rw [List.getElem?_map, List.getElem?_append_left hk, List.getElem?_eq_getElem hk]; rfl)
    rw [this, List.getElem?_eq_getElem hk]; rfl
  have hc2 : ∀ k, k < l.length → ∃ bb bo, ad = ⟨bb, bo, none⟩ ∧ w.cell? ⟨bb, bo + k, none⟩ = some (.int .u8 ((l[k]?.getD 0 : Nat) : Int)) := fun k hk => by
    rcases hrb with h | ⟨bb, bo, h1, _, h3⟩
    · rw [h] at hk; simp at hk
    · exact ⟨bb, bo, h1, by rw [h3 k hk, List.getElem?_eq_getElem hk]; rfl⟩
  have hc3 : ∀ k, k < 8 → w.cell? ⟨g, l.length + k, none⟩ = some (.int .u8 (171 + (k : Int))) := fun k hk => by
    have := hb.cell (l.length + k) (bv (171 + k)) (by rw [List.getElem?_map, List.getElem?_append_right (by omega), Nat.add_sub_cancel_left, marks_at k hk]; rfl)
    rw [this]
    show some (Value.int .u8 ((171 + k : Nat) : Int)) = _
    congr 2
  have H : Unit → ∀ m, Calls Tryz.prog 127 #[.pointer (some ⟨yb, 2, none⟩), .slice (some ⟨g, 0, none⟩) l.length c] (w.drewN m) fun e w' => e = .returned (.tuple #[]) ∧ BkB (only g) (w.drewN m) w' yb na a0 VA p0 p1 p3 p4 p5 p6 p7 := fun _ m => by
    have kd : Keep nil w (w.drewN m) := (Keep.refl nil w).drewN m
    have hl : BRow w g l c := by
      have := hb.less l.length
      rw [← List.map_take, List.take_left] at this
      exact this
    refine bytes_row yb g c l a0 na ca VA p0 p1 p3 p4 p5 p6 p7 (w.drewN m) (hyb.keep kd (fun e => e)) hyg ?_ (hl.keep kd (fun e => e)) (by omega) (by omega) hna
    rcases hra with h | ⟨ab, h1, h2, h3, h4⟩
    · exact Or.inl h
    · exact Or.inr ⟨ab, h1, h2.keep kd (fun e => e), h3, h4⟩
  clear hyb hra hb hrb hbt hna
  go_enter Tryz.func82, Tryz.ntmps82
  go_wp2_with fail
  clear hnil
  go_loopw [8, 9] (fun ok i wr => ∃ k m : Nat, k ≤ l.length ∧ i = .int .i64 (k : Int) ∧ ok = .bool true ∧ wr = w.drewN m) (fun _ i _ => l.length - (intOf i).toNat)
  case atStart => exact ⟨0, 0, by omega, rfl, rfl, rfl⟩
  case round =>
    obtain ⟨k, m, hk, rfl, rfl, rfl⟩ := hrel
    by_cases hkl : k < l.length
    · have q1 := hc1 k hkl
      obtain ⟨bb, bo, rfl, q2⟩ := hc2 k hkl
      clear hc2
      go_wp2_with fail
      go_quiet (fail)
      go_wp2
      exact ⟨⟨k + 1, m + nq, by omega, by go_num, rfl, rfl⟩, by simp [intOf]; omega⟩
    · clear hc1 hc2
      go_wp2_with fail
      go_loopw [8, 10] (fun ok i wr => ∃ k : Nat, k ≤ 8 ∧ i = .int .i64 (k : Int) ∧ ok = .bool true ∧ wr = w.drewN m) (fun _ i _ => 8 - (intOf i).toNat)
      case atStart => exact ⟨0, by omega, rfl, rfl, rfl⟩
      case round =>
        obtain ⟨k, hk, rfl, rfl, rfl⟩ := hrel
        by_cases hk8 : k < 8
        · have q3 := hc3 k hk8
          have hkI : (k : Int) < 8 := by omega
          go_wp2
          exact ⟨⟨k + 1, by omega, by go_num, rfl, trivial⟩, by simp [intOf]; omega⟩
        · have e8 : k = 8 := by omega
          subst e8
          clear hc3 hlen hcl
          go_wp2_with fail
          refine Calls.mono (H () m) ?_
          rintro e w1 ⟨rfl, hpost⟩
          have HP : Unit → BkB (only g) (w.drewN m) w1 yb na a0 VA p0 p1 p3 p4 p5 p6 p7 := fun _ => hpost
          clear hpost
          go_wp2
          go_ret
          exact ⟨rfl, m, HP ()⟩
end Go.Proofs.YtlfijfodklhplaaGreat
