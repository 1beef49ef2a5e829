import Derived.Test.YtlfijfodklhplaaGreatLk20
import Derived.Test.YtlfijfodklhplaaGreatLk21
/- Walk of returnedEdges: edges that were lent stand as they did. -/
namespace Go.Proofs.YtlfijfodklhplaaGreat
open Go.RowKit
set_option linter.unusedVariables false
set_option linter.unusedSimpArgs false

theorem ebuf_get {w : World} {g c : Nat} {l : List Ed} (h : EBuf w g l c) (k : Nat) (e : Ed) (hk : l[k]? = some e) :
    w.cell? ⟨g, k * 3, none⟩ = some (.int .i64 e.a) ∧ w.cell? ⟨g, k * 3 + 1, none⟩ = some (.int .i64 e.b) ∧ w.cell? ⟨g, k * 3 + 2, none⟩ = some (.int .i64 e.wt) := by
  obtain ⟨h0, h1, h2⟩ := ecells_get l k e hk
  exact ⟨h.cell _ _ h0, h.cell _ _ h1, h.cell _ _ h2⟩
theorem emarks_at (k : Nat) (h : k < 8) : (emarks 8)[k]? = some ⟨900 + (k : Int), 901, -902⟩ := by
  simp [emarks, h]

theorem nil_eqlE (w : World) (a : Option Addr) (n c : Nat) : (binOp .eql 26 (.slice a n c) (.slice none 0 0)).run Tryz.prog w = .ok (.bool a.isNone) w :=
  Lib.run_eql_slice_nil w 26 30 a n c 0 0 Tryz.underlying26

set_option maxRecDepth 100000 in
set_option maxHeartbeats 1000000 in
theorem returnedE_nil (yb : Nat) (g : Value) (w : World) :
    Calls Tryz.prog 75 #[.pointer (some ⟨yb, 0, none⟩), g, .slice none 0 0] w fun e w' => e = .returned (.bool true) ∧ w = w' := by
  have hnil := nil_eqlE
  go_enter Tryz.func75, Tryz.ntmps75
  go_wp2
  go_ret
  exact ⟨rfl, rfl⟩

set_option maxRecDepth 100000 in
set_option maxHeartbeats 4000000 in
theorem returnedE_rows (yb g c : Nat) (ad : Addr) (cap : Nat) (l : List Ed) (b0 : Option Addr) (nb cb : Nat) (VB : List Value) (p0 p1 p2 p4 p5 p6 p7 : Value) (w : World) (hyb : Blk w yb #[p0, p1, p2, .slice b0 nb cb, p4, p5, p6, p7] 73) (hyg : yb ≠ g)
    (hra : RowIs w b0 nb cb 109 VB (fun b => b = g ∨ b = yb)) (hb : EBuf w g (l ++ emarks 8) c) (hcl : l.length + 8 ≤ c) (hrb : ESl w (some ad) l)
    (hlen : (l.length : Int) ≤ 5864062014700) (hnb : (nb : Int) < 1099511627776) :
    Calls Tryz.prog 75 #[.pointer (some ⟨yb, 0, none⟩), .slice (some ⟨g, 0, none⟩) l.length c, .slice (some ad) l.length cap] w fun e w' =>
      e = .returned (.bool true) ∧ ∃ m, BkE (only g) (w.drewN m) w' yb nb b0 VB p0 p1 p2 p4 p5 p6 p7 := by
  have hnil := nil_eqlE
  have HE : Unit → ∀ k e, l[k]? = some e → w.cell? ⟨g, k * 3, none⟩ = some (.int .i64 e.a) ∧ w.cell? ⟨g, k * 3 + 1, none⟩ = some (.int .i64 e.b) ∧ w.cell? ⟨g, k * 3 + 2, none⟩ = some (.int .i64 e.wt) := fun _ k e hk =>
    ebuf_get hb k e (by rw [List.getElem?_append_left (List.getElem?_eq_some_iff.1 hk).1]; exact hk)
  have HR : Unit → ∀ k e, l[k]? = some e → ∃ bb bo, ad = ⟨bb, bo, none⟩ ∧ w.cell? ⟨bb, bo + k * 3, none⟩ = some (.int .i64 e.a) ∧ w.cell? ⟨bb, bo + k * 3 + 1, none⟩ = some (.int .i64 e.b) ∧ w.cell? ⟨bb, bo + k * 3 + 2, none⟩ = some (.int .i64 e.wt) := fun _ k e hk => by
    obtain ⟨bb, bo, h1, _, h3⟩ := hrb.some (List.getElem?_eq_some_iff.1 hk).1
    cases h1
    exact ⟨bb, bo, rfl, erow_get h3 k e hk⟩
  have HM : Unit → ∀ k, k < 8 → w.cell? ⟨g, (l.length + k) * 3, none⟩ = some (.int .i64 (900 + (k : Int))) ∧ w.cell? ⟨g, (l.length + k) * 3 + 1, none⟩ = some (.int .i64 901) ∧ w.cell? ⟨g, (l.length + k) * 3 + 2, none⟩ = some (.int .i64 (-902)) := fun _ k hk =>
    ebuf_get hb (l.length + k) ⟨900 + (k : Int), 901, -902⟩ (by rw [List.getElem?_append_right (by omega), Nat.add_sub_cancel_left, emarks_at k hk])
  have H : Unit → ∀ m, Calls Tryz.prog 123 #[.pointer (some ⟨yb, 2, none⟩), .slice (some ⟨g, 0, none⟩) l.length c] (w.drewN m) fun e w' => e = .returned (.tuple #[]) ∧ BkE (only g) (w.drewN m) w' yb nb b0 VB p0 p1 p2 p4 p5 p6 p7 := fun _ m => by
    have kd : Keep nil w (w.drewN m) := (Keep.refl nil w).drewN m
    have hl : EBuf w g l c := by
      have := hb.less (ecells l).length
      rw [ecells_append, List.take_left] at this
      exact this
    refine edges_row yb g c l b0 nb cb VB p0 p1 p2 p4 p5 p6 p7 (w.drewN m) (hyb.keep kd (fun e => e)) hyg ?_ (hl.keep kd (fun e => e)) (by omega) (by omega) hnb
    rcases hra with h | ⟨ab, h1, h2, h3, h4⟩
    · exact Or.inl h
    · exact Or.inr ⟨ab, h1, h2.keep kd (fun e => e), h3, h4⟩
  clear hyb hra hb hrb hnb
  have hw8 : IntKind.i64.wrap ((l.length : Int) + 8) = (l.length : Int) + 8 := by rw [IntKind.wrap_i64]; omega
  have hcI : (l.length : Int) + 8 ≤ (c : Int) := by omega
  have HLN : Unit → (l.length : Int) ≤ 5864062014700 := fun _ => hlen
  go_enter Tryz.func75, Tryz.ntmps75
  go_wp2_with fail
  clear hnil
  go_loopw [8, 9] (fun ok i wr => ∃ k m : Nat, k ≤ l.length ∧ i = .int .i64 (k : Int) ∧ ok = .bool true ∧ wr = w.drewN m) (fun _ i _ => l.length - (intOf i).toNat)
  case atStart => exact ⟨0, 0, by omega, rfl, rfl, rfl⟩
  case round =>
    obtain ⟨k, m, hk, rfl, rfl, rfl⟩ := hrel
    by_cases hkl : k < l.length
    · obtain ⟨e, he⟩ : ∃ e, l[k]? = some e := ⟨_, List.getElem?_eq_getElem hkl⟩
      obtain ⟨q0, q1, q2⟩ := HE () k e he
      obtain ⟨bb, bo, rfl, r0, r1, r2⟩ := HR () k e he
      clear he
      go_wp2_with fail
      go_quiet (fail)
      go_wp2
      exact ⟨⟨k + 1, m + nq, by omega, by go_num, rfl, rfl⟩, by simp [intOf]; omega⟩
    · go_wp2_with fail
      go_loopw [8, 10] (fun ok i wr => ∃ k : Nat, k ≤ 8 ∧ i = .int .i64 (k : Int) ∧ ok = .bool true ∧ wr = w.drewN m) (fun _ i _ => 8 - (intOf i).toNat)
      case atStart => exact ⟨0, by omega, rfl, rfl, rfl⟩
      case round =>
        obtain ⟨k, hk, rfl, rfl, rfl⟩ := hrel
        by_cases hk8 : k < 8
        · obtain ⟨q0, q1, q2⟩ := HM () k hk8
          have hkI : (k : Int) < 8 := by omega
          go_wp2
          exact ⟨⟨k + 1, by omega, by go_num, rfl, trivial⟩, by simp [intOf]; omega⟩
        · have e8 : k = 8 := by omega
          subst e8
          clear hlen hcl
          go_wp2_with fail
          refine Calls.mono (H () m) ?_
          rintro e w1 ⟨rfl, hpost⟩
          have HP : Unit → BkE (only g) (w.drewN m) w1 yb nb b0 VB p0 p1 p2 p4 p5 p6 p7 := fun _ => hpost
          clear hpost
          go_wp2
          go_ret
          exact ⟨rfl, m, HP ()⟩
end Go.Proofs.YtlfijfodklhplaaGreat
