/- Walk of lent. -/
import Derived.Test.YtlfijfodklhplaaGreatBytes
namespace Go.Proofs.YtlfijfodklhplaaGreat
open Go.RowKit
set_option linter.unusedVariables false

def marks (n : Nat) : List Nat := (List.range n).map (171 + ·)
theorem marks_len (n : Nat) : (marks n).length = n := by simp [marks]
theorem marks_succ (n : Nat) : marks (n + 1) = marks n ++ [171 + n] := by simp [marks, List.range_succ]

/-- What 'lent' has so far: nothing, or a row of its own. -/
def LState (w wr : World) (l : List Nat) (i : Nat) (v : Value) : Prop := Keep nil w wr ∧
  ((l ++ marks i = [] ∧ v = .slice none 0 0) ∨ ∃ g c, v = .slice (some ⟨g, 0, none⟩) (l.length + i) c ∧ w.heap.size ≤ g ∧ BRow wr g (l ++ marks i) c ∧ l.length + i ≤ c)

/-- Bytes in memory: none, or a row. -/
def BSl (w : World) (ad : Addr) (l : List Nat) : Prop := l = [] ∨ ∃ bb bo, ad = ⟨bb, bo, none⟩ ∧ bb < w.heap.size ∧ Row w bb bo l
theorem BSl.keep {w w' : World} {ad : Addr} {l : List Nat} (h : BSl w ad l) (k : Keep nil w w') : BSl w' ad l :=
  h.imp id (fun ⟨bb, bo, h1, h2, h3⟩ => ⟨bb, bo, h1, Nat.lt_of_lt_of_le h2 k.size, h3.keep k h2 (fun e => e)⟩)

set_option maxRecDepth 100000 in
theorem lent_nil (w : World) : Calls Tryz.prog 79 #[.slice none 0 0] w fun e w' => e = .returned (.slice none 0 0) ∧ w = w' := by
  have hnil : ∀ (w : World) (a : Option Addr) (n c : Nat), (binOp .eql 56 (.slice a n c) (.slice none 0 0)).run Tryz.prog w = .ok (.bool a.isNone) w := fun w a n c => Lib.run_eql_slice_nil w 56 5 a n c 0 0 Tryz.underlying56
  go_enter Tryz.func79, Tryz.ntmps79
  go_wp2
  go_ret
  exact ⟨rfl, rfl⟩

set_option maxRecDepth 100000 in
set_option maxHeartbeats 1000000 in
theorem lent_any (bb bo cap : Nat) (l : List Nat) (w : World) (hrow : Row w bb bo l) (hbb : bb < w.heap.size) (hlen : (l.length : Int) ≤ 140737488351232) (hne : 0 < l.length) :
    Calls Tryz.prog 79 #[.slice (some ⟨bb, bo, none⟩) l.length cap] w fun e w' =>
      ∃ g c, e = .returned (.slice (some ⟨g, 0, none⟩) l.length c) ∧ w.heap.size ≤ g ∧ BRow w' g (l ++ marks 8) c ∧ l.length + 8 ≤ c ∧ Keep nil w w' := by
  have hnil : ∀ (w : World) (a : Option Addr) (n c : Nat), (binOp .eql 56 (.slice a n c) (.slice none 0 0)).run Tryz.prog w = .ok (.bool a.isNone) w := fun w a n c => Lib.run_eql_slice_nil w 56 5 a n c 0 0 Tryz.underlying56
  go_enter Tryz.func79, Tryz.ntmps79
  go_wp2_with (at_builtin; refine wpList_append_new _ rfl (.tmp 7) (.tmp 8) 56 rfl 5 (.int .u8 0) 1 1 Tryz.underlying56 u8_info rfl rfl ⟨bb, bo, none⟩ l.length cap hne rfl (l.map bv) (by simp) (cells_row hrow) (by omega) (by omega) ?_; intro k' w1 hb1 hc1 hk1)
  clear hnil
  go_loopw [3, 4] (fun v i wr => ∃ k : Nat, k ≤ 8 ∧ i = .int .i64 (k : Int) ∧ LState w wr l k v) (fun _ i _ => 8 - (intOf i).toNat)
  case atStart => exact ⟨0, by omega, rfl, hk1, Or.inr ⟨w.heap.size, k', rfl, Nat.le_refl _, by simpa [marks] using hb1, by omega⟩⟩
  case round =>
    obtain ⟨k, hk, rfl, hkeep, hst⟩ := hrel
    have hsz := hkeep.size
    have hkI : (k : Int) ≤ 8 := by omega
    rcases hst with ⟨he, rfl⟩ | ⟨g, c, rfl, hg, hb, hc⟩
    · exfalso
      have := (List.append_eq_nil_iff.1 he).1
      subst this
      simp at hne
    · have hgl := hb.lt
      by_cases hk8 : k < 8
      · go_wp2_with (at_builtin; refine wpList_append_any _ rfl (.tmp 14) (.tmp 18) 56 rfl 5 (.int .u8 0) 1 1 Tryz.underlying56 u8_info rfl g (l.length + k) c rfl ((l ++ marks k).map bv) (by simp [marks_len]) (hb.alloc _) ⟨wr.heap.size, 0, none⟩ 1 1 rfl ([171 + k].map bv) rfl (cells_list wr ([171 + k].map bv) 5 _ rfl) (bv_one _) (by omega) (by omega) ?_; intro g' c' w2 hb2 hc2 hd2 hk2)
        go_roundw
        case rel =>
          refine ⟨k + 1, by omega, by go_num, hkeep.trans' (((Keep.refl (only g) wr).alloc _).trans hk2) (fun i hi e => by simp only [only] at e; omega), Or.inr ⟨g', c', by rw [Nat.add_assoc], ?_, ?_, by omega⟩⟩
          · rcases hd2 with ⟨rfl, _⟩ | ⟨rfl, _⟩
            · exact hg
            · simp; omega
          · have e : (l ++ marks (k + 1)).map bv = (l ++ marks k).map bv ++ [171 + k].map bv := by rw [marks_succ]; simp
            show VBuf _ _ _ _ _ _
            rw [e]; exact hb2
        case measure => simp [intOf]; omega
      · have e8 : k = 8 := by omega
        subst e8
        go_wp2
        go_ret
        exact ⟨g, c, rfl, hg, hb, hc, hkeep⟩

set_option maxRecDepth 100000 in
set_option maxHeartbeats 1000000 in
theorem lent_empty (ad : Addr) (cap : Nat) (w : World) :
    Calls Tryz.prog 79 #[.slice (some ad) 0 cap] w fun e w' =>
      ∃ g c, e = .returned (.slice (some ⟨g, 0, none⟩) 0 c) ∧ w.heap.size ≤ g ∧ BRow w' g ([] ++ marks 8) c ∧ 8 ≤ c ∧ Keep nil w w' := by
  have hnil : ∀ (w : World) (a : Option Addr) (n c : Nat), (binOp .eql 56 (.slice a n c) (.slice none 0 0)).run Tryz.prog w = .ok (.bool a.isNone) w := fun w a n c => Lib.run_eql_slice_nil w 56 5 a n c 0 0 Tryz.underlying56
  go_enter Tryz.func79, Tryz.ntmps79
  go_wp2
  clear hnil
  go_loopw [3, 4] (fun v i wr => ∃ k : Nat, k ≤ 8 ∧ i = .int .i64 (k : Int) ∧ LState w wr [] k v) (fun _ i _ => 8 - (intOf i).toNat)
  case atStart => exact ⟨0, by omega, rfl, Keep.refl _ _, Or.inl ⟨rfl, rfl⟩⟩
  case round =>
    obtain ⟨k, hk, rfl, hkeep, hst⟩ := hrel
    have hsz := hkeep.size
    have hkI : (k : Int) ≤ 8 := by omega
    rcases hst with ⟨he, rfl⟩ | ⟨g, c, rfl, hg, hb, hc⟩
    · have hk0 : k = 0 := by
        have := congrArg List.length he
        simp [marks_len] at this
        exact this
      subst hk0
      go_wp2_with (at_builtin; refine wpList_append_new _ rfl (.tmp 14) (.tmp 18) 56 rfl 5 (.int .u8 0) 1 1 Tryz.underlying56 u8_info rfl rfl ⟨wr.heap.size, 0, none⟩ 1 1 (by omega) rfl ([171].map bv) rfl (cells_list wr ([171].map bv) 5 _ rfl) (by omega) (by omega) ?_; intro c' w2 hb2 hc2 hk2)
      go_roundw
      case rel =>
        rw [World.size_alloc] at hb2
        exact ⟨1, by omega, by go_num, (hkeep.alloc _).trans hk2, Or.inr ⟨wr.heap.size + 1, c', rfl, by omega, hb2, by simpa using hc2⟩⟩
      case measure => simp [intOf]
    · have hgl := hb.lt
      simp only [List.length_nil, Nat.zero_add] at hb hc ⊢
      by_cases hk8 : k < 8
      · go_wp2_with (at_builtin; refine wpList_append_any _ rfl (.tmp 14) (.tmp 18) 56 rfl 5 (.int .u8 0) 1 1 Tryz.underlying56 u8_info rfl g k c rfl (([] ++ marks k).map bv) (by simp [marks_len]) (hb.alloc _) ⟨wr.heap.size, 0, none⟩ 1 1 rfl ([171 + k].map bv) rfl (cells_list wr ([171 + k].map bv) 5 _ rfl) (bv_one _) (by omega) (by omega) ?_; intro g' c' w2 hb2 hc2 hd2 hk2)
        go_roundw
        case rel =>
          refine ⟨k + 1, by omega, by go_num, hkeep.trans' (((Keep.refl (only g) wr).alloc _).trans hk2) (fun i hi e => by simp only [only] at e; omega), Or.inr ⟨g', c', by simp, ?_, ?_, by simpa using hc2⟩⟩
          · rcases hd2 with ⟨rfl, _⟩ | ⟨rfl, _⟩
            · exact hg
            · simp; omega
          · have e : ([] ++ marks (k + 1)).map bv = ([] ++ marks k).map bv ++ [171 + k].map bv := by rw [marks_succ]; simp
            show VBuf _ _ _ _ _ _
            rw [e]; exact hb2
        case measure => simp [intOf]; omega
      · have e8 : k = 8 := by omega
        subst e8
        go_wp2
        go_ret
        exact ⟨g, c, rfl, hg, hb, hc, hkeep⟩
end Go.Proofs.YtlfijfodklhplaaGreat
