/- Walk of told: bytes that came out are their owner's. -/
import Derived.Test.YtlfijfodklhplaaGreatBookN
import Derived.Test.YtlfijfodklhplaaGreatStr
namespace Go.Proofs.YtlfijfodklhplaaGreat
open Go.RowKit
set_option linter.unusedVariables false

/-- What the book's bytes leaves: one sheet more, marked; nothing else that was there has turned but G's blocks, the Play and the row of sheets. -/
def BkB (G : Nat → Prop) (w w' : World) (yb na : Nat) (a0 : Option Addr) (VA : List Value) (p0 p1 p3 p4 p5 p6 p7 : Value) : Prop :=
  ∃ (S : List Lst) (nb ab ca' : Nat),
    Blk w' yb #[p0, p1, .slice (some ⟨ab, 0, none⟩) (na + 1) ca', p3, p4, p5, p6, p7] 73 ∧
    VBuf w' ab 106 1 (VA ++ [.slice (some ⟨nb, 0, none⟩) 4 4]) ca' ∧ (a0 = some ⟨ab, 0, none⟩ ∨ w.heap.size ≤ ab) ∧
    Blk w' nb (S.map Lst.val).toArray 56 ∧ w.heap.size ≤ nb ∧ nb ≠ ab ∧ S.length = 4 ∧
    (∀ t ∈ S, t.marked w' na ∧ (t.n : Int) ≤ 140737488351310 ∧ ∀ b, t.b = some b → (G b ∨ w.heap.size ≤ b) ∧ b ≠ ab ∧ b < w'.heap.size) ∧
    Keep (fun b => G b ∨ b = yb ∨ a0 = some ⟨b, 0, none⟩) w w'

theorem buf_brow {w : World} {g : Nat} {l : List Nat} {c : Nat} (h : Buf w g l c) : BRow w g l c := by
  obtain ⟨sp, hb, hc⟩ := h
  exact ⟨sp, hb, by simp; omega⟩

set_option maxRecDepth 100000 in
set_option maxHeartbeats 1000000 in
theorem told_rows (yb g c gb ob cb : Nat) (l : List Nat) (a0 : Option Addr) (na ca : Nat) (VA : List Value) (p0 p1 p3 p4 p5 p6 p7 : Value) (w : World) (hyb : Blk w yb #[p0, p1, .slice a0 na ca, p3, p4, p5, p6, p7] 73) (hyg : yb ≠ g)
    (hra : RowIs w a0 na ca 106 VA (fun b => b = g ∨ b = yb)) (hb : BRow w g l c) (hcl : l.length ≤ c) (hrb : Row w gb ob l)
    (hlen : (l.length : Int) ≤ 140737488351300) (hna : (na : Int) < 1099511627776) :
    Calls Tryz.prog 78 #[.pointer (some ⟨yb, 0, none⟩), .slice (some ⟨g, 0, none⟩) l.length c, .slice (some ⟨gb, ob, none⟩) l.length cb] w fun e w' =>
      e = .returned (.bool true) ∧ BkB (only g) w w' yb na a0 VA p0 p1 p3 p4 p5 p6 p7 := by
  have s1 := conv_row w g 0 c l (brow_row hb)
  have s2 := conv_row w gb ob cb l hrb
  have H := bytes_row yb g c l a0 na ca VA p0 p1 p3 p4 p5 p6 p7 w hyb hyg hra hb hcl hlen hna
  have HB : Hid _ := H
  clear H hyb hra hb hrb
  generalize bstr l = t1 at *
  go_enter Tryz.func78, Tryz.ntmps78
  go_wp2_with fail
  refine Calls.mono HB.out ?_
  rintro e w1 ⟨rfl, hpost⟩
  have HP : Unit → BkB (only g) w w1 yb na a0 VA p0 p1 p3 p4 p5 p6 p7 := fun _ => hpost
  clear hpost HB s1 s2
  go_wp2
  go_ret
  exact ⟨rfl, HP ()⟩

set_option maxRecDepth 100000 in
set_option maxHeartbeats 1000000 in
theorem told_nils (yb : Nat) (a0 : Option Addr) (na ca : Nat) (VA : List Value) (p0 p1 p3 p4 p5 p6 p7 : Value) (w : World) (hyb : Blk w yb #[p0, p1, .slice a0 na ca, p3, p4, p5, p6, p7] 73)
    (hra : RowIs w a0 na ca 106 VA (fun b => b = yb)) (hna : (na : Int) < 1099511627776) :
    Calls Tryz.prog 78 #[.pointer (some ⟨yb, 0, none⟩), .slice none 0 0, .slice none 0 0] w fun e w' =>
      e = .returned (.bool true) ∧ BkB nil w w' yb na a0 VA p0 p1 p3 p4 p5 p6 p7 := by
  have s1 := conv_nil w
  have H := bytes_nil yb a0 na ca VA p0 p1 p3 p4 p5 p6 p7 w hyb hra hna
  have HB : Hid _ := H
  clear H hyb hra
  generalize bstr [] = t1 at *
  go_enter Tryz.func78, Tryz.ntmps78
  go_wp2_with fail
  refine Calls.mono HB.out ?_
  rintro e w1 ⟨rfl, hpost⟩
  have HP : Unit → BkB nil w w1 yb na a0 VA p0 p1 p3 p4 p5 p6 p7 := fun _ => hpost
  clear hpost HB s1
  go_wp2
  go_ret
  exact ⟨rfl, HP ()⟩
end Go.Proofs.YtlfijfodklhplaaGreat
