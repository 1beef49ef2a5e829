/- Walks of arbor.Encode and arbor.Decode. -/
import Derived.Test.YtlfijfodklhplaaGreatEncode
import Derived.Test.YtlfijfodklhplaaGreatDecode
namespace Go.Proofs.YtlfijfodklhplaaGreat
open Go.RowKit
set_option linter.unusedVariables false

/-- A frame as it lies in cells. -/
abbrev fv (f : Fr.Frm) : Array Value := fc f.data (f.seq : Int) (f.m.kind : Int) (f.m.level : Int) (f.m.name : Int) f.m.finding
/-- A frame that may be. -/
def FrOk (f : Fr.Frm) : Prop := f.seq < 65536 ∧ ((f.data = true ∧ f.m.kind < 256 ∧ f.m.level < 256 ∧ f.m.name < 65536 ∧ may (f.m.kind : Int) (f.m.level : Int) (f.m.name : Int) f.m.finding = true) ∨ (f.data = false ∧ f.m = Fr.none0))
def flen (f : Fr.Frm) : Nat := if f.data then 10 else 5

theorem encode_any (f : Fr.Frm) (hf : FrOk f) (w : World) :
    Calls Tryz.prog 124 #[.agg (fv f)] w fun e w' =>
      ∃ g, e = .returned (.tuple #[.slice (some ⟨g, 0, none⟩) (flen f) 10, .int .i64 0]) ∧ w.heap.size ≤ g ∧ Buf w' g (Fr.enc f) 10 ∧ Keep nil w w' := by
  obtain ⟨d, s, m⟩ := f
  obtain ⟨h0, ⟨h1, h2, h3, h4, h5⟩ | ⟨h1, h2⟩⟩ := hf
  · simp only at h0 h1 h2 h3 h4 h5
    subst h1
    exact encode_msg s h0 m h2 h3 h4 h5 w
  · simp only at h0 h1 h2
    subst h1 h2
    exact encode_ack s h0 w

set_option maxHeartbeats 1000000 in
theorem arborEncode_any (f : Fr.Frm) (hf : FrOk f) (w : World) :
    Calls Tryz.prog 76 #[.agg (fv f)] w fun e w' =>
      ∃ g, e = .returned (.tuple #[.slice (some ⟨g, 0, none⟩) (flen f) 10, .int .i64 0]) ∧ w.heap.size ≤ g ∧ Buf w' g (Fr.enc f) 10 ∧ Keep nil w w' := by
  go_enter Tryz.func76, Tryz.ntmps76
  go_wp2_with fail
  refine (encode_any f hf _).mono ?_
  rintro e w1 ⟨g, rfl, hg, hb, hk⟩
  simp at hg
  go_wp2
  go_ret2
  exact ⟨g, rfl, by omega, hb, ((Keep.refl _ _).alloc _).trans hk⟩

set_option maxHeartbeats 1000000 in
theorem arborDecode_yes (bb bo cap : Nat) (l : List Nat) (w : World) (hrow : Row w bb bo l) (hbb : bb < w.heap.size) (hcap : l.length ≤ cap) (hlen : l.length < 140737488355328) (hb : ∀ x ∈ l, x < 256) (x : Six) (hx : ReadOk l x) :
    Calls Tryz.prog 80 #[.slice (some ⟨bb, bo, none⟩) l.length cap] w fun e w' => e = .returned (.tuple #[.agg (fc x.d x.s x.k x.l x.n x.f), .int .i64 0]) ∧ Keep nil w w' := by
  have r1 := hrow.keep ((Keep.refl nil w).alloc (.cells (fc false 0 0 0 0 false) 78)) hbb (fun e => e)
  go_enter Tryz.func80, Tryz.ntmps80
  go_wp2_with fail
  refine (decode_yes bb bo cap l _ r1 (by simp; omega) hcap hlen hb x hx).mono ?_
  rintro e w1 ⟨rfl, hk1⟩
  have b1 := (Blk.new w (fc false 0 0 0 0 false) 78).keep hk1 (fun e => e)
  have q0 := b1.cell 0
  have q1 := b1.cell 1
  have q2 := b1.cell 2
  have q3 := b1.cell 3
  have q4 := b1.cell 4
  have q5 := b1.cell 5
  have q6 := fun i => b1.frozen i
  simp at q0 q1 q2 q3 q4 q5
  clear hx hrow hb r1
  go_wp2
  have d1 := b1.put6 x.d x.s x.k x.l x.n x.f
  have kk : Keep nil w (put6 w1 w.heap.size x.d x.s x.k x.l x.n x.f) := (((Keep.refl nil w).alloc _).trans hk1).put6 w.heap.size (fun h => by omega) x.d x.s x.k x.l x.n x.f
  have z0 := d1.cell 0
  have z1 := d1.cell 1
  have z2 := d1.cell 2
  have z3 := d1.cell 3
  have z4 := d1.cell 4
  have z5 := d1.cell 5
  simp only [List.getElem?_toArray] at z0 z1 z2 z3 z4 z5
  exact bodyPost_ret (v := .tuple #[.agg (fc x.d x.s x.k x.l x.n x.f), .int .i64 0]) (by simp [results, Tryz.results80, go_sem, z0, z1, z2, z3, z4, z5]) rfl ⟨rfl, kk⟩

set_option maxHeartbeats 1000000 in
theorem arborDecode_no (bb bo cap : Nat) (l : List Nat) (w : World) (hrow : Row w bb bo l) (hbb : bb < w.heap.size) (hcap : l.length ≤ cap) (hlen : l.length < 140737488355328) (hb : ∀ x ∈ l, x < 256) (hno : ∀ x, ¬ ReadOk l x) :
    Calls Tryz.prog 80 #[.slice (some ⟨bb, bo, none⟩) l.length cap] w fun e w' => e = .returned (.tuple #[.agg (fc false 0 0 0 0 false), .int .i64 9]) ∧ Keep nil w w' := by
  have r1 := hrow.keep ((Keep.refl nil w).alloc (.cells (fc false 0 0 0 0 false) 78)) hbb (fun e => e)
  have HN : Hid (∀ x, ¬ ReadOk l x) := hno
  clear hno
  go_enter Tryz.func80, Tryz.ntmps80
  go_wp2_with fail
  refine (decode_no bb bo cap l _ r1 (by simp; omega) hcap hlen hb HN.out).mono ?_
  rintro e w1 ⟨rfl, hk1⟩
  have b1 := (Blk.new w (fc false 0 0 0 0 false) 78).keep hk1 (fun e => e)
  have q0 := b1.cell 0
  have q1 := b1.cell 1
  have q2 := b1.cell 2
  have q3 := b1.cell 3
  have q4 := b1.cell 4
  have q5 := b1.cell 5
  have q6 := fun i => b1.frozen i
  simp at q0 q1 q2 q3 q4 q5
  clear HN hrow hb r1
  go_wp2
  have d1 := b1.put6 false 0 0 0 0 false
  have kk : Keep nil w (put6 w1 w.heap.size false 0 0 0 0 false) := (((Keep.refl nil w).alloc _).trans hk1).put6 w.heap.size (fun h => by omega) false 0 0 0 0 false
  have z0 := d1.cell 0
  have z1 := d1.cell 1
  have z2 := d1.cell 2
  have z3 := d1.cell 3
  have z4 := d1.cell 4
  have z5 := d1.cell 5
  simp only [List.getElem?_toArray] at z0 z1 z2 z3 z4 z5
  exact bodyPost_ret (v := .tuple #[.agg (fc false 0 0 0 0 false), .int .i64 9]) (by simp [results, Tryz.results80, go_sem, z0, z1, z2, z3, z4, z5]) rfl ⟨rfl, kk⟩
end Go.Proofs.YtlfijfodklhplaaGreat
