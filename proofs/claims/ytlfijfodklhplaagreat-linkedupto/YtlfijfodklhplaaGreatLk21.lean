import Derived.Test.YtlfijfodklhplaaGreatLk19
/- The small questions of Check. -/
namespace Go.Proofs.YtlfijfodklhplaaGreat
open Go.RowKit
set_option linter.unusedVariables false
set_option linter.unusedSimpArgs false

abbrev edv (e : Ed) : Value := .agg #[.int .i64 e.a, .int .i64 e.b, .int .i64 e.wt]
def strayB (n : Int) (e : Ed) : Bool := !(decide (0 ≤ e.a) && decide (e.a < n)) || !(decide (0 ≤ e.b) && decide (e.b < n)) || (e.a == e.b)
def heavyB (e : Ed) : Bool := decide (e.wt < 1) || decide (1000 < e.wt)
def sameWB (e f : Ed) : Bool := e.wt == f.wt
def sameEB (e f : Ed) : Bool := (e.a == f.a && e.b == f.b) || (e.a == f.b && e.b == f.a)

theorem ecells_get (l : List Ed) : ∀ (k : Nat) (e : Ed), l[k]? = some e → (ecells l)[k * 3]? = some (.int .i64 e.a) ∧ (ecells l)[k * 3 + 1]? = some (.int .i64 e.b) ∧ (ecells l)[k * 3 + 2]? = some (.int .i64 e.wt) := by
  induction l with
  | nil => intro k e h; simp at h
  | cons x t ih =>
    intro k e h
    have hc : ecells (x :: t) = x.cells ++ ecells t := by simp [ecells]
    rw [hc]
    cases k with
    | zero =>
      simp at h
      subst h
      exact ⟨rfl, rfl, rfl⟩
    | succ k =>
      rw [List.getElem?_cons_succ] at h
      have := ih k e h
      have hl : x.cells.length = 3 := rfl
      rw [List.getElem?_append_right (by omega), List.getElem?_append_right (by omega), List.getElem?_append_right (by omega), hl]
      rw [show (k + 1) * 3 - 3 = k * 3 by omega, show (k + 1) * 3 + 1 - 3 = k * 3 + 1 by omega, show (k + 1) * 3 + 2 - 3 = k * 3 + 2 by omega]
      exact this
theorem erow_get {w : World} {b o : Nat} {l : List Ed} (h : ERow w b o l) (k : Nat) (e : Ed) (hk : l[k]? = some e) :
    w.cell? ⟨b, o + k * 3, none⟩ = some (.int .i64 e.a) ∧ w.cell? ⟨b, o + k * 3 + 1, none⟩ = some (.int .i64 e.b) ∧ w.cell? ⟨b, o + k * 3 + 2, none⟩ = some (.int .i64 e.wt) := by
  obtain ⟨h0, h1, h2⟩ := ecells_get l k e hk
  exact ⟨h _ _ h0, h _ _ h1, h _ _ h2⟩
/-- A list of edges, nil or a row. -/
def ESl (w : World) (sa : Option Addr) (es : List Ed) : Prop := es = [] ∨ ∃ bb bo, sa = some ⟨bb, bo, none⟩ ∧ bb < w.heap.size ∧ ERow w bb bo es
theorem ESl.keep {w w' : World} {sa : Option Addr} {es : List Ed} (h : ESl w sa es) (k : Keep nil w w') : ESl w' sa es :=
  h.imp id (fun ⟨bb, bo, h1, h2, h3⟩ => ⟨bb, bo, h1, Nat.lt_of_lt_of_le h2 k.size, h3.keep k h2 (fun e => e)⟩)
theorem ESl.some {w : World} {sa : Option Addr} {es : List Ed} (h : ESl w sa es) {i : Nat} (hi : i < es.length) : ∃ bb bo, sa = some ⟨bb, bo, none⟩ ∧ bb < w.heap.size ∧ ERow w bb bo es := by
  rcases h with h | h
  · rw [h] at hi; simp at hi
  · exact h
theorem mem_take_succ {es : List Ed} {k : Nat} {e : Ed} (he : es[k]? = some e) {x : Ed} : x ∈ es.take (k + 1) ↔ x ∈ es.take k ∨ x = e := by
  rw [List.take_add_one, he]; simp

theorem isNode_any (k n : Int) (w : World) : Calls Tryz.prog 50 #[.int .i64 k, .int .i64 n] w fun r w' => r = .returned (.bool (decide (0 ≤ k) && decide (k < n))) ∧ w = w' := by
  go_enter Tryz.func50, Tryz.ntmps50
  go_wp2
  all_goals
    go_ret
    refine ⟨?_, rfl⟩
    simp_all <;> omega

set_option maxRecDepth 100000 in
set_option maxHeartbeats 400000 in
theorem weighsWrong_any (e : Ed) (w : World) : Calls Tryz.prog 52 #[edv e] w fun r w' => r = .returned (.bool (heavyB e)) ∧ Keep nil w w' := by
  obtain ⟨a, b, wt⟩ := e
  go_enter Tryz.func52, Tryz.ntmps52
  go_wp2
  all_goals
    go_ret
    refine ⟨?_, (Keep.refl nil w).alloc _⟩
    simp_all [heavyB]

set_option maxRecDepth 100000 in
set_option maxHeartbeats 400000 in
theorem weighAlike_any (e f : Ed) (w : World) : Calls Tryz.prog 54 #[edv e, edv f] w fun r w' => r = .returned (.bool (sameWB e f)) ∧ Keep nil w w' := by
  obtain ⟨a, b, wt⟩ := e
  obtain ⟨a2, b2, wt2⟩ := f
  go_enter Tryz.func54, Tryz.ntmps54
  go_wp2
  all_goals
    go_ret
    refine ⟨?_, ((Keep.refl nil w).alloc _).alloc _⟩
    simp_all [sameWB]

set_option maxRecDepth 100000 in
set_option maxHeartbeats 400000 in
theorem joinAlike_any (e f : Ed) (w : World) : Calls Tryz.prog 55 #[edv e, edv f] w fun r w' => r = .returned (.bool (sameEB e f)) ∧ Keep nil w w' := by
  obtain ⟨a, b, wt⟩ := e
  obtain ⟨a2, b2, wt2⟩ := f
  go_enter Tryz.func55, Tryz.ntmps55
  go_wp2
  all_goals
    go_ret
    refine ⟨?_, ((Keep.refl nil w).alloc _).alloc _⟩
    simp_all [sameEB]

set_option maxRecDepth 100000 in
set_option maxHeartbeats 400000 in
theorem strays_any (nb : Nat) (n : Int) (e : Ed) (w : World) (hn : w.cell? ⟨nb, 0, none⟩ = some (.int .i64 n)) :
    Calls Tryz.prog 49 #[edv e, .pointer (some ⟨nb, 0, none⟩)] w fun r w' => r = .returned (.bool (strayB n e)) ∧ Keep nil w w' := by
  obtain ⟨a, b, wt⟩ := e
  have hl := World.block_lt_of_cell? w _ hn
  simp only at hl
  have HI : Unit → ∀ k w, Calls Tryz.prog 50 #[.int .i64 k, .int .i64 n] w fun r w' => r = .returned (.bool (decide (0 ≤ k) && decide (k < n))) ∧ w = w' := fun _ k w => isNode_any k n w
  go_enter Tryz.func49, Tryz.ntmps49
  go_wp2_with fail
  refine (HI () _ _).mono ?_
  rintro r w' ⟨rfl, rfl⟩
  cases hA : (decide (0 ≤ a) && decide (a < n))
  · go_wp2
    go_ret
    refine ⟨?_, ((Keep.refl nil w).alloc _)⟩
    simp_all [strayB] <;> omega
  · go_wp2_with fail
    refine (HI () _ _).mono ?_
    rintro r w' ⟨rfl, rfl⟩
    cases hB : (decide (0 ≤ b) && decide (b < n))
    · go_wp2
      go_ret
      refine ⟨?_, ((Keep.refl nil w).alloc _)⟩
      simp_all [strayB] <;> omega
    · go_wp2
      all_goals
        go_ret
        refine ⟨?_, ((Keep.refl nil w).alloc _)⟩
        simp_all [strayB]
end Go.Proofs.YtlfijfodklhplaaGreat
/- Questions of Check over all edges, and over any two. -/
namespace Go.Proofs.YtlfijfodklhplaaGreat
open Go.RowKit
set_option linter.unusedVariables false
set_option linter.unusedSimpArgs false

theorem mkfn : ∀ (fn : Fn) (first cap : Array Value) (w : World), (Instr.makeFunc fn first cap).run Tryz.prog w = .ok (.func fn first cap) w := fun _ _ _ _ => rfl

set_option maxRecDepth 100000 in
set_option maxHeartbeats 400000 in
theorem index_strays (nb : Nat) (n : Int) (sa : Option Addr) (es : List Ed) (cp : Nat) (w : World) (hsl : ESl w sa es) (hlen : es.length ≤ 30) (hn : w.cell? ⟨nb, 0, none⟩ = some (.int .i64 n)) :
    Calls Tryz.prog 101 #[.slice sa es.length cp, .func (.func 49) #[] #[.pointer (some ⟨nb, 0, none⟩)]] w fun r w' => ∃ z : Int, r = .returned (.int .i64 z) ∧ (0 ≤ z ↔ ∃ e ∈ es, strayB n e = true) ∧ Keep nil w w' := by
  have HB : Unit → ESl w sa es ∧ es.length ≤ 30 := fun _ => ⟨hsl, hlen⟩
  have HC : Unit → ∀ e w1, Keep nil w w1 → Calls Tryz.prog 49 #[edv e, .pointer (some ⟨nb, 0, none⟩)] w1 fun r w' => r = .returned (.bool (strayB n e)) ∧ Keep nil w1 w' := fun _ e w1 k1 => strays_any nb n e w1 ((k1.cell nb 0 (World.block_lt_of_cell? w _ hn) (fun e => e)).trans hn)
  clear hsl hlen
  go_enter Tryz.func101, Tryz.ntmps101
  go_wp2_with fail
  go_loopw [8] (fun v wr => ∃ k : Nat, k ≤ es.length ∧ v = .int .i64 (k : Int) ∧ Keep nil w wr ∧ ∀ e ∈ es.take k, strayB n e = false) (fun v _ => es.length - (intOf v).toNat)
  case atStart => exact ⟨0, by omega, rfl, Keep.refl _ _, fun e he => by simp at he⟩
  case round =>
    obtain ⟨k, hk, rfl, hkw, hall⟩ := hrel
    have HR : Unit → Keep nil w wr ∧ ∀ e ∈ es.take k, strayB n e = false := fun _ => ⟨hkw, hall⟩
    clear hkw hall
    by_cases hil : k < es.length
    · obtain ⟨e, he⟩ : ∃ e, es[k]? = some e := ⟨_, List.getElem?_eq_getElem hil⟩
      obtain ⟨bb, bo, rfl, hbb, hrow⟩ := (HB ()).1.some hil
      obtain ⟨q0, q1, q2⟩ := erow_get (hrow.keep (HR ()).1 hbb (fun e => e)) k e he
      have hbw : bb < wr.heap.size := Nat.lt_of_lt_of_le hbb (HR ()).1.size
      have hiI : (k : Int) < (es.length : Int) := by omega
      have hwi : (k : Int) < 1000 := by have := HB (); omega
      have HE : Unit → es[k]? = some e := fun _ => he
      have hc := HC () e wr (HR ()).1
      obtain ⟨ea, eb, ew⟩ := e
      simp only at q0 q1 q2
      clear he hrow hbb
      generalize hp : strayB n ⟨ea, eb, ew⟩ = pe at hc
      have HP : Unit → strayB n ⟨ea, eb, ew⟩ = pe := fun _ => hp
      clear hp
      go_wp2_with fail
      refine hc.mono ?_
      rintro r w' ⟨rfl, hk2⟩
      have HK : Unit → Keep nil w w' := fun _ => (HR ()).1.trans hk2
      clear hk2 hc q0 q1 q2
      cases pe
      · go_wp2
        go_roundw
        case rel =>
          refine ⟨k + 1, by omega, by go_num, HK (), fun x hx => ?_⟩
          rcases (mem_take_succ (HE ())).1 hx with hx | rfl
          · exact (HR ()).2 x hx
          · exact HP ()
        case measure => simp [intOf]; omega
      · go_wp2
        go_ret
        exact ⟨k, rfl, ⟨fun _ => ⟨_, List.mem_of_getElem? (HE ()), HP ()⟩, fun _ => by omega⟩, HK ()⟩
    · have ek : k = es.length := by omega
      subst ek
      go_wp2
      go_ret
      refine ⟨-1, rfl, ⟨fun h => by omega, fun ⟨e, he, hp⟩ => ?_⟩, (HR ()).1⟩
      rw [(HR ()).2 e (by rw [List.take_length]; exact he)] at hp
      cases hp

theorem contains_strays (nb : Nat) (n : Int) (sa : Option Addr) (es : List Ed) (cp : Nat) (w : World) (hsl : ESl w sa es) (hlen : es.length ≤ 30) (hn : w.cell? ⟨nb, 0, none⟩ = some (.int .i64 n)) :
    Calls Tryz.prog 51 #[.slice sa es.length cp, .func (.func 49) #[] #[.pointer (some ⟨nb, 0, none⟩)]] w fun r w' => ∃ b : Bool, r = .returned (.bool b) ∧ (b = true ↔ ∃ e ∈ es, strayB n e = true) ∧ Keep nil w w' := by
  have HI : Unit → _ := fun _ => index_strays nb n sa es cp w hsl hlen hn
  clear hsl hlen
  go_enter Tryz.func51, Tryz.ntmps51
  go_wp2_with fail
  refine Calls.mono (HI ()) ?_
  rintro r w' ⟨z, rfl, hz, hk⟩
  clear HI
  have HZ : Unit → (0 ≤ z ↔ ∃ e ∈ es, strayB n e = true) ∧ Keep nil w w' := fun _ => ⟨hz, hk⟩
  clear hz hk
  go_wp2
  go_ret
  exact ⟨_, rfl, by rw [← (HZ ()).1]; simp, (HZ ()).2⟩

set_option maxRecDepth 100000 in
set_option maxHeartbeats 400000 in
theorem index_heavy (sa : Option Addr) (es : List Ed) (cp : Nat) (w : World) (hsl : ESl w sa es) (hlen : es.length ≤ 30) :
    Calls Tryz.prog 101 #[.slice sa es.length cp, .func (.func 52) #[] #[]] w fun r w' => ∃ z : Int, r = .returned (.int .i64 z) ∧ (0 ≤ z ↔ ∃ e ∈ es, heavyB e = true) ∧ Keep nil w w' := by
  have HB : Unit → ESl w sa es ∧ es.length ≤ 30 := fun _ => ⟨hsl, hlen⟩
  have HC : Unit → ∀ e w1, Keep nil w w1 → Calls Tryz.prog 52 #[edv e] w1 fun r w' => r = .returned (.bool (heavyB e)) ∧ Keep nil w1 w' := fun _ e w1 k1 => weighsWrong_any e w1
  clear hsl hlen
  go_enter Tryz.func101, Tryz.ntmps101
  go_wp2_with fail
  go_loopw [8] (fun v wr => ∃ k : Nat, k ≤ es.length ∧ v = .int .i64 (k : Int) ∧ Keep nil w wr ∧ ∀ e ∈ es.take k, heavyB e = false) (fun v _ => es.length - (intOf v).toNat)
  case atStart => exact ⟨0, by omega, rfl, Keep.refl _ _, fun e he => by simp at he⟩
  case round =>
    obtain ⟨k, hk, rfl, hkw, hall⟩ := hrel
    have HR : Unit → Keep nil w wr ∧ ∀ e ∈ es.take k, heavyB e = false := fun _ => ⟨hkw, hall⟩
    clear hkw hall
    by_cases hil : k < es.length
    · obtain ⟨e, he⟩ : ∃ e, es[k]? = some e := ⟨_, List.getElem?_eq_getElem hil⟩
      obtain ⟨bb, bo, rfl, hbb, hrow⟩ := (HB ()).1.some hil
      obtain ⟨q0, q1, q2⟩ := erow_get (hrow.keep (HR ()).1 hbb (fun e => e)) k e he
      have hbw : bb < wr.heap.size := Nat.lt_of_lt_of_le hbb (HR ()).1.size
      have hiI : (k : Int) < (es.length : Int) := by omega
      have hwi : (k : Int) < 1000 := by have := HB (); omega
      have HE : Unit → es[k]? = some e := fun _ => he
      have hc := HC () e wr (HR ()).1
      obtain ⟨ea, eb, ew⟩ := e
      simp only at q0 q1 q2
      clear he hrow hbb
      generalize hp : heavyB ⟨ea, eb, ew⟩ = pe at hc
      have HP : Unit → heavyB ⟨ea, eb, ew⟩ = pe := fun _ => hp
      clear hp
      go_wp2_with fail
      refine hc.mono ?_
      rintro r w' ⟨rfl, hk2⟩
      have HK : Unit → Keep nil w w' := fun _ => (HR ()).1.trans hk2
      clear hk2 hc q0 q1 q2
      cases pe
      · go_wp2
        go_roundw
        case rel =>
          refine ⟨k + 1, by omega, by go_num, HK (), fun x hx => ?_⟩
          rcases (mem_take_succ (HE ())).1 hx with hx | rfl
          · exact (HR ()).2 x hx
          · exact HP ()
        case measure => simp [intOf]; omega
      · go_wp2
        go_ret
        exact ⟨k, rfl, ⟨fun _ => ⟨_, List.mem_of_getElem? (HE ()), HP ()⟩, fun _ => by omega⟩, HK ()⟩
    · have ek : k = es.length := by omega
      subst ek
      go_wp2
      go_ret
      refine ⟨-1, rfl, ⟨fun h => by omega, fun ⟨e, he, hp⟩ => ?_⟩, (HR ()).1⟩
      rw [(HR ()).2 e (by rw [List.take_length]; exact he)] at hp
      cases hp

theorem contains_heavy (sa : Option Addr) (es : List Ed) (cp : Nat) (w : World) (hsl : ESl w sa es) (hlen : es.length ≤ 30) :
    Calls Tryz.prog 51 #[.slice sa es.length cp, .func (.func 52) #[] #[]] w fun r w' => ∃ b : Bool, r = .returned (.bool b) ∧ (b = true ↔ ∃ e ∈ es, heavyB e = true) ∧ Keep nil w w' := by
  have HI : Unit → _ := fun _ => index_heavy sa es cp w hsl hlen
  clear hsl hlen
  go_enter Tryz.func51, Tryz.ntmps51
  go_wp2_with fail
  refine Calls.mono (HI ()) ?_
  rintro r w' ⟨z, rfl, hz, hk⟩
  clear HI
  have HZ : Unit → (0 ≤ z ↔ ∃ e ∈ es, heavyB e = true) ∧ Keep nil w w' := fun _ => ⟨hz, hk⟩
  clear hz hk
  go_wp2
  go_ret
  exact ⟨_, rfl, by rw [← (HZ ()).1]; simp, (HZ ()).2⟩
end Go.Proofs.YtlfijfodklhplaaGreat
/- Questions of Check over all edges, and over any two. -/
namespace Go.Proofs.YtlfijfodklhplaaGreat
open Go.RowKit
set_option linter.unusedVariables false
set_option linter.unusedSimpArgs false

set_option maxRecDepth 100000 in
set_option maxHeartbeats 400000 in
theorem anyTwo_weight (sa : Option Addr) (es : List Ed) (cp : Nat) (w : World) (hsl : ESl w sa es) (hlen : es.length ≤ 30) (hcp : es.length ≤ cp) :
    Calls Tryz.prog 53 #[.slice sa es.length cp, .func (.func 54) #[] #[]] w fun r w' => ∃ b : Bool, r = .returned (.bool b) ∧ (b = true ↔ ∃ (i j : Nat) (e f : Ed), j < i ∧ es[i]? = some e ∧ es[j]? = some f ∧ sameWB e f = true) ∧ Keep nil w w' := by
  have HB : Unit → ESl w sa es ∧ es.length ≤ 30 := fun _ => ⟨hsl, hlen⟩
  have HC : Unit → ∀ e f w1, Calls Tryz.prog 54 #[edv e, edv f] w1 fun r w' => r = .returned (.bool (sameWB e f)) ∧ Keep nil w1 w' := fun _ e f w1 => weighAlike_any e f w1
  clear hsl hlen
  go_enter Tryz.func53, Tryz.ntmps53
  go_wp2_with fail
  go_loopw [11] (fun v wr => ∃ k : Nat, k ≤ es.length ∧ v = .int .i64 (k : Int) ∧ Keep nil w wr ∧ ∀ (i j : Nat) (e f : Ed), i < k → j < i → es[i]? = some e → es[j]? = some f → sameWB e f = false) (fun v _ => es.length - (intOf v).toNat)
  case atStart => exact ⟨0, by omega, rfl, Keep.refl _ _, fun i j e f h => by omega⟩
  case round =>
    obtain ⟨k, hk, rfl, hkw, hall⟩ := hrel
    have HR : Unit → Keep nil w wr ∧ ∀ (i j : Nat) (e f : Ed), i < k → j < i → es[i]? = some e → es[j]? = some f → sameWB e f = false := fun _ => ⟨hkw, hall⟩
    clear hkw hall
    by_cases hil : k < es.length
    · obtain ⟨e, he⟩ : ∃ e, es[k]? = some e := ⟨_, List.getElem?_eq_getElem hil⟩
      obtain ⟨bb, bo, rfl, hbb, hrow⟩ := (HB ()).1.some hil
      obtain ⟨q0, q1, q2⟩ := erow_get (hrow.keep (HR ()).1 hbb (fun e => e)) k e he
      have hbw : bb < wr.heap.size := Nat.lt_of_lt_of_le hbb (HR ()).1.size
      have hiI : (k : Int) < (es.length : Int) := by omega
      have hcI : (k : Int) ≤ (cp : Int) := by omega
      have hwi : (k : Int) < 1000 := by have := HB (); omega
      have HE : Unit → es[k]? = some e ∧ ERow w bb bo es ∧ bb < w.heap.size := fun _ => ⟨he, hrow, hbb⟩
      have HX : Unit → ∀ f w1, Calls Tryz.prog 54 #[edv e, edv f] w1 fun r w' => r = .returned (.bool (sameWB e f)) ∧ Keep nil w1 w' := fun _ => HC () e
      obtain ⟨ea, eb, ew⟩ := e
      simp only at q0 q1 q2
      clear he hrow hbb
      go_wp2_with fail
      obtain ⟨W1, hW1⟩ : ∃ W1, W1 = wr.alloc (.cells #[.int .i64 ea, .int .i64 eb, .int .i64 ew] 30) := ⟨_, rfl⟩
      have hbx : Blk W1 wr.heap.size #[.int .i64 ea, .int .i64 eb, .int .i64 ew] 30 := by rw [hW1]; exact Blk.new _ _ _
      have hk2 : Keep nil wr W1 := by rw [hW1]; exact (Keep.refl nil wr).alloc _
      rw [← hW1]
      obtain ⟨xb, hxb⟩ : ∃ xb, xb = wr.heap.size := ⟨_, rfl⟩
      rw [← hxb] at hbx ⊢
      have H1 : Unit → Blk W1 xb #[.int .i64 ea, .int .i64 eb, .int .i64 ew] 30 ∧ Keep nil w W1 := fun _ => ⟨hbx, (HR ()).1.trans hk2⟩
      clear hW1 hbx hxb hk2 q0 q1 q2 hbw
      go_loopw [20] (fun v ws => ∃ j : Nat, j ≤ k ∧ v = .int .i64 (j : Int) ∧ Keep nil W1 ws ∧ ∀ (i : Nat) (f : Ed), i < j → es[i]? = some f → sameWB ⟨ea, eb, ew⟩ f = false) (fun v _ => k - (intOf v).toNat)
      case atStart => exact ⟨0, by omega, rfl, Keep.refl _ _, fun i f h => by omega⟩
      case round =>
        obtain ⟨j, hj, rfl, hkw, hall⟩ := hrel
        have HS : Unit → Keep nil W1 wr ∧ ∀ (i : Nat) (f : Ed), i < j → es[i]? = some f → sameWB ⟨ea, eb, ew⟩ f = false := fun _ => ⟨hkw, hall⟩
        clear hkw hall
        by_cases hjl : j < k
        · obtain ⟨f, hf⟩ : ∃ f, es[j]? = some f := ⟨_, List.getElem?_eq_getElem (Nat.lt_trans hjl hil)⟩
          obtain ⟨q0, q1, q2⟩ := erow_get ((HE ()).2.1.keep ((H1 ()).2.trans (HS ()).1) (HE ()).2.2 (fun e => e)) j f hf
          have hbw : bb < wr.heap.size := Nat.lt_of_lt_of_le (HE ()).2.2 ((H1 ()).2.trans (HS ()).1).size
          have hjI : (j : Int) < (k : Int) := by omega
          have hxw : xb < wr.heap.size := Nat.lt_of_lt_of_le (H1 ()).1.lt (HS ()).1.size
          have z0 := ((H1 ()).1.keep (HS ()).1 (fun e => e)).cell 0
          have z1 := ((H1 ()).1.keep (HS ()).1 (fun e => e)).cell 1
          have z2 := ((H1 ()).1.keep (HS ()).1 (fun e => e)).cell 2
          simp at z0 z1 z2
          have HF : Unit → es[j]? = some f := fun _ => hf
          have hc := HX () f
          obtain ⟨fa, fb, fw⟩ := f
          simp only at q0 q1 q2
          clear hf
          generalize hp : sameWB ⟨ea, eb, ew⟩ ⟨fa, fb, fw⟩ = pe at hc
          have HP : Unit → sameWB ⟨ea, eb, ew⟩ ⟨fa, fb, fw⟩ = pe := fun _ => hp
          clear hp
          go_wp2_with fail
          refine (hc _).mono ?_
          rintro r w' ⟨rfl, hk2⟩
          have HK : Unit → Keep nil W1 w' := fun _ => ((HS ()).1.trans ((Keep.refl nil _).alloc _)).trans hk2
          clear hk2 hc q0 q1 q2 z0 z1 z2
          cases pe
          · go_wp2
            go_roundw
            case rel =>
              refine ⟨j + 1, by omega, by go_num, HK (), fun i x hi hx => ?_⟩
              by_cases hij : i < j
              · exact (HS ()).2 i x hij hx
              · have e1 : i = j := by omega
                subst e1
                rw [HF ()] at hx
                cases hx
                exact HP ()
            case measure => simp [intOf]; omega
          · go_wp2
            go_ret
            exact ⟨true, rfl, ⟨fun _ => ⟨k, j, _, _, by omega, (HE ()).1, HF (), HP ()⟩, fun _ => rfl⟩, (H1 ()).2.trans (HK ())⟩
        · have ej : j = k := by omega
          subst ej
          go_wp2
          go_roundw
          case rel =>
            refine ⟨j + 1, by omega, by go_num, (H1 ()).2.trans (HS ()).1, fun i i2 x y hi hi2 hx hy => ?_⟩
            by_cases hij : i < j
            · exact (HR ()).2 i i2 x y hij hi2 hx hy
            · have e1 : i = j := by omega
              subst e1
              rw [(HE ()).1] at hx
              cases hx
              exact (HS ()).2 i2 y hi2 hy
          case measure => simp [intOf]; omega
    · have ek : k = es.length := by omega
      subst ek
      go_wp2
      go_ret
      refine ⟨false, rfl, ⟨fun h => (Bool.noConfusion h), fun ⟨i, j, e, f, h1, h2, h3, h4⟩ => ?_⟩, (HR ()).1⟩
      rw [(HR ()).2 i j e f (List.getElem?_eq_some_iff.1 h2).1 h1 h2 h3] at h4
      cases h4

set_option maxRecDepth 100000 in
set_option maxHeartbeats 400000 in
theorem anyTwo_edge (sa : Option Addr) (es : List Ed) (cp : Nat) (w : World) (hsl : ESl w sa es) (hlen : es.length ≤ 30) (hcp : es.length ≤ cp) :
    Calls Tryz.prog 53 #[.slice sa es.length cp, .func (.func 55) #[] #[]] w fun r w' => ∃ b : Bool, r = .returned (.bool b) ∧ (b = true ↔ ∃ (i j : Nat) (e f : Ed), j < i ∧ es[i]? = some e ∧ es[j]? = some f ∧ sameEB e f = true) ∧ Keep nil w w' := by
  have HB : Unit → ESl w sa es ∧ es.length ≤ 30 := fun _ => ⟨hsl, hlen⟩
  have HC : Unit → ∀ e f w1, Calls Tryz.prog 55 #[edv e, edv f] w1 fun r w' => r = .returned (.bool (sameEB e f)) ∧ Keep nil w1 w' := fun _ e f w1 => joinAlike_any e f w1
  clear hsl hlen
  go_enter Tryz.func53, Tryz.ntmps53
  go_wp2_with fail
  go_loopw [11] (fun v wr => ∃ k : Nat, k ≤ es.length ∧ v = .int .i64 (k : Int) ∧ Keep nil w wr ∧ ∀ (i j : Nat) (e f : Ed), i < k → j < i → es[i]? = some e → es[j]? = some f → sameEB e f = false) (fun v _ => es.length - (intOf v).toNat)
  case atStart => exact ⟨0, by omega, rfl, Keep.refl _ _, fun i j e f h => by omega⟩
  case round =>
    obtain ⟨k, hk, rfl, hkw, hall⟩ := hrel
    have HR : Unit → Keep nil w wr ∧ ∀ (i j : Nat) (e f : Ed), i < k → j < i → es[i]? = some e → es[j]? = some f → sameEB e f = false := fun _ => ⟨hkw, hall⟩
    clear hkw hall
    by_cases hil : k < es.length
    · obtain ⟨e, he⟩ : ∃ e, es[k]? = some e := ⟨_, List.getElem?_eq_getElem hil⟩
      obtain ⟨bb, bo, rfl, hbb, hrow⟩ := (HB ()).1.some hil
      obtain ⟨q0, q1, q2⟩ := erow_get (hrow.keep (HR ()).1 hbb (fun e => e)) k e he
      have hbw : bb < wr.heap.size := Nat.lt_of_lt_of_le hbb (HR ()).1.size
      have hiI : (k : Int) < (es.length : Int) := by omega
      have hcI : (k : Int) ≤ (cp : Int) := by omega
      have hwi : (k : Int) < 1000 := by have := HB (); omega
      have HE : Unit → es[k]? = some e ∧ ERow w bb bo es ∧ bb < w.heap.size := fun _ => ⟨he, hrow, hbb⟩
      have HX : Unit → ∀ f w1, Calls Tryz.prog 55 #[edv e, edv f] w1 fun r w' => r = .returned (.bool (sameEB e f)) ∧ Keep nil w1 w' := fun _ => HC () e
      obtain ⟨ea, eb, ew⟩ := e
      simp only at q0 q1 q2
      clear he hrow hbb
      go_wp2_with fail
      obtain ⟨W1, hW1⟩ : ∃ W1, W1 = wr.alloc (.cells #[.int .i64 ea, .int .i64 eb, .int .i64 ew] 30) := ⟨_, rfl⟩
      have hbx : Blk W1 wr.heap.size #[.int .i64 ea, .int .i64 eb, .int .i64 ew] 30 := by rw [hW1]; exact Blk.new _ _ _
      have hk2 : Keep nil wr W1 := by rw [hW1]; exact (Keep.refl nil wr).alloc _
      rw [← hW1]
      obtain ⟨xb, hxb⟩ : ∃ xb, xb = wr.heap.size := ⟨_, rfl⟩
      rw [← hxb] at hbx ⊢
      have H1 : Unit → Blk W1 xb #[.int .i64 ea, .int .i64 eb, .int .i64 ew] 30 ∧ Keep nil w W1 := fun _ => ⟨hbx, (HR ()).1.trans hk2⟩
      clear hW1 hbx hxb hk2 q0 q1 q2 hbw
      go_loopw [20] (fun v ws => ∃ j : Nat, j ≤ k ∧ v = .int .i64 (j : Int) ∧ Keep nil W1 ws ∧ ∀ (i : Nat) (f : Ed), i < j → es[i]? = some f → sameEB ⟨ea, eb, ew⟩ f = false) (fun v _ => k - (intOf v).toNat)
      case atStart => exact ⟨0, by omega, rfl, Keep.refl _ _, fun i f h => by omega⟩
      case round =>
        obtain ⟨j, hj, rfl, hkw, hall⟩ := hrel
        have HS : Unit → Keep nil W1 wr ∧ ∀ (i : Nat) (f : Ed), i < j → es[i]? = some f → sameEB ⟨ea, eb, ew⟩ f = false := fun _ => ⟨hkw, hall⟩
        clear hkw hall
        by_cases hjl : j < k
        · obtain ⟨f, hf⟩ : ∃ f, es[j]? = some f := ⟨_, List.getElem?_eq_getElem (Nat.lt_trans hjl hil)⟩
          obtain ⟨q0, q1, q2⟩ := erow_get ((HE ()).2.1.keep ((H1 ()).2.trans (HS ()).1) (HE ()).2.2 (fun e => e)) j f hf
          have hbw : bb < wr.heap.size := Nat.lt_of_lt_of_le (HE ()).2.2 ((H1 ()).2.trans (HS ()).1).size
          have hjI : (j : Int) < (k : Int) := by omega
          have hxw : xb < wr.heap.size := Nat.lt_of_lt_of_le (H1 ()).1.lt (HS ()).1.size
          have z0 := ((H1 ()).1.keep (HS ()).1 (fun e => e)).cell 0
          have z1 := ((H1 ()).1.keep (HS ()).1 (fun e => e)).cell 1
          have z2 := ((H1 ()).1.keep (HS ()).1 (fun e => e)).cell 2
          simp at z0 z1 z2
          have HF : Unit → es[j]? = some f := fun _ => hf
          have hc := HX () f
          obtain ⟨fa, fb, fw⟩ := f
          simp only at q0 q1 q2
          clear hf
          generalize hp : sameEB ⟨ea, eb, ew⟩ ⟨fa, fb, fw⟩ = pe at hc
          have HP : Unit → sameEB ⟨ea, eb, ew⟩ ⟨fa, fb, fw⟩ = pe := fun _ => hp
          clear hp
          go_wp2_with fail
          refine (hc _).mono ?_
          rintro r w' ⟨rfl, hk2⟩
          have HK : Unit → Keep nil W1 w' := fun _ => ((HS ()).1.trans ((Keep.refl nil _).alloc _)).trans hk2
          clear hk2 hc q0 q1 q2 z0 z1 z2
          cases pe
          · go_wp2
            go_roundw
            case rel =>
              refine ⟨j + 1, by omega, by go_num, HK (), fun i x hi hx => ?_⟩
              by_cases hij : i < j
              · exact (HS ()).2 i x hij hx
              · have e1 : i = j := by omega
                subst e1
                rw [HF ()] at hx
                cases hx
                exact HP ()
            case measure => simp [intOf]; omega
          · go_wp2
            go_ret
            exact ⟨true, rfl, ⟨fun _ => ⟨k, j, _, _, by omega, (HE ()).1, HF (), HP ()⟩, fun _ => rfl⟩, (H1 ()).2.trans (HK ())⟩
        · have ej : j = k := by omega
          subst ej
          go_wp2
          go_roundw
          case rel =>
            refine ⟨j + 1, by omega, by go_num, (H1 ()).2.trans (HS ()).1, fun i i2 x y hi hi2 hx hy => ?_⟩
            by_cases hij : i < j
            · exact (HR ()).2 i i2 x y hij hi2 hx hy
            · have e1 : i = j := by omega
              subst e1
              rw [(HE ()).1] at hx
              cases hx
              exact (HS ()).2 i2 y hi2 hy
          case measure => simp [intOf]; omega
    · have ek : k = es.length := by omega
      subst ek
      go_wp2
      go_ret
      refine ⟨false, rfl, ⟨fun h => (Bool.noConfusion h), fun ⟨i, j, e, f, h1, h2, h3, h4⟩ => ?_⟩, (HR ()).1⟩
      rw [(HR ()).2 i j e f (List.getElem?_eq_some_iff.1 h2).1 h1 h2 h3] at h4
      cases h4
end Go.Proofs.YtlfijfodklhplaaGreat
