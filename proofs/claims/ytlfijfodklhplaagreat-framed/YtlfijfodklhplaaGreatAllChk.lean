import Derived.Test.YtlfijfodklhplaaGreatChk1
import Derived.Test.YtlfijfodklhplaaGreatAllTree
import Derived.Deep.DeepCutAuto
import Derived.Deep.CutBlock
/- Questions of Check over all edges, and over any two. -/
namespace Go.Proofs.YtlfijfodklhplaaGreat
open Go.RowKit
set_option linter.unusedVariables false
set_option linter.unusedSimpArgs false

theorem mkfn : ∀ (fn : Fn) (first cap : Array Value) (w : World), (Instr.makeFunc fn first cap).run Tryz.prog w = .ok (.func fn first cap) w := fun _ _ _ _ => rfl

set_option maxRecDepth 100000 in
set_option maxHeartbeats 400000 in
theorem index_strays (nb : Nat) (n : Int) (sa : Option Addr) (es : List Ed) (cp : Nat) (w : World) (hsl : ESl w sa es) (hlen : es.length ≤ 30) (hn : w.cell? ⟨nb, 0, none⟩ = some (.int .i64 n)) :
    Calls Tryz.prog 101 #[.slice sa es.length cp, .func (.func 49) #[] #[.pointer (some ⟨nb, 0, none⟩)]] w fun r w' => ∃ z : Int, r = .returned (.int .i64 z) ∧ (0 ≤ z ↔ ∃ e ∈ es, strayB n e = true) ∧ Keep nil w w' := by
  have HB : Unit → ESl w sa es ∧ es.length ≤ 30 := fun _ => ⟨hsl, hlen⟩
  have HC : Unit → ∀ e w1, Keep nil w w1 → Calls Tryz.prog 49 #[edv e, .pointer (some ⟨nb, 0, none⟩)] w1 fun r w' => r = .returned (.bool (strayB n e)) ∧ Keep nil w1 w' := fun _ e w1 k1 => strays_any nb n e w1 ((k1.cell nb 0 (World.block_lt_of_cell? w _ hn) (fun e => e)).trans hn)
  clear hsl hlen
  go_enter Tryz.func101, Tryz.ntmps101
  go_wp2_with fail
  go_loopw [8] (fun v wr => ∃ k : Nat, k ≤ es.length ∧ v = .int .i64 (k : Int) ∧ Keep nil w wr ∧ ∀ e ∈ es.take k, strayB n e = false) (fun v _ => es.length - (intOf v).toNat)
  case atStart => exact ⟨0, by omega, rfl, Keep.refl _ _, fun e he => by simp at he⟩
  case round =>
    obtain ⟨k, hk, rfl, hkw, hall⟩ := hrel
    have HR : Unit → Keep nil w wr ∧ ∀ e ∈ es.take k, strayB n e = false := fun _ => ⟨hkw, hall⟩
    clear hkw hall
    by_cases hil : k < es.length
    · obtain ⟨e, he⟩ : ∃ e, es[k]? = some e := ⟨_, List.getElem?_eq_getElem hil⟩
      obtain ⟨bb, bo, rfl, hbb, hrow⟩ := (HB ()).1.some hil
      obtain ⟨q0, q1, q2⟩ := erow_get (hrow.keep (HR ()).1 hbb (fun e => e)) k e he
      have hbw : bb < wr.heap.size := Nat.lt_of_lt_of_le hbb (HR ()).1.size
      have hiI : (k : Int) < (es.length : Int) := by omega
      have hwi : (k : Int) < 1000 := by have := HB (); omega
      have HE : Unit → es[k]? = some e := fun _ => he
      have hc := HC () e wr (HR ()).1
      obtain ⟨ea, eb, ew⟩ := e
      simp only at q0 q1 q2
      clear he hrow hbb
      generalize hp : strayB n ⟨ea, eb, ew⟩ = pe at hc
      have HP : Unit → strayB n ⟨ea, eb, ew⟩ = pe := fun _ => hp
      clear hp
      go_wp2_with fail
      refine hc.mono ?_
      rintro r w' ⟨rfl, hk2⟩
      have HK : Unit → Keep nil w w' := fun _ => (HR ()).1.trans hk2
      clear hk2 hc q0 q1 q2
      cases pe
      · go_wp2
        go_roundw
        case rel =>
          refine ⟨k + 1, by omega, by go_num, HK (), fun x hx => ?_⟩
          rcases (mem_take_succ (HE ())).1 hx with hx | rfl
          · exact (HR ()).2 x hx
          · exact HP ()
        case measure => simp [intOf]; omega
      · go_wp2
        go_ret
        exact ⟨k, rfl, ⟨fun _ => ⟨_, List.mem_of_getElem? (HE ()), HP ()⟩, fun _ => by omega⟩, HK ()⟩
    · have ek : k = es.length := by omega
      subst ek
      go_wp2
      go_ret
      refine ⟨-1, rfl, ⟨fun h => by omega, fun ⟨e, he, hp⟩ => ?_⟩, (HR ()).1⟩
      rw [(HR ()).2 e (by rw [List.take_length]; exact he)] at hp
      cases hp

theorem contains_strays (nb : Nat) (n : Int) (sa : Option Addr) (es : List Ed) (cp : Nat) (w : World) (hsl : ESl w sa es) (hlen : es.length ≤ 30) (hn : w.cell? ⟨nb, 0, none⟩ = some (.int .i64 n)) :
    Calls Tryz.prog 51 #[.slice sa es.length cp, .func (.func 49) #[] #[.pointer (some ⟨nb, 0, none⟩)]] w fun r w' => ∃ b : Bool, r = .returned (.bool b) ∧ (b = true ↔ ∃ e ∈ es, strayB n e = true) ∧ Keep nil w w' := by
  have HI : Unit → _ := fun _ => index_strays nb n sa es cp w hsl hlen hn
  clear hsl hlen
  go_enter Tryz.func51, Tryz.ntmps51
  go_wp2_with fail
  refine Calls.mono (HI ()) ?_
  rintro r w' ⟨z, rfl, hz, hk⟩
  clear HI
  have HZ : Unit → (0 ≤ z ↔ ∃ e ∈ es, strayB n e = true) ∧ Keep nil w w' := fun _ => ⟨hz, hk⟩
  clear hz hk
  go_wp2
  go_ret
  exact ⟨_, rfl, by rw [← (HZ ()).1]; simp, (HZ ()).2⟩

set_option maxRecDepth 100000 in
set_option maxHeartbeats 400000 in
theorem index_heavy (sa : Option Addr) (es : List Ed) (cp : Nat) (w : World) (hsl : ESl w sa es) (hlen : es.length ≤ 30) :
    Calls Tryz.prog 101 #[.slice sa es.length cp, .func (.func 52) #[] #[]] w fun r w' => ∃ z : Int, r = .returned (.int .i64 z) ∧ (0 ≤ z ↔ ∃ e ∈ es, heavyB e = true) ∧ Keep nil w w' := by
  have HB : Unit → ESl w sa es ∧ es.length ≤ 30 := fun _ => ⟨hsl, hlen⟩
  have HC : Unit → ∀ e w1, Keep nil w w1 → Calls Tryz.prog 52 #[edv e] w1 fun r w' => r = .returned (.bool (heavyB e)) ∧ Keep nil w1 w' := fun _ e w1 k1 => weighsWrong_any e w1
  clear hsl hlen
  go_enter Tryz.func101, Tryz.ntmps101
  go_wp2_with fail
  go_loopw [8] (fun v wr => ∃ k : Nat, k ≤ es.length ∧ v = .int .i64 (k : Int) ∧ Keep nil w wr ∧ ∀ e ∈ es.take k, heavyB e = false) (fun v _ => es.length - (intOf v).toNat)
  case atStart => exact ⟨0, by omega, rfl, Keep.refl _ _, fun e he => by simp at he⟩
  case round =>
    obtain ⟨k, hk, rfl, hkw, hall⟩ := hrel
    have HR : Unit → Keep nil w wr ∧ ∀ e ∈ es.take k, heavyB e = false := fun _ => ⟨hkw, hall⟩
    clear hkw hall
    by_cases hil : k < es.length
    · obtain ⟨e, he⟩ : ∃ e, es[k]? = some e := ⟨_, List.getElem?_eq_getElem hil⟩
      obtain ⟨bb, bo, rfl, hbb, hrow⟩ := (HB ()).1.some hil
      obtain ⟨q0, q1, q2⟩ := erow_get (hrow.keep (HR ()).1 hbb (fun e => e)) k e he
      have hbw : bb < wr.heap.size := Nat.lt_of_lt_of_le hbb (HR ()).1.size
      have hiI : (k : Int) < (es.length : Int) := by omega
      have hwi : (k : Int) < 1000 := by have := HB (); omega
      have HE : Unit → es[k]? = some e := fun _ => he
      have hc := HC () e wr (HR ()).1
      obtain ⟨ea, eb, ew⟩ := e
      simp only at q0 q1 q2
      clear he hrow hbb
      generalize hp : heavyB ⟨ea, eb, ew⟩ = pe at hc
      have HP : Unit → heavyB ⟨ea, eb, ew⟩ = pe := fun _ => hp
      clear hp
      go_wp2_with fail
      refine hc.mono ?_
      rintro r w' ⟨rfl, hk2⟩
      have HK : Unit → Keep nil w w' := fun _ => (HR ()).1.trans hk2
      clear hk2 hc q0 q1 q2
      cases pe
      · go_wp2
        go_roundw
        case rel =>
          refine ⟨k + 1, by omega, by go_num, HK (), fun x hx => ?_⟩
          rcases (mem_take_succ (HE ())).1 hx with hx | rfl
          · exact (HR ()).2 x hx
          · exact HP ()
        case measure => simp [intOf]; omega
      · go_wp2
        go_ret
        exact ⟨k, rfl, ⟨fun _ => ⟨_, List.mem_of_getElem? (HE ()), HP ()⟩, fun _ => by omega⟩, HK ()⟩
    · have ek : k = es.length := by omega
      subst ek
      go_wp2
      go_ret
      refine ⟨-1, rfl, ⟨fun h => by omega, fun ⟨e, he, hp⟩ => ?_⟩, (HR ()).1⟩
      rw [(HR ()).2 e (by rw [List.take_length]; exact he)] at hp
      cases hp

theorem contains_heavy (sa : Option Addr) (es : List Ed) (cp : Nat) (w : World) (hsl : ESl w sa es) (hlen : es.length ≤ 30) :
    Calls Tryz.prog 51 #[.slice sa es.length cp, .func (.func 52) #[] #[]] w fun r w' => ∃ b : Bool, r = .returned (.bool b) ∧ (b = true ↔ ∃ e ∈ es, heavyB e = true) ∧ Keep nil w w' := by
  have HI : Unit → _ := fun _ => index_heavy sa es cp w hsl hlen
  clear hsl hlen
  go_enter Tryz.func51, Tryz.ntmps51
  go_wp2_with fail
  refine Calls.mono (HI ()) ?_
  rintro r w' ⟨z, rfl, hz, hk⟩
  clear HI
  have HZ : Unit → (0 ≤ z ↔ ∃ e ∈ es, heavyB e = true) ∧ Keep nil w w' := fun _ => ⟨hz, hk⟩
  clear hz hk
  go_wp2
  go_ret
  exact ⟨_, rfl, by rw [← (HZ ()).1]; simp, (HZ ()).2⟩
end Go.Proofs.YtlfijfodklhplaaGreat
/- Questions of Check over all edges, and over any two. -/
namespace Go.Proofs.YtlfijfodklhplaaGreat
open Go.RowKit
set_option linter.unusedVariables false
set_option linter.unusedSimpArgs false

set_option maxRecDepth 100000 in
set_option maxHeartbeats 400000 in
theorem anyTwo_weight (sa : Option Addr) (es : List Ed) (cp : Nat) (w : World) (hsl : ESl w sa es) (hlen : es.length ≤ 30) (hcp : es.length ≤ cp) :
    Calls Tryz.prog 53 #[.slice sa es.length cp, .func (.func 54) #[] #[]] w fun r w' => ∃ b : Bool, r = .returned (.bool b) ∧ (b = true ↔ ∃ (i j : Nat) (e f : Ed), j < i ∧ es[i]? = some e ∧ es[j]? = some f ∧ sameWB e f = true) ∧ Keep nil w w' := by
  have HB : Unit → ESl w sa es ∧ es.length ≤ 30 := fun _ => ⟨hsl, hlen⟩
  have HC : Unit → ∀ e f w1, Calls Tryz.prog 54 #[edv e, edv f] w1 fun r w' => r = .returned (.bool (sameWB e f)) ∧ Keep nil w1 w' := fun _ e f w1 => weighAlike_any e f w1
  clear hsl hlen
  go_enter Tryz.func53, Tryz.ntmps53
  go_wp2_with fail
  go_loopw [11] (fun v wr => ∃ k : Nat, k ≤ es.length ∧ v = .int .i64 (k : Int) ∧ Keep nil w wr ∧ ∀ (i j : Nat) (e f : Ed), i < k → j < i → es[i]? = some e → es[j]? = some f → sameWB e f = false) (fun v _ => es.length - (intOf v).toNat)
  case atStart => exact ⟨0, by omega, rfl, Keep.refl _ _, fun i j e f h => by omega⟩
  case round =>
    obtain ⟨k, hk, rfl, hkw, hall⟩ := hrel
    have HR : Unit → Keep nil w wr ∧ ∀ (i j : Nat) (e f : Ed), i < k → j < i → es[i]? = some e → es[j]? = some f → sameWB e f = false := fun _ => ⟨hkw, hall⟩
    clear hkw hall
    by_cases hil : k < es.length
    · obtain ⟨e, he⟩ : ∃ e, es[k]? = some e := ⟨_, List.getElem?_eq_getElem hil⟩
      obtain ⟨bb, bo, rfl, hbb, hrow⟩ := (HB ()).1.some hil
      obtain ⟨q0, q1, q2⟩ := erow_get (hrow.keep (HR ()).1 hbb (fun e => e)) k e he
      have hbw : bb < wr.heap.size := Nat.lt_of_lt_of_le hbb (HR ()).1.size
      have hiI : (k : Int) < (es.length : Int) := by omega
      have hcI : (k : Int) ≤ (cp : Int) := by omega
      have hwi : (k : Int) < 1000 := by have := HB (); omega
      have HE : Unit → es[k]? = some e ∧ ERow w bb bo es ∧ bb < w.heap.size := fun _ => ⟨he, hrow, hbb⟩
      have HX : Unit → ∀ f w1, Calls Tryz.prog 54 #[edv e, edv f] w1 fun r w' => r = .returned (.bool (sameWB e f)) ∧ Keep nil w1 w' := fun _ => HC () e
      obtain ⟨ea, eb, ew⟩ := e
      simp only at q0 q1 q2
      clear he hrow hbb
      go_wp2_with fail
      obtain ⟨W1, hW1⟩ : ∃ W1, W1 = wr.alloc (.cells #[.int .i64 ea, .int .i64 eb, .int .i64 ew] 30) := ⟨_, rfl⟩
      have hbx : Blk W1 wr.heap.size #[.int .i64 ea, .int .i64 eb, .int .i64 ew] 30 := by rw [hW1]; exact Blk.new _ _ _
      have hk2 : Keep nil wr W1 := by rw [hW1]; exact (Keep.refl nil wr).alloc _
      rw [← hW1]
      obtain ⟨xb, hxb⟩ : ∃ xb, xb = wr.heap.size := ⟨_, rfl⟩
      rw [← hxb] at hbx ⊢
      have H1 : Unit → Blk W1 xb #[.int .i64 ea, .int .i64 eb, .int .i64 ew] 30 ∧ Keep nil w W1 := fun _ => ⟨hbx, (HR ()).1.trans hk2⟩
      clear hW1 hbx hxb hk2 q0 q1 q2 hbw
      go_loopw [20] (fun v ws => ∃ j : Nat, j ≤ k ∧ v = .int .i64 (j : Int) ∧ Keep nil W1 ws ∧ ∀ (i : Nat) (f : Ed), i < j → es[i]? = some f → sameWB ⟨ea, eb, ew⟩ f = false) (fun v _ => k - (intOf v).toNat)
      case atStart => exact ⟨0, by omega, rfl, Keep.refl _ _, fun i f h => by omega⟩
      case round =>
        obtain ⟨j, hj, rfl, hkw, hall⟩ := hrel
        have HS : Unit → Keep nil W1 wr ∧ ∀ (i : Nat) (f : Ed), i < j → es[i]? = some f → sameWB ⟨ea, eb, ew⟩ f = false := fun _ => ⟨hkw, hall⟩
        clear hkw hall
        by_cases hjl : j < k
        · obtain ⟨f, hf⟩ : ∃ f, es[j]? = some f := ⟨_, List.getElem?_eq_getElem (Nat.lt_trans hjl hil)⟩
          obtain ⟨q0, q1, q2⟩ := erow_get ((HE ()).2.1.keep ((H1 ()).2.trans (HS ()).1) (HE ()).2.2 (fun e => e)) j f hf
          have hbw : bb < wr.heap.size := Nat.lt_of_lt_of_le (HE ()).2.2 ((H1 ()).2.trans (HS ()).1).size
          have hjI : (j : Int) < (k : Int) := by omega
          have hxw : xb < wr.heap.size := Nat.lt_of_lt_of_le (H1 ()).1.lt (HS ()).1.size
          have z0 := ((H1 ()).1.keep (HS ()).1 (fun e => e)).cell 0
          have z1 := ((H1 ()).1.keep (HS ()).1 (fun e => e)).cell 1
          have z2 := ((H1 ()).1.keep (HS ()).1 (fun e => e)).cell 2
          simp at z0 z1 z2
          have HF : Unit → es[j]? = some f := fun _ => hf
          have hc := HX () f
          obtain ⟨fa, fb, fw⟩ := f
          simp only at q0 q1 q2
          clear hf
          generalize hp : sameWB ⟨ea, eb, ew⟩ ⟨fa, fb, fw⟩ = pe at hc
          have HP : Unit → sameWB ⟨ea, eb, ew⟩ ⟨fa, fb, fw⟩ = pe := fun _ => hp
          clear hp
          go_wp2_with fail
          refine (hc _).mono ?_
          rintro r w' ⟨rfl, hk2⟩
          have HK : Unit → Keep nil W1 w' := fun _ => ((HS ()).1.trans ((Keep.refl nil _).alloc _)).trans hk2
          clear hk2 hc q0 q1 q2 z0 z1 z2
          cases pe
          · go_wp2
            go_roundw
            case rel =>
              refine ⟨j + 1, by omega, by go_num, HK (), fun i x hi hx => ?_⟩
              by_cases hij : i < j
              · exact (HS ()).2 i x hij hx
              · have e1 : i = j := by omega
                subst e1
                rw [HF ()] at hx
                cases hx
                exact HP ()
            case measure => simp [intOf]; omega
          · go_wp2
            go_ret
            exact ⟨true, rfl, ⟨fun _ => ⟨k, j, _, _, by omega, (HE ()).1, HF (), HP ()⟩, fun _ => rfl⟩, (H1 ()).2.trans (HK ())⟩
        · have ej : j = k := by omega
          subst ej
          go_wp2
          go_roundw
          case rel =>
            refine ⟨j + 1, by omega, by go_num, (H1 ()).2.trans (HS ()).1, fun i i2 x y hi hi2 hx hy => ?_⟩
            by_cases hij : i < j
            · exact (HR ()).2 i i2 x y hij hi2 hx hy
            · have e1 : i = j := by omega
              subst e1
              rw [(HE ()).1] at hx
              cases hx
              exact (HS ()).2 i2 y hi2 hy
          case measure => simp [intOf]; omega
    · have ek : k = es.length := by omega
      subst ek
      go_wp2
      go_ret
      refine ⟨false, rfl, ⟨fun h => (Bool.noConfusion h), fun ⟨i, j, e, f, h1, h2, h3, h4⟩ => ?_⟩, (HR ()).1⟩
      rw [(HR ()).2 i j e f (List.getElem?_eq_some_iff.1 h2).1 h1 h2 h3] at h4
      cases h4

set_option maxRecDepth 100000 in
set_option maxHeartbeats 400000 in
theorem anyTwo_edge (sa : Option Addr) (es : List Ed) (cp : Nat) (w : World) (hsl : ESl w sa es) (hlen : es.length ≤ 30) (hcp : es.length ≤ cp) :
    Calls Tryz.prog 53 #[.slice sa es.length cp, .func (.func 55) #[] #[]] w fun r w' => ∃ b : Bool, r = .returned (.bool b) ∧ (b = true ↔ ∃ (i j : Nat) (e f : Ed), j < i ∧ es[i]? = some e ∧ es[j]? = some f ∧ sameEB e f = true) ∧ Keep nil w w' := by
  have HB : Unit → ESl w sa es ∧ es.length ≤ 30 := fun _ => ⟨hsl, hlen⟩
  have HC : Unit → ∀ e f w1, Calls Tryz.prog 55 #[edv e, edv f] w1 fun r w' => r = .returned (.bool (sameEB e f)) ∧ Keep nil w1 w' := fun _ e f w1 => joinAlike_any e f w1
  clear hsl hlen
  go_enter Tryz.func53, Tryz.ntmps53
  go_wp2_with fail
  go_loopw [11] (fun v wr => ∃ k : Nat, k ≤ es.length ∧ v = .int .i64 (k : Int) ∧ Keep nil w wr ∧ ∀ (i j : Nat) (e f : Ed), i < k → j < i → es[i]? = some e → es[j]? = some f → sameEB e f = false) (fun v _ => es.length - (intOf v).toNat)
  case atStart => exact ⟨0, by omega, rfl, Keep.refl _ _, fun i j e f h => by omega⟩
  case round =>
    obtain ⟨k, hk, rfl, hkw, hall⟩ := hrel
    have HR : Unit → Keep nil w wr ∧ ∀ (i j : Nat) (e f : Ed), i < k → j < i → es[i]? = some e → es[j]? = some f → sameEB e f = false := fun _ => ⟨hkw, hall⟩
    clear hkw hall
    by_cases hil : k < es.length
    · obtain ⟨e, he⟩ : ∃ e, es[k]? = some e := ⟨_, List.getElem?_eq_getElem hil⟩
      obtain ⟨bb, bo, rfl, hbb, hrow⟩ := (HB ()).1.some hil
      obtain ⟨q0, q1, q2⟩ := erow_get (hrow.keep (HR ()).1 hbb (fun e => e)) k e he
      have hbw : bb < wr.heap.size := Nat.lt_of_lt_of_le hbb (HR ()).1.size
      have hiI : (k : Int) < (es.length : Int) := by omega
      have hcI : (k : Int) ≤ (cp : Int) := by omega
      have hwi : (k : Int) < 1000 := by have := HB (); omega
      have HE : Unit → es[k]? = some e ∧ ERow w bb bo es ∧ bb < w.heap.size := fun _ => ⟨he, hrow, hbb⟩
      have HX : Unit → ∀ f w1, Calls Tryz.prog 55 #[edv e, edv f] w1 fun r w' => r = .returned (.bool (sameEB e f)) ∧ Keep nil w1 w' := fun _ => HC () e
      obtain ⟨ea, eb, ew⟩ := e
      simp only at q0 q1 q2
      clear he hrow hbb
      go_wp2_with fail
      obtain ⟨W1, hW1⟩ : ∃ W1, W1 = wr.alloc (.cells #[.int .i64 ea, .int .i64 eb, .int .i64 ew] 30) := ⟨_, rfl⟩
      have hbx : Blk W1 wr.heap.size #[.int .i64 ea, .int .i64 eb, .int .i64 ew] 30 := by rw [hW1]; exact Blk.new _ _ _
      have hk2 : Keep nil wr W1 := by rw [hW1]; exact (Keep.refl nil wr).alloc _
      rw [← hW1]
      obtain ⟨xb, hxb⟩ : ∃ xb, xb = wr.heap.size := ⟨_, rfl⟩
      rw [← hxb] at hbx ⊢
      have H1 : Unit → Blk W1 xb #[.int .i64 ea, .int .i64 eb, .int .i64 ew] 30 ∧ Keep nil w W1 := fun _ => ⟨hbx, (HR ()).1.trans hk2⟩
      clear hW1 hbx hxb hk2 q0 q1 q2 hbw
      go_loopw [20] (fun v ws => ∃ j : Nat, j ≤ k ∧ v = .int .i64 (j : Int) ∧ Keep nil W1 ws ∧ ∀ (i : Nat) (f : Ed), i < j → es[i]? = some f → sameEB ⟨ea, eb, ew⟩ f = false) (fun v _ => k - (intOf v).toNat)
      case atStart => exact ⟨0, by omega, rfl, Keep.refl _ _, fun i f h => by omega⟩
      case round =>
        obtain ⟨j, hj, rfl, hkw, hall⟩ := hrel
        have HS : Unit → Keep nil W1 wr ∧ ∀ (i : Nat) (f : Ed), i < j → es[i]? = some f → sameEB ⟨ea, eb, ew⟩ f = false := fun _ => ⟨hkw, hall⟩
        clear hkw hall
        by_cases hjl : j < k
        · obtain ⟨f, hf⟩ : ∃ f, es[j]? = some f := ⟨_, List.getElem?_eq_getElem (Nat.lt_trans hjl hil)⟩
          obtain ⟨q0, q1, q2⟩ := erow_get ((HE ()).2.1.keep ((H1 ()).2.trans (HS ()).1) (HE ()).2.2 (fun e => e)) j f hf
          have hbw : bb < wr.heap.size := Nat.lt_of_lt_of_le (HE ()).2.2 ((H1 ()).2.trans (HS ()).1).size
          have hjI : (j : Int) < (k : Int) := by omega
          have hxw : xb < wr.heap.size := Nat.lt_of_lt_of_le (H1 ()).1.lt (HS ()).1.size
          have z0 := ((H1 ()).1.keep (HS ()).1 (fun e => e)).cell 0
          have z1 := ((H1 ()).1.keep (HS ()).1 (fun e => e)).cell 1
          have z2 := ((H1 ()).1.keep (HS ()).1 (fun e => e)).cell 2
          simp at z0 z1 z2
          have HF : Unit → es[j]? = some f := fun _ => hf
          have hc := HX () f
          obtain ⟨fa, fb, fw⟩ := f
          simp only at q0 q1 q2
          clear hf
          generalize hp : sameEB ⟨ea, eb, ew⟩ ⟨fa, fb, fw⟩ = pe at hc
          have HP : Unit → sameEB ⟨ea, eb, ew⟩ ⟨fa, fb, fw⟩ = pe := fun _ => hp
          clear hp
          go_wp2_with fail
          refine (hc _).mono ?_
          rintro r w' ⟨rfl, hk2⟩
          have HK : Unit → Keep nil W1 w' := fun _ => ((HS ()).1.trans ((Keep.refl nil _).alloc _)).trans hk2
          clear hk2 hc q0 q1 q2 z0 z1 z2
          cases pe
          · go_wp2
            go_roundw
            case rel =>
              refine ⟨j + 1, by omega, by go_num, HK (), fun i x hi hx => ?_⟩
              by_cases hij : i < j
              · exact (HS ()).2 i x hij hx
              · have e1 : i = j := by omega
                subst e1
                rw [HF ()] at hx
                cases hx
                exact HP ()
            case measure => simp [intOf]; omega
          · go_wp2
            go_ret
            exact ⟨true, rfl, ⟨fun _ => ⟨k, j, _, _, by omega, (HE ()).1, HF (), HP ()⟩, fun _ => rfl⟩, (H1 ()).2.trans (HK ())⟩
        · have ej : j = k := by omega
          subst ej
          go_wp2
          go_roundw
          case rel =>
            refine ⟨j + 1, by omega, by go_num, (H1 ()).2.trans (HS ()).1, fun i i2 x y hi hi2 hx hy => ?_⟩
            by_cases hij : i < j
            · exact (HR ()).2 i i2 x y hij hi2 hx hy
            · have e1 : i = j := by omega
              subst e1
              rw [(HE ()).1] at hx
              cases hx
              exact (HS ()).2 i2 y hi2 hy
          case measure => simp [intOf]; omega
    · have ek : k = es.length := by omega
      subst ek
      go_wp2
      go_ret
      refine ⟨false, rfl, ⟨fun h => (Bool.noConfusion h), fun ⟨i, j, e, f, h1, h2, h3, h4⟩ => ?_⟩, (HR ()).1⟩
      rw [(HR ()).2 i j e f (List.getElem?_eq_some_iff.1 h2).1 h1 h2 h3] at h4
      cases h4
end Go.Proofs.YtlfijfodklhplaaGreat
/- Walk of graph.Check. -/
namespace Go.Proofs.YtlfijfodklhplaaGreat
open Go.RowKit
set_option linter.unusedVariables false
set_option linter.unusedSimpArgs false

theorem stray_iff (n : Int) (es : List Ed) : (∃ e ∈ es, strayB n e = true) ↔ BadEdge n es := by
  refine exists_congr (fun e => and_congr_right (fun _ => ?_))
  simp only [strayB, Stray, Bool.or_eq_true, Bool.not_eq_true', Bool.and_eq_false_iff, decide_eq_false_iff_not, beq_iff_eq]
  omega
theorem heavy_iff (es : List Ed) : (∃ e ∈ es, heavyB e = true) ↔ ∃ e ∈ es, Heavy e := by
  refine exists_congr (fun e => and_congr_right (fun _ => ?_))
  simp [heavyB, Heavy]
theorem sameW_iff (es : List Ed) : (∃ (i j : Nat) (e f : Ed), j < i ∧ es[i]? = some e ∧ es[j]? = some f ∧ sameWB e f = true) ↔ Two SameW es := by
  simp [Two, SameW, sameWB]
theorem sameE_iff (es : List Ed) : (∃ (i j : Nat) (e f : Ed), j < i ∧ es[i]? = some e ∧ es[j]? = some f ∧ sameEB e f = true) ↔ Two SameE es := by
  simp [Two, SameE, sameEB]

theorem inN_of {n : Int} {es : List Ed} (h : ¬ BadEdge n es) (h0 : 0 ≤ n) : InN n.toNat es := fun e he => by
  have : ¬ Stray n e := fun hs => h ⟨e, he, hs⟩
  unfold Stray at this
  omega

set_option maxRecDepth 100000 in
set_option maxHeartbeats 400000 in
theorem graphCheck_any (n : Int) (sa : Option Addr) (es : List Ed) (cp : Nat) (w : World) (hsl : ESl w sa es) (hcp : es.length ≤ cp) :
    Calls Tryz.prog 29 #[.int .i64 n, .slice sa es.length cp] w fun r w' => ∃ z : Int, r = .returned (.int .i64 z) ∧ Chk n es z ∧ Keep nil w w' := by
  have hmf := mkfn
  have HB : Unit → ESl w sa es ∧ es.length ≤ cp := fun _ => ⟨hsl, hcp⟩
  clear hsl hcp
  by_cases hbad : BadSize n es
  · have HS : Unit → BadSize n es := fun _ => hbad
    unfold BadSize at hbad
    go_enter Tryz.func29, Tryz.ntmps29
    rcases hbad with h | h | h
    · go_wp2
      go_ret
      exact ⟨1, rfl, Chk.mk1 (HS ()), (Keep.refl nil w).alloc _⟩
    · go_wp2
      all_goals
        go_ret
        exact ⟨1, rfl, Chk.mk1 (HS ()), (Keep.refl nil w).alloc _⟩
    · have h' : (30 : Int) < (es.length : Int) := by omega
      clear h
      go_wp2
      all_goals
        go_ret
        exact ⟨1, rfl, Chk.mk1 (HS ()), (Keep.refl nil w).alloc _⟩
  · have HS : Unit → ¬ BadSize n es := fun _ => hbad
    have h1 : 1 ≤ n := by unfold BadSize at hbad; omega
    have h2 : n ≤ 10 := by unfold BadSize at hbad; omega
    have h3 : (es.length : Int) ≤ 30 := by unfold BadSize at hbad; omega
    have HL : Unit → es.length ≤ 30 ∧ 1 ≤ n ∧ n ≤ 10 := fun _ => ⟨by omega, h1, h2⟩
    clear hbad
    go_enter Tryz.func29, Tryz.ntmps29
    go_wp2_with fail
    obtain ⟨W1, hW1⟩ : ∃ W1, W1 = w.alloc (.cells #[.int .i64 n] 3) := ⟨_, rfl⟩
    have hbx : Blk W1 w.heap.size #[.int .i64 n] 3 := by rw [hW1]; exact Blk.new _ _ _
    have hk1 : Keep nil w W1 := by rw [hW1]; exact (Keep.refl nil w).alloc _
    rw [← hW1]
    obtain ⟨nb, hnb⟩ : ∃ nb, nb = w.heap.size := ⟨_, rfl⟩
    rw [← hnb] at hbx ⊢
    have HX : Unit → Blk W1 nb #[.int .i64 n] 3 ∧ Keep nil w W1 := fun _ => ⟨hbx, hk1⟩
    clear hW1 hbx hnb hk1 h1 h2 h3
    have HC1 : Unit → _ := fun _ => contains_strays nb n sa es cp W1 ((HB ()).1.keep (HX ()).2) (HL ()).1 (by have := (HX ()).1.cell 0; simpa using this)
    refine Calls.mono (HC1 ()) ?_
    rintro r w2 ⟨b, rfl, hb, hk2⟩
    rw [stray_iff] at hb
    have H2 : Unit → (b = true ↔ BadEdge n es) ∧ Keep nil W1 w2 := fun _ => ⟨hb, hk2⟩
    clear hb hk2 HC1
    cases b
    · have HE : Unit → ¬ BadEdge n es := fun _ h => by have := (H2 ()).1.2 h; cases this
      have HC2 : Unit → _ := fun _ => contains_heavy sa es cp w2 ((HB ()).1.keep ((HX ()).2.trans (H2 ()).2)) (HL ()).1
      go_wp2_with fail
      refine Calls.mono (HC2 ()) ?_
      rintro r w3 ⟨b, rfl, hb, hk3⟩
      rw [heavy_iff] at hb
      have H3 : Unit → (b = true ↔ ∃ e ∈ es, Heavy e) ∧ Keep nil w w3 ∧ Keep nil W1 w3 := fun _ => ⟨hb, ((HX ()).2.trans (H2 ()).2).trans hk3, (H2 ()).2.trans hk3⟩
      clear hb hk3 HC2
      cases b
      · have HC3 : Unit → _ := fun _ => anyTwo_weight sa es cp w3 ((HB ()).1.keep (H3 ()).2.1) (HL ()).1 (HB ()).2
        go_wp2_with fail
        refine Calls.mono (HC3 ()) ?_
        rintro r w4 ⟨b, rfl, hb, hk4⟩
        rw [sameW_iff] at hb
        have H4 : Unit → (b = true ↔ Two SameW es) ∧ Keep nil w w4 ∧ Keep nil W1 w4 := fun _ => ⟨hb, (H3 ()).2.1.trans hk4, (H3 ()).2.2.trans hk4⟩
        clear hb hk4 HC3
        cases b
        · have HW : Unit → ¬ BadW es := fun _ h => by
            rcases h with h | h
            · have := (H3 ()).1.2 h; cases this
            · have := (H4 ()).1.2 h; cases this
          have HC4 : Unit → _ := fun _ => anyTwo_edge sa es cp w4 ((HB ()).1.keep (H4 ()).2.1) (HL ()).1 (HB ()).2
          go_wp2_with fail
          refine Calls.mono (HC4 ()) ?_
          rintro r w5 ⟨b, rfl, hb, hk5⟩
          rw [sameE_iff] at hb
          have H5 : Unit → (b = true ↔ Two SameE es) ∧ Keep nil w w5 ∧ Keep nil W1 w5 := fun _ => ⟨hb, (H4 ()).2.1.trans hk5, (H4 ()).2.2.trans hk5⟩
          clear hb hk5 HC4
          cases b
          · have HT : Unit → ¬ Two SameE es := fun _ h => by have := (H5 ()).1.2 h; cases this
            have z := ((HX ()).1.keep (H5 ()).2.2 (fun e => e)).cell 0
            simp at z
            have HC5 : Unit → Calls Tryz.prog 56 #[.int .i64 n, .slice sa es.length cp] w5 fun r w' => ∃ b : Bool, r = .returned (.bool b) ∧ (b = true ↔ Joined n.toNat es) ∧ Keep nil w5 w' := fun _ => by
              have := joinAll_any n.toNat cp sa es w5 ((HB ()).1.keep (H5 ()).2.1) (HL ()).1 (inN_of (HE ()) (by have := HL (); omega)) (by have := HL (); omega) (by have := HL (); omega)
              rwa [show ((n.toNat : Nat) : Int) = n by have := HL (); omega] at this
            go_wp2_with fail
            refine Calls.mono (HC5 ()) ?_
            rintro r w6 ⟨b, rfl, hb, hk6⟩
            have H6 : Unit → (b = true ↔ Joined n.toNat es) ∧ Keep nil w w6 := fun _ => ⟨hb, (H5 ()).2.1.trans hk6⟩
            clear hb hk6 HC5 z
            cases b
            · go_wp2
              go_ret
              exact ⟨5, rfl, Chk.mk5 (HS ()) (HE ()) (HW ()) (HT ()) (fun h => by have := (H6 ()).1.2 h; cases this), (H6 ()).2⟩
            · go_wp2
              go_ret
              exact ⟨0, rfl, Chk.mk0 (HS ()) (HE ()) (HW ()) (HT ()) ((H6 ()).1.1 (by trivial)), (H6 ()).2⟩
          · go_wp2
            go_ret
            exact ⟨4, rfl, Chk.mk4 (HS ()) (HE ()) (HW ()) ((H5 ()).1.1 (by trivial)), (H5 ()).2.1⟩
        · go_wp2
          go_ret
          exact ⟨3, rfl, Chk.mk3 (HS ()) (HE ()) (Or.inr ((H4 ()).1.1 (by trivial))), (H4 ()).2.1⟩
      · go_wp2
        go_ret
        exact ⟨3, rfl, Chk.mk3 (HS ()) (HE ()) (Or.inl ((H3 ()).1.1 (by trivial))), (H3 ()).2.1⟩
    · go_wp2
      go_ret
      exact ⟨2, rfl, Chk.mk2 (HS ()) ((H2 ()).1.1 (by trivial)), (HX ()).2.trans (H2 ()).2⟩

theorem arborCheck_any (n : Int) (sa : Option Addr) (es : List Ed) (cp : Nat) (w : World) (hsl : ESl w sa es) (hcp : es.length ≤ cp) :
    Calls Tryz.prog 13 #[.int .i64 n, .slice sa es.length cp] w fun r w' => ∃ z : Int, r = .returned (.int .i64 z) ∧ Chk n es z ∧ Keep nil w w' := by
  have HC : Unit → _ := fun _ => graphCheck_any n sa es cp w hsl hcp
  clear hsl hcp
  go_enter Tryz.func13, Tryz.ntmps13
  go_wp2_with fail
  refine Calls.mono (HC ()) ?_
  rintro r w2 ⟨z, rfl, hz, hk⟩
  have HZ : Unit → Chk n es z ∧ Keep nil w w2 := fun _ => ⟨hz, hk⟩
  clear hz hk HC
  go_wp2
  go_ret
  exact ⟨z, rfl, (HZ ()).1, (HZ ()).2⟩
end Go.Proofs.YtlfijfodklhplaaGreat
/- Walk of the document's Check. -/
namespace Go.Proofs.YtlfijfodklhplaaGreat
open Go.RowKit
set_option linter.unusedVariables false
set_option linter.unusedSimpArgs false

set_option maxRecDepth 100000 in
set_option maxHeartbeats 4000000 in
theorem refCheck_size (n : Int) (sa : Option Addr) (es : List Ed) (cp : Nat) (w : World) (hbad : BadSize n es) :
    Calls Tryz.prog 74 #[.int .i64 n, .slice sa es.length cp] w fun r w' => r = .returned (.int .i64 1) ∧ Keep nil w w' := by
  unfold BadSize at hbad
  go_enter Tryz.func74, Tryz.ntmps74
  rcases hbad with h | h | h
  · go_wp2
    go_ret
    exact ⟨rfl, Keep.refl nil w⟩
  · go_wp2
    all_goals
      go_ret
      exact ⟨rfl, Keep.refl nil w⟩
  · have h' : (30 : Int) < (es.length : Int) := by omega
    clear h
    go_wp2
    all_goals
      go_ret
      exact ⟨rfl, Keep.refl nil w⟩

/-- The cells of the marks. -/
def mks (N : Nat) (M : Nat → Bool) : Array Value := ((List.range N).map (fun i => Value.bool (M i))).toArray
theorem mks_get {N : Nat} {M : Nat → Bool} {k : Nat} (hk : k < N) : (mks N M)[k]? = some (.bool (M k)) := by
  unfold mks
  simp [hk]
theorem mks_set {N : Nat} {M : Nat → Bool} {k : Nat} : (mks N M).setIfInBounds k (.bool true) = mks N (mark M k) := by
  unfold mks
  apply Array.ext
  · simp
  · intro i h1 h2
    simp [mark, List.getElem_set]
    by_cases e : k = i
    · subst e; simp
    · simp [e, Ne.symm e]
theorem mk_marks (N : Nat) (w : World) (h1 : 1 ≤ N) (h2 : N ≤ 10) : (Instr.makeSlice 208 (.int .i64 (N : Int)) (.int .i64 (N : Int))).run Tryz.prog w = .ok (.slice (some ⟨w.heap.size, 0, none⟩) N N) (w.alloc (.cells (mks N (fun _ => false)) 4)) := by
  obtain rfl | rfl | rfl | rfl | rfl | rfl | rfl | rfl | rfl | rfl : N = 1 ∨ N = 2 ∨ N = 3 ∨ N = 4 ∨ N = 5 ∨ N = 6 ∨ N = 7 ∨ N = 8 ∨ N = 9 ∨ N = 10 := by omega
  all_goals
    clear h1 h2
    kernel_rfl
/-- The marks, as they lie. -/
structure MkS (w wx : World) (mb N : Nat) (M : Nat → Bool) : Prop where
  blk : Blk wx mb (mks N M) 4
  keep : Keep nil w wx
  new : w.heap.size ≤ mb
theorem MkS.two {w wx : World} {mb N : Nat} {M : Nat → Bool} (h : MkS w wx mb N M) (a b : Nat) : MkS w ((wx.setCell ⟨mb, a, none⟩ (.bool true)).setCell ⟨mb, b, none⟩ (.bool true)) mb N (mark (mark M a) b) := by
  refine ⟨?_, h.keep.trans' (((Keep.refl (only mb) wx).setCell (p := ⟨mb, a, none⟩) (fun _ => rfl) _).setCell (p := ⟨mb, b, none⟩) (fun _ => rfl) _) (fun i hi e => by simp only [only] at e; have := h.new; omega), h.new⟩
  have := (h.blk.set a (.bool true)).set b (.bool true)
  rwa [mks_set, mks_set] at this
theorem pass_take {es : List Ed} {i : Nat} {e : Ed} (he : es[i]? = some e) (M : Nat → Bool) : pass M (es.take (i + 1)) = spr (pass M (es.take i)) e := by
  unfold pass
  rw [List.take_add_one, he]
  simp
theorem inN_of' {N : Nat} {es : List Ed} (h : ¬ BadEdge (N : Int) es) : InN N es := fun e he => by
  have : ¬ Stray (N : Int) e := fun hs => h ⟨e, he, hs⟩
  unfold Stray at this
  omega

set_option maxRecDepth 100000 in
set_option maxHeartbeats 8000000 in
theorem refCheck_any (n : Int) (sa : Option Addr) (es : List Ed) (cp : Nat) (w : World) (hsl : ESl w sa es) (hbad : ¬ BadSize n es) :
    Calls Tryz.prog 74 #[.int .i64 n, .slice sa es.length cp] w fun r w' => ∃ z : Int, r = .returned (.int .i64 z) ∧ Chk n es z ∧ Keep nil w w' := by
  have HS : Unit → ¬ BadSize n es := fun _ => hbad
  have h1 : 1 ≤ n := by unfold BadSize at hbad; omega
  have h2 : n ≤ 10 := by unfold BadSize at hbad; omega
  have h3 : (es.length : Int) ≤ 30 := by unfold BadSize at hbad; omega
  have HL : Unit → es.length ≤ 30 ∧ 1 ≤ n ∧ n ≤ 10 := fun _ => ⟨by omega, h1, h2⟩
  have HB : Unit → ESl w sa es := fun _ => hsl
  clear hbad hsl
  go_enter Tryz.func74, Tryz.ntmps74
  go_wp2_with fail
  clear h1 h2 h3
  go_loopw [5] (fun v wr => ∃ i : Nat, i ≤ es.length ∧ v = .int .i64 (i : Int) ∧ Keep nil w wr ∧ ∀ e ∈ es.take i, ¬ Stray n e) (fun v _ => es.length - (intOf v).toNat)
  case atStart => exact ⟨0, by omega, rfl, Keep.refl _ _, fun e he => by simp at he⟩
  case round =>
    obtain ⟨i, hi, rfl, hkw, hall⟩ := hrel
    have HR : Unit → Keep nil w wr ∧ ∀ e ∈ es.take i, ¬ Stray n e := fun _ => ⟨hkw, hall⟩
    clear hkw hall
    by_cases hil : i < es.length
    · as_aux_lemma =>
      obtain ⟨e, he⟩ : ∃ e, es[i]? = some e := ⟨_, List.getElem?_eq_getElem hil⟩
      obtain ⟨bb, bo, rfl, hbb, hrow⟩ := (HB ()).some hil
      obtain ⟨q0, q1, q2⟩ := erow_get (hrow.keep (HR ()).1 hbb (fun e => e)) i e he
      have hbw : bb < wr.heap.size := Nat.lt_of_lt_of_le hbb (HR ()).1.size
      have hiI : (i : Int) < (es.length : Int) := by omega
      have hwi : (i : Int) < 1000 := by have := HL (); omega
      have HE : Unit → es[i]? = some e := fun _ => he
      obtain ⟨ea, eb, ew⟩ := e
      simp only at q0 q1 q2
      clear he hrow hbb
      by_cases hst : Stray n ⟨ea, eb, ew⟩
      · have HT : Unit → BadEdge n es := fun _ => ⟨_, List.mem_of_getElem? (HE ()), hst⟩
        have HK : Unit → Keep nil w wr := fun _ => (HR ()).1
        unfold Stray at hst
        simp only at hst
        by_cases g1 : ea < 0
        · go_wp2
          go_ret
          exact ⟨2, rfl, Chk.mk2 (HS ()) (HT ()), (HK ()).alloc _⟩
        by_cases g2 : n ≤ ea
        · go_wp2
          go_ret
          exact ⟨2, rfl, Chk.mk2 (HS ()) (HT ()), (HK ()).alloc _⟩
        by_cases g3 : eb < 0
        · go_wp2
          go_ret
          exact ⟨2, rfl, Chk.mk2 (HS ()) (HT ()), (HK ()).alloc _⟩
        by_cases g4 : n ≤ eb
        · go_wp2
          go_ret
          exact ⟨2, rfl, Chk.mk2 (HS ()) (HT ()), (HK ()).alloc _⟩
        have g5 : ea = eb := by omega
        subst g5
        clear hst
        go_wp2
        go_ret
        exact ⟨2, rfl, Chk.mk2 (HS ()) (HT ()), (HK ()).alloc _⟩
      · have HT : Unit → ¬ Stray n ⟨ea, eb, ew⟩ := fun _ => hst
        have g1 : 0 ≤ ea := by unfold Stray at hst; simp only at hst; omega
        have g2 : ea < n := by unfold Stray at hst; simp only at hst; omega
        have g3 : 0 ≤ eb := by unfold Stray at hst; simp only at hst; omega
        have g4 : eb < n := by unfold Stray at hst; simp only at hst; omega
        have g5 : ¬ ea = eb := by unfold Stray at hst; simp only at hst; omega
        clear hst
        go_wp2
        · rename_i hh
          rw [beq_iff_eq] at hh
          omega
        rename_i hh
        clear g1 g2 g3 g4 g5 hh
        go_roundw
        case rel =>
          refine ⟨i + 1, by omega, by go_num, (HR ()).1.alloc _, fun x hx => ?_⟩
          rcases (mem_take_succ (HE ())).1 hx with hx | rfl
          · exact (HR ()).2 x hx
          · exact HT ()
        case measure => simp [intOf]; omega
    · have ei : i = es.length := by omega
      subst ei
      have HE : Unit → ¬ BadEdge n es := fun _ ⟨e, he, hs⟩ => (HR ()).2 e (by rw [List.take_length]; exact he) hs
      have HK1 : Unit → Keep nil w wr := fun _ => (HR ()).1
      clear HR hil hi
      go_wp2_with fail
      go_loopw [7] (fun v wx => ∃ i : Nat, i ≤ es.length ∧ v = .int .i64 (i : Int) ∧ Keep nil w wx ∧ (∀ e ∈ es.take i, ¬ Heavy e) ∧ ∀ (k j : Nat) (e f : Ed), k < i → j < k → es[k]? = some e → es[j]? = some f → ¬ SameW e f) (fun v _ => es.length - (intOf v).toNat)
      case atStart => exact ⟨0, by omega, rfl, HK1 (), fun e he => by simp at he, fun k j e f h => by omega⟩
      case round =>
        obtain ⟨i, hi, rfl, hkw, hall, hall2⟩ := hrel
        have HR : Unit → Keep nil w wr ∧ (∀ e ∈ es.take i, ¬ Heavy e) ∧ ∀ (k j : Nat) (e f : Ed), k < i → j < k → es[k]? = some e → es[j]? = some f → ¬ SameW e f := fun _ => ⟨hkw, hall, hall2⟩
        clear hkw hall hall2 HK1
        by_cases hil : i < es.length
        · as_aux_lemma =>
          obtain ⟨e, he⟩ : ∃ e, es[i]? = some e := ⟨_, List.getElem?_eq_getElem hil⟩
          obtain ⟨bb, bo, rfl, hbb, hrow⟩ := (HB ()).some hil
          obtain ⟨q0, q1, q2⟩ := erow_get (hrow.keep (HR ()).1 hbb (fun e => e)) i e he
          have hbw : bb < wr.heap.size := Nat.lt_of_lt_of_le hbb (HR ()).1.size
          have hiI : (i : Int) < (es.length : Int) := by omega
          have hwi : (i : Int) < 1000 := by have := HL (); omega
          have HE2 : Unit → es[i]? = some e ∧ ERow w bb bo es ∧ bb < w.heap.size := fun _ => ⟨he, hrow, hbb⟩
          obtain ⟨ea, eb, ew⟩ := e
          simp only at q0 q1 q2
          clear he hrow hbb q0 q1
          by_cases g1 : ew < 1
          · have HT : Unit → BadW es := fun _ => Or.inl ⟨_, List.mem_of_getElem? (HE2 ()).1, Or.inl g1⟩
            go_wp2
            go_ret
            exact ⟨3, rfl, Chk.mk3 (HS ()) (HE ()) (HT ()), (HR ()).1⟩
          by_cases g2 : 1000 < ew
          · have HT : Unit → BadW es := fun _ => Or.inl ⟨_, List.mem_of_getElem? (HE2 ()).1, Or.inr g2⟩
            go_wp2
            go_ret
            exact ⟨3, rfl, Chk.mk3 (HS ()) (HE ()) (HT ()), (HR ()).1⟩
          have HT : Unit → ¬ Heavy ⟨ea, eb, ew⟩ := fun _ h => h.elim g1 g2
          go_wp2_with fail
          clear g1 g2
          go_loopw [8] (fun v wx => ∃ j : Nat, j ≤ i ∧ v = .int .i64 (j : Int) ∧ Keep nil w wx ∧ ∀ (k : Nat) (f : Ed), k < j → es[k]? = some f → ¬ ew = f.wt) (fun v _ => i - (intOf v).toNat)
          case atStart => exact ⟨0, by omega, rfl, (HR ()).1, fun k f h => by omega⟩
          case round =>
            obtain ⟨j, hj, rfl, hkw, hall⟩ := hrel
            have HQ : Unit → Keep nil w wr ∧ ∀ (k : Nat) (f : Ed), k < j → es[k]? = some f → ¬ ew = f.wt := fun _ => ⟨hkw, hall⟩
            clear hkw hall q2 hbw
            by_cases hjl : j < i
            · obtain ⟨f, hf⟩ : ∃ f, es[j]? = some f := ⟨_, List.getElem?_eq_getElem (Nat.lt_trans hjl hil)⟩
              obtain ⟨_, _, q2⟩ := erow_get ((HE2 ()).2.1.keep (HQ ()).1 (HE2 ()).2.2 (fun e => e)) i _ (HE2 ()).1
              obtain ⟨_, _, q3⟩ := erow_get ((HE2 ()).2.1.keep (HQ ()).1 (HE2 ()).2.2 (fun e => e)) j f hf
              have hbw : bb < wr.heap.size := Nat.lt_of_lt_of_le (HE2 ()).2.2 (HQ ()).1.size
              have hjI : (j : Int) < (i : Int) := by omega
              have HF : Unit → es[j]? = some f := fun _ => hf
              obtain ⟨fa, fb, fw⟩ := f
              simp only at q2 q3
              clear hf
              by_cases g : fw = ew
              · subst g
                have HT2 : Unit → BadW es := fun _ => Or.inr ⟨i, j, _, _, hjl, (HE2 ()).1, HF (), rfl⟩
                go_wp2_with fail
                go_quiet (fail)
                go_wp2
                go_ret
                exact ⟨3, rfl, Chk.mk3 (HS ()) (HE ()) (HT2 ()), (HQ ()).1.drewN _⟩
              · go_wp2_with fail
                go_quiet (fail)
                go_wp2
                refine ⟨⟨j + 1, by omega, by go_num, (HQ ()).1.drewN _, fun k f hk hf => ?_⟩, by simp [intOf]; omega⟩
                by_cases hkj : k < j
                · exact (HQ ()).2 k f hkj hf
                · have e1 : k = j := by omega
                  subst e1
                  rw [HF ()] at hf
                  cases hf
                  exact fun h => g h.symm
            · have ej : j = i := by omega
              subst ej
              go_wp2
              go_roundw
              case rel =>
                refine ⟨j + 1, by omega, by go_num, (HQ ()).1, fun x hx => ?_, fun k j2 x y hk hj2 hx hy => ?_⟩
                · rcases (mem_take_succ (HE2 ()).1).1 hx with hx | rfl
                  · exact (HR ()).2.1 x hx
                  · exact HT ()
                · by_cases hij : k < j
                  · exact (HR ()).2.2 k j2 x y hij hj2 hx hy
                  · have e1 : k = j := by omega
                    subst e1
                    rw [(HE2 ()).1] at hx
                    cases hx
                    exact (HQ ()).2 j2 y hj2 hy
              case measure => simp [intOf]; omega
        · have ei : i = es.length := by omega
          subst ei
          have HW : Unit → ¬ BadW es := fun _ h => by
            rcases h with ⟨e, he, hh⟩ | ⟨i, j, e, f, h1, h2, h3, h4⟩
            · exact (HR ()).2.1 e (by rw [List.take_length]; exact he) hh
            · exact (HR ()).2.2 i j e f (List.getElem?_eq_some_iff.1 h2).1 h1 h2 h3 h4
          have HK2 : Unit → Keep nil w wr := fun _ => (HR ()).1
          clear HR hil hi
          go_wp2_with fail
          go_loopw [9] (fun v wx => ∃ i : Nat, i ≤ es.length ∧ v = .int .i64 (i : Int) ∧ Keep nil w wx ∧ ∀ (k j : Nat) (e f : Ed), k < i → j < k → es[k]? = some e → es[j]? = some f → sameEB e f = false) (fun v _ => es.length - (intOf v).toNat)
          case atStart => exact ⟨0, by omega, rfl, HK2 (), fun k j e f h => by omega⟩
          case round =>
            obtain ⟨i, hi, rfl, hkw, hall⟩ := hrel
            have HR : Unit → Keep nil w wr ∧ ∀ (k j : Nat) (e f : Ed), k < i → j < k → es[k]? = some e → es[j]? = some f → sameEB e f = false := fun _ => ⟨hkw, hall⟩
            clear hkw hall HK2
            by_cases hil : i < es.length
            · as_aux_lemma =>
              obtain ⟨e, he⟩ : ∃ e, es[i]? = some e := ⟨_, List.getElem?_eq_getElem hil⟩
              obtain ⟨bb, bo, rfl, hbb, hrow⟩ := (HB ()).some hil
              have hiI : (i : Int) < (es.length : Int) := by omega
              have hwi : (i : Int) < 1000 := by have := HL (); omega
              have HE2 : Unit → es[i]? = some e ∧ ERow w bb bo es ∧ bb < w.heap.size := fun _ => ⟨he, hrow, hbb⟩
              obtain ⟨ea, eb, ew⟩ := e
              clear he hrow hbb
              go_wp2_with fail
              go_loopw [10] (fun v wx => ∃ j : Nat, j ≤ i ∧ v = .int .i64 (j : Int) ∧ Keep nil w wx ∧ ∀ (k : Nat) (f : Ed), k < j → es[k]? = some f → sameEB ⟨ea, eb, ew⟩ f = false) (fun v _ => i - (intOf v).toNat)
              case atStart => exact ⟨0, by omega, rfl, (HR ()).1, fun k f h => by omega⟩
              case round =>
                obtain ⟨j, hj, rfl, hkw, hall⟩ := hrel
                have HQ : Unit → Keep nil w wr ∧ ∀ (k : Nat) (f : Ed), k < j → es[k]? = some f → sameEB ⟨ea, eb, ew⟩ f = false := fun _ => ⟨hkw, hall⟩
                clear hkw hall
                by_cases hjl : j < i
                · as_aux_lemma =>
                  obtain ⟨f, hf⟩ : ∃ f, es[j]? = some f := ⟨_, List.getElem?_eq_getElem (Nat.lt_trans hjl hil)⟩
                  obtain ⟨q0, q1, q2⟩ := erow_get ((HE2 ()).2.1.keep (HQ ()).1 (HE2 ()).2.2 (fun e => e)) i _ (HE2 ()).1
                  obtain ⟨q3, q4, q5⟩ := erow_get ((HE2 ()).2.1.keep (HQ ()).1 (HE2 ()).2.2 (fun e => e)) j f hf
                  have hbw : bb < wr.heap.size := Nat.lt_of_lt_of_le (HE2 ()).2.2 (HQ ()).1.size
                  have hjI : (j : Int) < (i : Int) := by omega
                  have HF : Unit → es[j]? = some f := fun _ => hf
                  obtain ⟨fa, fb, fw⟩ := f
                  simp only at q0 q1 q2 q3 q4 q5
                  clear hf
                  go_upto_region 27 with fail
                  go_cut [145] (fun v wx => v = .bool (sameEB ⟨ea, eb, ew⟩ ⟨fa, fb, fw⟩) ∧ wx = (wr.alloc (.cells #[.int .i64 ea, .int .i64 eb, .int .i64 ew] 30)).alloc (.cells #[.int .i64 fa, .int .i64 fb, .int .i64 fw] 30))
                  case first =>
                    go_wp2
                    all_goals
                      go_meet
                      case rel => exact ⟨by simp_all [sameEB], by first | rfl | simp_all⟩
                  case rest =>
                    obtain ⟨rfl, rfl⟩ := hcut
                    generalize hp : sameEB ⟨ea, eb, ew⟩ ⟨fa, fb, fw⟩ = pe
                    have HP : Unit → sameEB ⟨ea, eb, ew⟩ ⟨fa, fb, fw⟩ = pe := fun _ => hp
                    clear hp
                    cases pe
                    · go_wp2
                      go_roundw
                      case rel =>
                        refine ⟨j + 1, by omega, by go_num, ((HQ ()).1.alloc _).alloc _, fun k f hk hf => ?_⟩
                        by_cases hkj : k < j
                        · exact (HQ ()).2 k f hkj hf
                        · have e1 : k = j := by omega
                          subst e1
                          rw [HF ()] at hf
                          cases hf
                          exact HP ()
                      case measure => simp [intOf]; omega
                    · go_wp2
                      go_ret
                      exact ⟨4, rfl, Chk.mk4 (HS ()) (HE ()) (HW ()) ⟨i, j, _, _, hjl, (HE2 ()).1, HF (), by simpa [sameEB, SameE] using HP ()⟩, ((HQ ()).1.alloc _).alloc _⟩
                · have ej : j = i := by omega
                  subst ej
                  go_wp2
                  go_roundw
                  case rel =>
                    refine ⟨j + 1, by omega, by go_num, (HQ ()).1, fun k j2 x y hk hj2 hx hy => ?_⟩
                    by_cases hij : k < j
                    · exact (HR ()).2 k j2 x y hij hj2 hx hy
                    · have e1 : k = j := by omega
                      subst e1
                      rw [(HE2 ()).1] at hx
                      cases hx
                      exact (HQ ()).2 j2 y hj2 hy
                  case measure => simp [intOf]; omega
            · have ei : i = es.length := by omega
              subst ei
              have HT : Unit → ¬ Two SameE es := fun _ ⟨i, j, e, f, h1, h2, h3, h4⟩ => by
                have := (HR ()).2 i j e f (List.getElem?_eq_some_iff.1 h2).1 h1 h2 h3
                simp [sameEB] at this
                unfold SameE at h4
                omega
              have HK3 : Unit → Keep nil w wr := fun _ => (HR ()).1
              clear HR hil hi
              obtain ⟨N, rfl⟩ : ∃ N : Nat, n = (N : Int) := ⟨n.toNat, by have := HL (); omega⟩
              have HN : Unit → 1 ≤ N ∧ N ≤ 10 ∧ InN N es := fun _ => ⟨by have := HL (); omega, by have := HL (); omega, inN_of' (HE ())⟩
              have hmk := fun w => mk_marks N w (HN ()).1 (HN ()).2.1
              have hN1 : (0 : Int) < (N : Int) := by have := HN (); omega
              have hN10 : (N : Int) ≤ 10 := by have := HN (); omega
              go_upto_region 30 with fail
              obtain ⟨W1, hW1⟩ : ∃ W1, W1 = wr.alloc (.cells (mks N (fun _ => false)) 4) := ⟨_, rfl⟩
              have hbx : Blk W1 wr.heap.size (mks N (fun _ => false)) 4 := by rw [hW1]; exact Blk.new _ _ _
              have hk1 : Keep nil w W1 := by rw [hW1]; exact (HK3 ()).alloc _
              rw [← hW1]
              obtain ⟨mb, hmb⟩ : ∃ mb, mb = wr.heap.size := ⟨_, rfl⟩
              rw [← hmb] at hbx ⊢
              have hmw : w.heap.size ≤ mb := by rw [hmb]; exact (HK3 ()).size
              have z0 := hbx.cell 0
              rw [mks_get (by have := HN (); omega)] at z0
              have zf := hbx.frozen 0
              have HX : Unit → MkS w (W1.setCell ⟨mb, 0, none⟩ (.bool true)) mb N zero0 := fun _ => by
                refine ⟨?_, hk1.trans' ((Keep.refl (only mb) W1).setCell (p := ⟨mb, 0, none⟩) (fun _ => rfl) _) (fun i hi e => by simp only [only] at e; omega), hmw⟩
                have := hbx.set 0 (.bool true)
                rwa [mks_set] at this
              clear hW1 hbx hk1 hmb hmw hmk HK3
              go_wp2_with fail
              clear z0 zf
              go_loopw [14] (fun v wx => ∃ r : Nat, r ≤ N ∧ v = .int .i64 (r : Int) ∧ MkS w wx mb N (rounds es zero0 r)) (fun v _ => N - (intOf v).toNat)
              case atStart => exact ⟨0, by omega, rfl, HX ()⟩
              case round =>
                obtain ⟨r, hr, rfl, hms⟩ := hrel
                have HM : Unit → MkS w wr mb N (rounds es zero0 r) := fun _ => hms
                clear hms HX
                by_cases hrl : r < N
                · as_aux_lemma =>
                  have hrI : (r : Int) < (N : Int) := by omega
                  go_wp2_with fail
                  go_loopw [15] (fun v wx => ∃ i : Nat, i ≤ es.length ∧ v = .int .i64 (i : Int) ∧ MkS w wx mb N (pass (rounds es zero0 r) (es.take i))) (fun v _ => es.length - (intOf v).toNat)
                  case atStart => exact ⟨0, by omega, rfl, HM ()⟩
                  case round =>
                    obtain ⟨i, hi, rfl, hms⟩ := hrel
                    clear HM
                    by_cases hil : i < es.length
                    · as_aux_lemma =>
                      obtain ⟨e, he⟩ : ∃ e, es[i]? = some e := ⟨_, List.getElem?_eq_getElem hil⟩
                      obtain ⟨bb, bo, rfl, hbb, hrow⟩ := (HB ()).some hil
                      obtain ⟨q0, q1, q2⟩ := erow_get (hrow.keep hms.keep hbb (fun e => e)) i e he
                      have hbw : bb < wr.heap.size := Nat.lt_of_lt_of_le hbb hms.keep.size
                      have hmw : mb < wr.heap.size := hms.blk.lt
                      have hbm : ¬ bb = mb := by have := hms.new; omega
                      have hmb : ¬ mb = bb := fun h => hbm h.symm
                      have hiI : (i : Int) < (es.length : Int) := by omega
                      have hwi : (i : Int) < 1000 := by have := HL (); omega
                      have hin := (HN ()).2.2 e (List.mem_of_getElem? he)
                      have hns : e.a ≠ e.b := fun h => HE () ⟨e, List.mem_of_getElem? he, by unfold Stray; omega⟩
                      have HF : Unit → es[i]? = some e := fun _ => he
                      obtain ⟨ea, eb, ew⟩ := e
                      simp only at q0 q1 q2 hin hns
                      obtain ⟨na, rfl⟩ : ∃ na : Nat, ea = (na : Int) := ⟨ea.toNat, by omega⟩
                      obtain ⟨nb, rfl⟩ : ∃ nb : Nat, eb = (nb : Int) := ⟨eb.toNat, by omega⟩
                      have hn1 : (na : Int) < (N : Int) := by omega
                      have hn2 : (nb : Int) < (N : Int) := by omega
                      have hab : ¬ na = nb := by omega
                      have hba : ¬ nb = na := by omega
                      have HP : Unit → pass (rounds es zero0 r) (es.take (i + 1)) = spr (pass (rounds es zero0 r) (es.take i)) ⟨(na : Int), (nb : Int), ew⟩ := fun _ => pass_take (HF ()) _
                      generalize pass (rounds es zero0 r) (es.take i) = P0 at hms HP
                      have z1 := hms.blk.cell na
                      have z2 := hms.blk.cell nb
                      rw [mks_get (by omega)] at z1 z2
                      have f1 := hms.blk.frozen na
                      have f2 := hms.blk.frozen nb
                      have HM : Unit → MkS w wr mb N P0 := fun _ => hms
                      clear hms he hrow hbb hin hns
                      cases hA : P0 na
                      · cases hB : P0 nb
                        · rw [hA] at z1
                          rw [hB] at z2
                          have HP1 : Unit → pass (rounds es zero0 r) (es.take (i + 1)) = P0 := fun _ => by rw [HP ()]; unfold spr; simp [hA, hB]
                          clear hA hB HP
                          go_wp2
                          go_roundw
                          case rel => exact ⟨i + 1, by omega, by go_num, by rw [HP1 ()]; exact HM ()⟩
                          case measure => simp [intOf]; omega
                        · rw [hA] at z1
                          rw [hB] at z2
                          have HP1 : Unit → pass (rounds es zero0 r) (es.take (i + 1)) = mark (mark P0 na) nb := fun _ => by rw [HP ()]; unfold spr; simp [hA, hB]
                          clear hA hB HP
                          go_wp2
                          go_roundw
                          case rel => exact ⟨i + 1, by omega, by go_num, by rw [HP1 ()]; exact (HM ()).two na nb⟩
                          case measure => simp [intOf]; omega
                      · rw [hA] at z1
                        have HP1 : Unit → pass (rounds es zero0 r) (es.take (i + 1)) = mark (mark P0 na) nb := fun _ => by rw [HP ()]; unfold spr; simp [hA]
                        clear hA HP
                        go_wp2
                        go_roundw
                        case rel => exact ⟨i + 1, by omega, by go_num, by rw [HP1 ()]; exact (HM ()).two na nb⟩
                        case measure => simp [intOf]; omega
                    · have ei : i = es.length := by omega
                      subst ei
                      rw [List.take_length] at hms
                      have HM2 : Unit → MkS w wr mb N (rounds es zero0 (r + 1)) := fun _ => hms
                      clear hms hi hil
                      go_wp2
                      go_roundw
                      case rel => exact ⟨r + 1, by omega, by go_num, HM2 ()⟩
                      case measure => simp [intOf]; omega
                · have er : r = N := by omega
                  subst er
                  clear hr hrl
                  have HJ : Unit → (Joined r es ↔ ∀ k, k < r → rounds es zero0 r k = true) := fun _ => rounds_joined (by have := HN (); omega) (fun e he => by have := (HN ()).2.2 e he; omega)
                  have HZ : Unit → ((r : Int)).toNat = r := fun _ => by simp
                  generalize rounds es zero0 r = RN at HM HJ
                  go_wp2_with fail
                  go_loopw [16] (fun v wx => ∃ i : Nat, i ≤ r ∧ v = .int .i64 (i : Int) ∧ MkS w wx mb r RN ∧ ∀ k, k < i → RN k = true) (fun v _ => r - (intOf v).toNat)
                  case atStart => exact ⟨0, by omega, rfl, HM (), fun k hk => by omega⟩
                  case round =>
                    obtain ⟨i, hi, rfl, hms, hall⟩ := hrel
                    have HQ : Unit → MkS w wr mb r RN ∧ ∀ k, k < i → RN k = true := fun _ => ⟨hms, hall⟩
                    clear HM hall
                    by_cases hil : i < r
                    · have hiI : (i : Int) < (r : Int) := by omega
                      have hmw : mb < wr.heap.size := hms.blk.lt
                      have z1 := hms.blk.cell i
                      rw [mks_get hil] at z1
                      clear hms
                      cases hA : RN i
                      · rw [hA] at z1
                        have HN5 : Unit → ¬ Joined (r : Int).toNat es := fun _ h => by
                          rw [HZ ()] at h
                          have := (HJ ()).1 h i hil
                          rw [hA] at this
                          cases this
                        clear hA
                        go_wp2
                        go_ret
                        exact ⟨5, rfl, Chk.mk5 (HS ()) (HE ()) (HW ()) (HT ()) (HN5 ()), (HQ ()).1.keep⟩
                      · rw [hA] at z1
                        have HA : Unit → RN i = true := fun _ => hA
                        clear hA
                        go_wp2
                        go_roundw
                        case rel =>
                          refine ⟨i + 1, by omega, by go_num, (HQ ()).1, fun k hk => ?_⟩
                          by_cases e : k = i
                          · rw [e]; exact HA ()
                          · exact (HQ ()).2 k (by omega)
                        case measure => simp [intOf]; omega
                    · have ei : i = r := by omega
                      subst ei
                      clear hms
                      go_wp2
                      go_ret
                      exact ⟨0, rfl, Chk.mk0 (HS ()) (HE ()) (HW ()) (HT ()) (by rw [HZ ()]; exact (HJ ()).2 (HQ ()).2), (HQ ()).1.keep⟩
end Go.Proofs.YtlfijfodklhplaaGreat
