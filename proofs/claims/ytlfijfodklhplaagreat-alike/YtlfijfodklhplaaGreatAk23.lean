import Derived.Test.YtlfijfodklhplaaGreatAk22
/- A packet is spoilt. -/
namespace Go.Proofs.YtlfijfodklhplaaGreat
open Go.RowKit
set_option linter.unusedVariables false
set_option linter.unusedSimpArgs false

set_option maxRecDepth 100000 in
set_option maxHeartbeats 2000000 in
theorem spoil_yes (pb po g c ln k v y : Nat) (w : World) (c2 : w.cell? ⟨pb, po + 2, none⟩ = some (.slice (some ⟨g, 0, none⟩) ln c)) (c3 : w.cell? ⟨pb, po + 3, none⟩ = some (.bool false)) (f3 : w.frozen? ⟨pb, po + 3, none⟩ = false) (hpl : pb < w.heap.size) (hgl : g < w.heap.size) (hgp : ¬ g = pb) (cv : w.cell? ⟨g, k, none⟩ = some (.int .u8 (v : Int))) (fv : w.frozen? ⟨g, k, none⟩ = false) (hk : (k : Int) < (ln : Int)) (hy : ¬ (y : Int) = 0) (hv : v < 256) (hy8 : y < 256) :
    Calls Tryz.prog 122 #[.pointer (some ⟨pb, po, none⟩), .int .i64 (k : Int), .int .u8 (y : Int)] w fun r w' => r = .returned (.int .i64 0) ∧ w' = (w.setCell ⟨g, k, none⟩ (.int .u8 ((v ^^^ y : Nat) : Int))).setCell ⟨pb, po + 3, none⟩ (.bool true) := by
  have HX : Unit → bits .xor .u8 (v : Int) (y : Int) = ((v ^^^ y : Nat) : Int) := fun _ => u8_xor_nat v y hv hy8
  clear hv hy8
  have hgp2 : ¬ pb = g := fun e => hgp e.symm
  have hy2 : ((y : Int) == 0) = false := by rw [beq_eq_false_iff_ne]; exact hy
  go_enter Tryz.func122, Tryz.ntmps122
  go_wp2
  go_ret
  exact ⟨rfl, by rw [HX ()]⟩

set_option maxRecDepth 100000 in
set_option maxHeartbeats 2000000 in
theorem spoil_no (pb po g c ln y : Nat) (sp : Bool) (k : Int) (w : World) (c2 : w.cell? ⟨pb, po + 2, none⟩ = some (.slice (some ⟨g, 0, none⟩) ln c)) (c3 : w.cell? ⟨pb, po + 3, none⟩ = some (.bool sp)) (hpl : pb < w.heap.size) (hno : sp = true ∨ k < 0 ∨ (ln : Int) ≤ k ∨ y = 0) :
    Calls Tryz.prog 122 #[.pointer (some ⟨pb, po, none⟩), .int .i64 k, .int .u8 (y : Int)] w fun r w' => r = .returned (.int .i64 8) ∧ Keep nil w w' := by
  by_cases h1 : sp = true
  · subst h1
    clear hno
    go_enter Tryz.func122, Tryz.ntmps122
    go_wp2
    go_ret
    exact ⟨rfl, Keep.refl _ _⟩
  · have h1' : sp = false := by simpa using h1
    subst h1'
    by_cases h2 : k < 0
    · clear hno h1
      go_enter Tryz.func122, Tryz.ntmps122
      go_wp2
      go_ret
      exact ⟨rfl, Keep.refl _ _⟩
    · obtain ⟨n, rfl⟩ : ∃ n : Nat, k = (n : Int) := ⟨k.toNat, by omega⟩
      by_cases h3 : (ln : Int) ≤ (n : Int)
      · clear hno h1 h2
        have h2 : ¬ (n : Int) < 0 := by omega
        go_enter Tryz.func122, Tryz.ntmps122
        go_wp2
        go_ret
        exact ⟨rfl, Keep.refl _ _⟩
      · have hy : y = 0 := by
          rcases hno with e | e | e | e
          · exact (h1 e).elim
          · omega
          · omega
          · exact e
        subst hy
        clear hno h1 h2
        have h2 : ¬ (n : Int) < 0 := by omega
        have h4 : (n : Int) < (ln : Int) := by omega
        clear h3
        go_enter Tryz.func122, Tryz.ntmps122
        go_wp2
        go_ret
        exact ⟨rfl, Keep.refl _ _⟩
end Go.Proofs.YtlfijfodklhplaaGreat
/- What a bag tells. -/
namespace Go.Proofs.YtlfijfodklhplaaGreat
open Go.RowKit
set_option linter.unusedVariables false
set_option linter.unusedSimpArgs false

def tkcell (x : Pk) : List Value := [.int .i64 (x.from_ : Int), .int .i64 (x.to_ : Int), x.slice]
def tkcells (L : List Pk) : List Value := L.flatMap tkcell
def Pk.tri (x : Pk) : Nat × Nat × List Nat := (x.from_, x.to_, x.l)
theorem field_packet (a b c d : Value) (w : World) : (Instr.field 200 (.agg #[a, b, c, d]) 0).run Tryz.prog w = .ok (.agg #[a, b, c]) w := by
  have hs : (Tryz.prog.info? 58).map (fun i => i.size) = some 3 := by kernel_rfl
  obtain ⟨i, hi, h⟩ := Option.map_eq_some_iff.1 hs
  simp [Instr.field, run_underlying Tryz.underlying200, run_underlying Tryz.underlying58, part, asAgg, typeInfo, sizeOf, hi, h]
theorem apacket_info : (Tryz.prog.info? 58).map (fun i => (i.zero, i.size, i.bytes)) = some (some (.agg #[.int .i64 0, .int .i64 0, .slice none 0 0]), 3, 40) := by kernel_rfl
/-- Packets that were told: each with bytes of its own, apart from all others. -/
structure Tel (w wr : World) (L T : List Pk) (a : Option Addr) (c : Nat) : Prop where
  keep : Keep nil w wr
  row : RV wr 58 3 a T.length c (tkcells T)
  new : ∀ i, inB a i → w.heap.size ≤ i
  same : T.map Pk.tri = L.map Pk.tri
  each : ∀ x ∈ T, PRow wr x.g x.l x.c ∧ w.heap.size ≤ x.g ∧ ¬ inB a x.g
  apart : T.Pairwise (fun x y => x.g ≠ y.g)
theorem Tel.next {w wr w2 w4 : World} {L T : List Pk} {a a' : Option Addr} {c c' : Nat} (h : Tel w wr L T a c) (x y : Pk) (hxy : y.tri = x.tri) (hk2 : Keep nil wr w2) (hy : PRow w2 y.g y.l y.c) (hyn : wr.heap.size ≤ y.g) (hrow : RV w4 58 3 a' (T.length + 1) c' (tkcells T ++ tkcell y)) (hd : ∀ g, inB a' g → inB a g ∨ w2.heap.size ≤ g) (hk : Keep (inB a) w2 w4) :
    Tel w w4 (L ++ [x]) (T ++ [y]) a' c' := by
  have hyl : y.g < w2.heap.size := hy.lt y.g (inB_self _ _)
  have hya : ¬ inB a y.g := fun e => by have := h.row.lt _ e; omega
  have old : ∀ g, g < w2.heap.size → ¬ inB a g → ¬ inB a' g := fun g hg hn e => by
    rcases hd g e with e | e
    · exact hn e
    · omega
  refine ⟨?_, ?_, ?_, ?_, ?_, ?_⟩
  · exact (h.keep.trans hk2).trans' hk (fun i hi e => by have := h.new i e; omega)
  · have e1 : tkcells (T ++ [y]) = tkcells T ++ tkcell y := by simp [tkcells]
    rw [e1, List.length_append]
    exact hrow
  · intro i hi
    rcases hd i hi with hi | hi
    · exact h.new i hi
    · exact Nat.le_trans (h.keep.trans hk2).size hi
  · simp [h.same, hxy]
  · intro z hz
    rcases List.mem_append.1 hz with hz | hz
    · obtain ⟨z1, z2, z3⟩ := h.each z hz
      have zl : z.g < w2.heap.size := Nat.lt_of_lt_of_le (z1.lt z.g (inB_self _ _)) hk2.size
      exact ⟨(z1.keep hk2 (fun _ _ e => e)).keep hk (fun g hg e => by have e2 := inB_some.1 hg; rw [e2] at e; exact z3 e), z2, old z.g zl z3⟩
    · rw [List.mem_singleton.1 hz]
      exact ⟨hy.keep hk (fun g hg e => by have e2 := inB_some.1 hg; rw [e2] at e; exact hya e), Nat.le_trans h.keep.size hyn, old y.g hyl hya⟩
  · rw [List.pairwise_append]
    refine ⟨h.apart, List.pairwise_singleton _ _, fun u hu v hv => ?_⟩
    rw [List.mem_singleton.1 hv]
    have := (h.each u hu).1.lt u.g (inB_self _ _)
    omega

set_option maxRecDepth 100000 in
set_option maxHeartbeats 2000000 in
theorem bagTell_any (nb o : Nat) (L : List Pk) (ba : Option Addr) (bc : Nat) (w : World) (h : Bag w nb o L ba bc) (hl : (L.length : Int) ≤ 300) (hp : ∀ x ∈ L, PRow w x.g x.l x.c ∧ 0 < x.l.length ∧ (x.l.length : Int) < 1000) :
    Calls Tryz.prog 72 #[.slice ba L.length bc] w fun r w' => ∃ T a c, r = .returned (.slice a T.length c) ∧ Tel w w' L T a c := by
  have H : Unit → Bag w nb o L ba bc ∧ (L.length : Int) ≤ 300 ∧ ∀ x ∈ L, PRow w x.g x.l x.c ∧ 0 < x.l.length ∧ (x.l.length : Int) < 1000 := fun _ => ⟨h, hl, hp⟩
  have H0 : Unit → Tel w w [] [] none 0 := fun _ => by
    have hnn : ∀ i, ¬ inB none i := fun i e => by obtain ⟨_, e⟩ := e; cases e
    exact ⟨Keep.refl _ _, ⟨rfl, Nat.le_refl _, Or.inl ⟨rfl, rfl, rfl⟩⟩, fun i e => (hnn i e).elim, rfl, (fun x hx => by cases hx), List.Pairwise.nil⟩
  clear h hl hp
  go_enter Tryz.func72, Tryz.ntmps72
  go_wp2_with fail
  go_loopw [3, 8] (fun u v wr => ∃ (k : Nat) (T : List Pk) (a : Option Addr) (c : Nat), k ≤ L.length ∧ v = .int .i64 (k : Int) ∧ u = .slice a k c ∧ T.length = k ∧ Tel w wr (L.take k) T a c) (fun _ v _ => L.length - (intOf v).toNat)
  case atStart => exact ⟨0, [], none, 0, by omega, rfl, rfl, rfl, H0 ()⟩
  case round =>
    obtain ⟨k, T, a, c, hk, rfl, rfl, hT, htel⟩ := hrel
    have HQ : Unit → Tel w wr (L.take k) T a c ∧ k ≤ L.length ∧ T.length = k := fun _ => ⟨htel, hk, hT⟩
    clear htel
    by_cases hkl : k < L.length
    · have HKL : Unit → k < L.length := fun _ => hkl
      have hkI : (k : Int) < (L.length : Int) := by omega
      obtain ⟨x, hx⟩ : ∃ x, L[k]? = some x := ⟨_, List.getElem?_eq_getElem hkl⟩
      have HX : Unit → L[k]? = some x ∧ PRow w x.g x.l x.c ∧ 0 < x.l.length ∧ (x.l.length : Int) < 1000 := fun _ => ⟨hx, (H ()).2.2 x (List.mem_of_getElem? hx)⟩
      have hB := (H ()).1
      have hkw := (HQ ()).1.keep
      obtain ⟨g, q, hga, hgl, e0, e1, e2, e3⟩ := Bag.at_ ⟨Nat.lt_of_lt_of_le hB.lt hkw.size, (hkw.cell nb o hB.lt id).trans hB.cell, (hkw.frozen nb o hB.lt id).trans hB.frz, hB.row.keep hkw (fun _ _ e => e), hB.nb_⟩ k x hx
      have hk9 : (k : Int) < 1000 := by have := (H ()).2.1; omega
      have HK9 : Unit → (k : Int) < 1000 := fun _ => hk9
      have HA : Unit → ∀ w1, Keep nil wr w1 → _ := fun _ w1 k1 => alike_any x w1 (((HX ()).2.1.keep (HQ ()).1.keep (fun _ _ e => e)).keep k1 (fun _ _ e => e)) (HX ()).2.2.1 (HX ()).2.2.2
      rw [hga]
      obtain ⟨xf, xt, xl, xg, xc, xs⟩ := x
      simp only [pkv, Pk.slice] at e0 e1 e2 e3 HA
      clear hkl hk hT hx hB hkw hga
      generalize hxl : xl.length = xln at e2 HA
      go_wp2_with fail
      refine Calls.mono (HA () _ ((Keep.refl nil wr).alloc _)) ?_
      rintro r w2 ⟨g', c', rfl, hp', hk', hgs⟩
      have hk2 : Keep nil wr w2 := ((Keep.refl nil wr).alloc _).trans hk'
      have hgn : wr.heap.size ≤ g' := by simp only [World.size_alloc] at hgs; omega
      have HRW : Unit → RV w2 58 3 a k c (tkcells T) := fun _ => by have := (HQ ()).1.row.keep hk2 (fun _ _ e => e); rw [(HQ ()).2.2] at this; exact this
      clear HA e0 e1 e2 e3 hgs hk'
      have hfp := field_packet
      go_wp2_with (at_builtin; refine wpList_append_rvS _ rfl (.tmp 12) (.tmp 16) 54 rfl 58 (.agg #[.int .i64 0, .int .i64 0, .slice none 0 0]) 3 40 Tryz.underlying54 apacket_info rfl a k c rfl (tkcells T) ((HRW ()).alloc _) ⟨w2.heap.size, 0, none⟩ 1 1 (by omega) rfl [.int .i64 (xf : Int), .int .i64 (xt : Int), .slice (some ⟨g', 0, none⟩) xln c'] rfl (cells_elist w2 [.int .i64 (xf : Int), .int .i64 (xt : Int), .slice (some ⟨g', 0, none⟩) xln c'] 58 _ rfl) (by intro u hu; simp at hu; rcases hu with rfl | rfl | rfl <;> rfl) (by have := HK9 (); omega) (by have := HK9 (); omega) ?_; intro a' c4 w4 hb4 hd4 hk4)
      have k24 : Keep (inB a) w2 w4 := (((Keep.refl nil w2).alloc _).mono (fun _ _ e => e.elim)).trans hk4
      have etk : tkcell ⟨xf, xt, xl, g', c', xs⟩ = [.int .i64 (xf : Int), .int .i64 (xt : Int), .slice (some ⟨g', 0, none⟩) xln c'] := by simp [tkcell, Pk.slice, hxl]
      have hnx := (HQ ()).1.next ⟨xf, xt, xl, xg, xc, xs⟩ ⟨xf, xt, xl, g', c', xs⟩ rfl hk2 hp' hgn (by rw [(HQ ()).2.2, etk]; exact hb4) (fun g hg => by
        rcases hd4 with ⟨e, _⟩ | ⟨e, _⟩
        · rw [e] at hg; exact Or.inl hg
        · rw [e] at hg
          have := inB_some.1 hg
          simp only [World.size_alloc] at this
          exact Or.inr (by omega)) k24
      rw [← take_add L k _ (HX ()).1] at hnx
      exact ⟨⟨k + 1, _, a', c4, by have := HKL (); omega, by go_num, rfl, by simp [(HQ ()).2.2], hnx⟩, by have := HKL (); simp [intOf]; omega⟩
    · have ek : k = L.length := by omega
      subst ek
      have HP : Unit → Tel w wr L T a c := fun _ => by have := (HQ ()).1; rw [List.take_length] at this; exact this
      clear hkl hk
      go_wp2
      go_ret
      exact ⟨T, a, c, by rw [(HQ ()).2.2]; rfl, HP ()⟩
end Go.Proofs.YtlfijfodklhplaaGreat
/- A net's hasNode. -/
namespace Go.Proofs.YtlfijfodklhplaaGreat
open Go.RowKit
set_option linter.unusedVariables false
set_option linter.unusedSimpArgs false

set_option maxRecDepth 100000 in
set_option maxHeartbeats 2000000 in
theorem hasNode_any (nb o : Nat) (sa : Option Addr) (n sc : Nat) (k : Int) (w : World) (hc : w.cell? ⟨nb, o + 1, none⟩ = some (.slice sa n sc)) (hlt : nb < w.heap.size) :
    Calls Tryz.prog 62 #[.pointer (some ⟨nb, o, none⟩), .int .i64 k] w fun r w' => r = .returned (.bool (decide (0 ≤ k ∧ k < (n : Int)))) ∧ Keep nil w w' := by
  by_cases h0 : 0 ≤ k
  · by_cases h1 : k < (n : Int)
    · rw [decide_eq_true (p := 0 ≤ k ∧ k < (n : Int)) ⟨h0, h1⟩]
      go_enter Tryz.func62, Tryz.ntmps62
      go_wp2
      go_ret
      exact ⟨rfl, by repeat (first | exact Keep.refl _ _ | apply Keep.drew)⟩
    · rw [decide_eq_false (p := 0 ≤ k ∧ k < (n : Int)) (fun e => h1 e.2)]
      have h2 : (n : Int) ≤ k := by omega
      go_enter Tryz.func62, Tryz.ntmps62
      go_wp2
      go_ret
      exact ⟨rfl, by repeat (first | exact Keep.refl _ _ | apply Keep.drew)⟩
  · rw [decide_eq_false (p := 0 ≤ k ∧ k < (n : Int)) (fun e => h0 e.1)]
    have h2 : k < 0 := by omega
    go_enter Tryz.func62, Tryz.ntmps62
    go_wp2
    go_ret
    exact ⟨rfl, by repeat (first | exact Keep.refl _ _ | apply Keep.drew)⟩
end Go.Proofs.YtlfijfodklhplaaGreat
