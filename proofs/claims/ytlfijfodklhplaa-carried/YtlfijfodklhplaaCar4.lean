/- Carried: how it begins. -/
import Derived.Test.YtlfijfodklhplaaCar3
namespace Go.Proofs.Ytlfijfodklhplaa
open Go.RowKit
set_option linter.unusedVariables false
set_option linter.unusedSimpArgs false

def Cy.new : Cy := ⟨fun _ => En.new, fun _ => Pl.new, fun _ => [], fun _ => [], fun _ => none, fun _ => 0, fun _ => 0, fun _ => 0⟩
theorem dir_new : Dir En.new En.new (From En.new []) (From En.new []) 0 0 where
  data := fun f hf => by rcases hf with x | x <;> simp [En.new] at x
  acks := fun f hf => by rcases hf with x | x <;> simp [En.new] at x
  lo := Nat.le_refl _
  hi := Nat.zero_le _
  len := rfl
  wait := fun i m hm => by simp [En.new] at hm
  kept := fun i m hm => by
    match i, hm with
    | 0, hm => simp [En.new] at hm
    | 1, hm => simp [En.new] at hm
    | 2, hm => simp [En.new] at hm
    | 3, hm => simp [En.new] at hm
    | i + 4, hm => simp [En.new] at hm
  four := rfl
  got := rfl
/-- What each of the two has: where its pointer lies, its bag, its numbers. -/
theorem CS.at {w0 w : World} {x : Fx} {s : Cy} {tag : Nat → Nat} (h : CS w0 w x s tag) (c : Nat) (hc : c < 2) :
    w.cell? ⟨x.eb, c, none⟩ = some (.pointer (some ⟨x.b c, 0, none⟩)) ∧ w.cell? ⟨x.tb, c, none⟩ = some (.slice (s.a c) (s.bag c).length (s.ca c)) ∧ w.cell? ⟨x.sb, c, none⟩ = some (.int .i64 (s.sent c : Int)) ∧ w.cell? ⟨x.gb, c, none⟩ = some (.int .i64 (s.got c : Int)) ∧
    w.frozen? ⟨x.tb, c, none⟩ = false ∧ w.frozen? ⟨x.sb, c, none⟩ = false := by
  refine ⟨?_, ?_, ?_, ?_, h.bags.frozen c, h.sents.frozen c⟩
  · have := h.ends.cell c; rwa [two_get _ _ hc] at this
  · have := h.bags.cell c; rwa [two_get _ _ hc] at this
  · have := h.sents.cell c; rwa [two_get _ _ hc] at this
  · have := h.gots.cell c; rwa [two_get _ _ hc] at this

/-- The first state. -/
theorem cs_new (w w1 w2 : World) (h1 : Rep w1 zero24 62 w.heap.size 0 En.new Pl.new) (k1 : Keep nil w w1) (h2 : Rep w2 zero24 62 w1.heap.size 0 En.new Pl.new) (k2 : Keep nil w1 w2) (hz : w.heap.size < w1.heap.size) (hz2 : w1.heap.size < w2.heap.size) :
    ∃ tag, CS w ((((w2.alloc (.cells #[.pointer (some ⟨w.heap.size, 0, none⟩), .pointer (some ⟨w1.heap.size, 0, none⟩)] 35)).alloc (.cells #[.slice none 0 0, .slice none 0 0] 39)).alloc (.cells #[.int .i64 0, .int .i64 0] 40)).alloc (.cells #[.int .i64 0, .int .i64 0] 40))
      ⟨w2.heap.size, w2.heap.size + 1, w2.heap.size + 2, w2.heap.size + 3, fun i => if i = 0 then w.heap.size else w1.heap.size⟩ Cy.new tag := by
  refine ⟨fun k => if k < w.heap.size then 9 else if k = w.heap.size then 0 else if k = w1.heap.size then 1 else if k = w2.heap.size then 5 else if k = w2.heap.size + 1 then 6 else if k = w2.heap.size + 2 then 7 else if k = w2.heap.size + 3 then 8 else 10, ?_⟩
  have B5 := (((Blk.new w2 #[.pointer (some ⟨w.heap.size, 0, none⟩), .pointer (some ⟨w1.heap.size, 0, none⟩)] 35).old (.cells #[.slice none 0 0, .slice none 0 0] 39)).old (.cells #[.int .i64 0, .int .i64 0] 40)).old (.cells #[.int .i64 0, .int .i64 0] 40)
  have B6 := ((Blk.new' (w2.alloc (.cells #[.pointer (some ⟨w.heap.size, 0, none⟩), .pointer (some ⟨w1.heap.size, 0, none⟩)] 35)) #[.slice none 0 0, .slice none 0 0] 39 (w2.heap.size + 1) (by simp)).old (.cells #[.int .i64 0, .int .i64 0] 40)).old (.cells #[.int .i64 0, .int .i64 0] 40)
  have B7 := (Blk.new' ((w2.alloc (.cells #[.pointer (some ⟨w.heap.size, 0, none⟩), .pointer (some ⟨w1.heap.size, 0, none⟩)] 35)).alloc (.cells #[.slice none 0 0, .slice none 0 0] 39)) #[.int .i64 0, .int .i64 0] 40 (w2.heap.size + 2) (by simp)).old (.cells #[.int .i64 0, .int .i64 0] 40)
  have B8 := Blk.new' (((w2.alloc (.cells #[.pointer (some ⟨w.heap.size, 0, none⟩), .pointer (some ⟨w1.heap.size, 0, none⟩)] 35)).alloc (.cells #[.slice none 0 0, .slice none 0 0] 39)).alloc (.cells #[.int .i64 0, .int .i64 0] 40)) #[.int .i64 0, .int .i64 0] 40 (w2.heap.size + 3) (by simp)
  have ka : Keep nil w2 ((((w2.alloc (.cells #[.pointer (some ⟨w.heap.size, 0, none⟩), .pointer (some ⟨w1.heap.size, 0, none⟩)] 35)).alloc (.cells #[.slice none 0 0, .slice none 0 0] 39)).alloc (.cells #[.int .i64 0, .int .i64 0] 40)).alloc (.cells #[.int .i64 0, .int .i64 0] 40)) := ((((Keep.refl nil w2).alloc _).alloc _).alloc _).alloc _
  have hw : ∀ b k, Wri b Pl.new k → k = b := fun b k hk => by
    rcases hk with e | e | e
    · exact e
    · exact (inB_none k e).elim
    · exact (inB_none k e).elim
  refine { ends := B5, bags := B6, sents := B7, gots := B8, rep := ?_, row := fun c hc => RV.nil _ _ _, gl := fun c hc => rfl, buf := fun c hc i g f hg => by simp [Cy.new] at hg, fok := fun c hc f hf => by simp [Cy.new] at hf, keep := (k1.trans k2).trans ka, tw := ?_, tp := fun c hc k hk => by simp [Cy.new, Pl.new] at hk, ta := fun c hc k hk => (inB_none k hk).elim, tg := fun c hc k hk => by simp [Cy.new] at hk, t5 := ?_, t6 := ?_, t7 := ?_, t8 := ?_, old := ?_ }
  · intro c hc
    match c, hc with
    | 0, _ => exact (h1.keep k2 (fun _ _ e => e)).keep ka (fun _ _ e => e)
    | 1, _ => exact h2.keep ka (fun _ _ e => e)
  · intro c hc k hk
    have := hw _ k hk
    match c, hc, this with
    | 0, _, e => simp only [if_true] at e; subst e; simp
    | 1, _, e =>
      simp only [Nat.one_ne_zero, if_false] at e
      subst e
      rw [if_neg (by omega), if_neg (by omega)]; simp
  · simp only; rw [if_neg (by omega), if_neg (by omega), if_neg (by omega)]; simp
  · simp only; rw [if_neg (by omega), if_neg (by omega), if_neg (by omega), if_neg (by omega)]; simp
  · simp only; rw [if_neg (by omega), if_neg (by omega), if_neg (by omega), if_neg (by omega), if_neg (by omega)]; simp
  · simp only; rw [if_neg (by omega), if_neg (by omega), if_neg (by omega), if_neg (by omega), if_neg (by omega), if_neg (by omega)]; simp
  · intro k hk; show (if k < w.heap.size then 9 else _) = 9; rw [if_pos hk]
end Go.Proofs.Ytlfijfodklhplaa
