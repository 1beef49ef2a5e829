/- An end of a link: what it has, what each call does with it; how it lies in memory. -/
import Derived.Test.YtlfijfodklhplaaOwn
import Derived.Test.YtlfijfodklhplaaSeen
namespace Go.Proofs.Ytlfijfodklhplaa
open Go.RowKit
set_option linter.unusedVariables false

structure En where
  first : Nat
  wait : List Fr.Msg
  await : Nat
  kept : List (Option Fr.Msg)
  out : List Fr.Frm
namespace En
def new : En := ⟨0, [], 0, [none, none, none, none], []⟩
/-- Frames of messages, numbered from n on. -/
def frames (n : Nat) : List Fr.Msg → List Fr.Frm
  | [] => []
  | m :: r => ⟨true, n, m⟩ :: frames (n + 1) r
def shown (e : En) : Nat := min e.wait.length 4
def showFrom (e : En) (k : Nat) : En := { e with out := e.out ++ frames (e.first + k) ((e.wait.take 4).drop k) }
def put (e : En) (m : Fr.Msg) : En := { e with wait := e.wait ++ [m] }
def send (e : En) (m : Fr.Msg) : En := (e.put m).showFrom e.shown
def drop (e : En) (n : Nat) : En := { e with first := e.first + n, wait := e.wait.drop n }
def ack (e : En) (n : Nat) : En := if e.first < n ∧ n ≤ e.first + e.shown then (e.drop (n - e.first)).showFrom (e.shown - (n - e.first)) else e
def keep (e : En) (n : Nat) (m : Fr.Msg) : En := if e.await ≤ n then (match e.kept[n - e.await]? with | some none => { e with kept := e.kept.set (n - e.await) (some m) } | _ => e) else e
/-- The messages that are there from the first place on. -/
def ready : List (Option Fr.Msg) → List Fr.Msg
  | some m :: r => m :: ready r
  | _ => []
def take (e : En) : En := { e with await := e.await + (ready e.kept).length, kept := e.kept.drop (ready e.kept).length ++ List.replicate (ready e.kept).length none }
def answer (e : En) : En := if e.await < 65536 then { e with out := e.out ++ [⟨false, e.await, Fr.none0⟩] } else e
def came (e : En) (n : Nat) (m : Fr.Msg) : En := (e.keep n m).take.answer
def told (e : En) (n : Nat) (m : Fr.Msg) : List Fr.Msg := ready (e.keep n m).kept
def tick (e : En) : En := e.showFrom 0
def outs (e : En) : En := { e with out := [] }
end En
theorem frames_len (n : Nat) (l : List Fr.Msg) : (En.frames n l).length = l.length := by
  induction l generalizing n with
  | nil => rfl
  | cons m r ih => simp [En.frames, ih]
theorem frames_append (n : Nat) (l k : List Fr.Msg) : En.frames n (l ++ k) = En.frames n l ++ En.frames (n + l.length) k := by
  induction l generalizing n with
  | nil => simp [En.frames]
  | cons m r ih => simp only [List.cons_append, En.frames, ih, List.length_cons]; rw [Nat.add_right_comm, ← Nat.add_assoc]

/- How it lies in memory. -/
def mcell (m : Fr.Msg) : List Value := [.int .i64 (m.kind : Int), .int .i64 (m.level : Int), .int .i64 (m.name : Int), .bool m.finding]
def mcells (l : List Fr.Msg) : List Value := l.flatMap mcell
theorem mcells_len (l : List Fr.Msg) : (mcells l).length = l.length * 4 := by
  induction l with
  | nil => rfl
  | cons e t ih => simp only [mcells, List.flatMap_cons, List.length_append, List.length_cons] at ih ⊢; rw [ih]; simp [mcell]; omega
theorem mcells_append (l m : List Fr.Msg) : mcells (l ++ m) = mcells l ++ mcells m := by simp [mcells]
theorem mcells_drop (l : List Fr.Msg) (n : Nat) : (mcells l).drop (n * 4) = mcells (l.drop n) := by
  induction l generalizing n with
  | nil => simp [mcells]
  | cons m r ih =>
    cases n with
    | zero => simp
    | succ n =>
      have := ih n
      simp only [mcells, List.flatMap_cons, List.drop_succ_cons] at this ⊢
      rw [← this, List.drop_append, List.drop_of_length_le (by simp [mcell]; omega), List.nil_append]
      congr 1
      simp [mcell]; omega
theorem mcells_one (l : List Fr.Msg) : ∀ u ∈ mcells l, u.oneCell' = true := by
  intro u hu
  obtain ⟨e, _, h⟩ := List.mem_flatMap.1 hu
  simp only [mcell, List.mem_cons, List.not_mem_nil, or_false] at h
  rcases h with rfl | rfl | rfl | rfl <;> rfl
theorem mcells_get (l : List Fr.Msg) (i : Nat) (m : Fr.Msg) (h : l[i]? = some m) (j : Nat) (hj : j < 4) : (mcells l)[i * 4 + j]? = (mcell m)[j]? := by
  have h1 : (mcells l).drop (i * 4) = mcell m ++ mcells (l.drop (i + 1)) := by
    rw [mcells_drop]
    obtain ⟨hi, rfl⟩ := List.getElem?_eq_some_iff.1 h
    rw [List.drop_eq_getElem_cons hi]; rfl
  have h2 : (mcells l)[i * 4 + j]? = ((mcells l).drop (i * 4))[j]? := by rw [List.getElem?_drop]
  rw [h2, h1, List.getElem?_append_left (by simpa [mcell] using hj)]

def mof : Option Fr.Msg → Fr.Msg
  | some m => m
  | none => Fr.none0
def slot (x : Option Fr.Msg) : List Value := mcell (mof x) ++ [.bool x.isSome]
def slots (l : List (Option Fr.Msg)) : List Value := l.flatMap slot
theorem slots_len (l : List (Option Fr.Msg)) : (slots l).length = l.length * 5 := by
  induction l with
  | nil => rfl
  | cons e t ih => simp only [slots, List.flatMap_cons, List.length_append, List.length_cons] at ih ⊢; rw [ih]; simp [slot, mcell]; omega
def fval (g : Nat) (f : Fr.Frm) : Value := .slice (some ⟨g, 0, none⟩) (flen f) 10
def ovals (gs : List Nat) (l : List Fr.Frm) : List Value := List.zipWith fval gs l

/-- Where its lists lie. -/
structure Pl where
  wa : Option Addr
  wc : Nat
  oa : Option Addr
  oc : Nat
  gs : List Nat
def En.cells (e : En) (p : Pl) : List Value := .int .i64 (e.first : Int) :: .slice p.wa e.wait.length p.wc :: .int .i64 (e.await : Int) :: (slots e.kept ++ [.slice p.oa e.out.length p.oc])
theorem cells_len (e : En) (p : Pl) (h : e.kept.length = 4) : (e.cells p).length = 24 := by simp [En.cells, slots_len, h]

def MOk (m : Fr.Msg) : Prop := m.kind < 256 ∧ m.level < 256 ∧ m.name < 65536 ∧ may (m.kind : Int) (m.level : Int) (m.name : Int) m.finding = true
/-- Which blocks are its own. -/
def Mine (b : Nat) (p : Pl) (k : Nat) : Prop := k = b ∨ inB p.wa k ∨ inB p.oa k ∨ k ∈ p.gs
/-- Those that a call may write. -/
def Wri (b : Nat) (p : Pl) (k : Nat) : Prop := k = b ∨ inB p.wa k ∨ inB p.oa k
structure Rep (w : World) (c : Array Value) (t : TypeId) (b o : Nat) (e : En) (p : Pl) : Prop where
  blk : Blk w b (put c o (e.cells p)) t
  fit : o + 24 ≤ c.size
  four : e.kept.length = 4
  wrow : RV w 24 4 p.wa e.wait.length p.wc (mcells e.wait)
  orow : RV w 27 1 p.oa e.out.length p.oc (ovals p.gs e.out)
  gl : p.gs.length = e.out.length
  bufs : ∀ (i g : Nat) (f : Fr.Frm), p.gs[i]? = some g → e.out[i]? = some f → Buf w g (Fr.enc f) 10
  wb : ¬ inB p.wa b
  ob : ¬ inB p.oa b
  wo : ∀ k, inB p.wa k → ¬ inB p.oa k
  gw : ∀ k, k ∈ p.gs → ¬ Wri b p k
  gn : p.gs.Nodup
  wok : ∀ m ∈ e.wait, MOk m
  most : e.first + e.wait.length ≤ 65536
  awt : e.await ≤ 65536
  kn : ∀ (i : Nat) (m : Fr.Msg), e.kept[i]? = some (some m) → e.await + i < 65536
  fok : ∀ f ∈ e.out, FrOk f
theorem Rep.keep {ex : Nat → Prop} {w w' : World} {c : Array Value} {t : TypeId} {b o : Nat} {e : En} {p : Pl} (h : Rep w c t b o e p) (k : Keep ex w w') (hn : ∀ i, Mine b p i → ¬ ex i) : Rep w' c t b o e p where
  blk := h.blk.keep k (hn b (Or.inl rfl))
  fit := h.fit
  four := h.four
  wrow := h.wrow.keep k (fun g hg => hn g (Or.inr (Or.inl hg)))
  orow := h.orow.keep k (fun g hg => hn g (Or.inr (Or.inr (Or.inl hg))))
  gl := h.gl
  bufs := fun i g f hg hf => (h.bufs i g f hg hf).keep k (hn g (Or.inr (Or.inr (Or.inr (List.mem_of_getElem? hg)))))
  wb := h.wb
  ob := h.ob
  wo := h.wo
  gw := h.gw
  gn := h.gn
  wok := h.wok
  most := h.most
  awt := h.awt
  kn := h.kn
  fok := h.fok
theorem Rep.lt {w : World} {c : Array Value} {t : TypeId} {b o : Nat} {e : En} {p : Pl} (h : Rep w c t b o e p) : ∀ i, Mine b p i → i < w.heap.size := by
  rintro i (rfl | hi | hi | hi)
  · exact h.blk.lt
  · exact h.wrow.lt i hi
  · exact h.orow.lt i hi
  · obtain ⟨j, hj, rfl⟩ := List.getElem_of_mem hi
    have hj' : j < e.out.length := by have := h.gl; omega
    exact (h.bufs j p.gs[j] e.out[j] (List.getElem?_eq_getElem hj) (List.getElem?_eq_getElem hj')).lt
theorem Rep.len {w : World} {c : Array Value} {t : TypeId} {b o : Nat} {e : En} {p : Pl} (h : Rep w c t b o e p) : o + (e.cells p).length ≤ c.size := by rw [cells_len e p h.four]; exact h.fit
theorem Rep.cell {w : World} {c : Array Value} {t : TypeId} {b o : Nat} {e : En} {p : Pl} (h : Rep w c t b o e p) (i : Nat) (v : Value) (hv : (e.cells p)[i]? = some v) : w.cell? ⟨b, o + i, none⟩ = some v := h.blk.at h.len i v hv
theorem Rep.frozen {w : World} {c : Array Value} {t : TypeId} {b o : Nat} {e : En} {p : Pl} (h : Rep w c t b o e p) (i : Nat) : w.frozen? ⟨b, i, none⟩ = false := h.blk.frozen i
theorem Rep.c0 {w : World} {c : Array Value} {t : TypeId} {b o : Nat} {e : En} {p : Pl} (h : Rep w c t b o e p) : w.cell? ⟨b, o, none⟩ = some (.int .i64 (e.first : Int)) := h.cell 0 _ rfl
theorem Rep.c1 {w : World} {c : Array Value} {t : TypeId} {b o : Nat} {e : En} {p : Pl} (h : Rep w c t b o e p) : w.cell? ⟨b, o + 1, none⟩ = some (.slice p.wa e.wait.length p.wc) := h.cell 1 _ rfl
theorem Rep.c2 {w : World} {c : Array Value} {t : TypeId} {b o : Nat} {e : En} {p : Pl} (h : Rep w c t b o e p) : w.cell? ⟨b, o + 2, none⟩ = some (.int .i64 (e.await : Int)) := h.cell 2 _ rfl
theorem cells_23 (e : En) (p : Pl) (h : e.kept.length = 4) : (e.cells p)[23]? = some (.slice p.oa e.out.length p.oc) := by
  have h1 : (slots e.kept).length = 20 := by rw [slots_len, h]
  simp only [En.cells, List.getElem?_cons_succ]
  rw [List.getElem?_append_right (by omega), h1]; rfl
theorem Rep.c23 {w : World} {c : Array Value} {t : TypeId} {b o : Nat} {e : En} {p : Pl} (h : Rep w c t b o e p) : w.cell? ⟨b, o + 23, none⟩ = some (.slice p.oa e.out.length p.oc) := h.cell 23 _ (cells_23 e p h.four)
theorem cells_set1 (e : En) (p : Pl) (l : List Fr.Msg) (a : Option Addr) (c : Nat) : (e.cells p).set 1 (.slice a l.length c) = ({ e with wait := l } : En).cells { p with wa := a, wc := c } := rfl
theorem cells_set0 (e : En) (p : Pl) (n : Nat) : (e.cells p).set 0 (.int .i64 (n : Int)) = ({ e with first := n } : En).cells p := rfl
theorem cells_set2 (e : En) (p : Pl) (n : Nat) : (e.cells p).set 2 (.int .i64 (n : Int)) = ({ e with await := n } : En).cells p := rfl
theorem cells_set23 (e : En) (p : Pl) (h : e.kept.length = 4) (l : List Fr.Frm) (a : Option Addr) (c : Nat) (gs : List Nat) : (e.cells p).set 23 (.slice a l.length c) = ({ e with out := l } : En).cells { p with oa := a, oc := c, gs := gs } := by
  have h1 : (slots e.kept).length = 20 := by rw [slots_len, h]
  simp only [En.cells, List.set_cons_succ]
  rw [List.set_append_right _ _ (by omega), h1]; rfl
theorem msg_info : (Try.prog.info? 24).map (fun i => (i.zero, i.size, i.bytes)) = some (some (.agg #[.int .i64 0, .int .i64 0, .int .i64 0, .bool false]), 4, 32) := by kernel_rfl
theorem list_info : (Try.prog.info? 27).map (fun i => (i.zero, i.size, i.bytes)) = some (some (.slice none 0 0), 1, 24) := by kernel_rfl
end Go.Proofs.Ytlfijfodklhplaa
