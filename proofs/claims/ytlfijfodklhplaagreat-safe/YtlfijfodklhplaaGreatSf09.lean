import Derived.Test.YtlfijfodklhplaaGreatSf01
import Derived.Test.YtlfijfodklhplaaGreatSf02
import Derived.Test.YtlfijfodklhplaaGreatSf08
set_option linter.unusedVariables false
set_option linter.unusedSimpArgs false
namespace Go.Proofs.YtlfijfodklhplaaGreat
open Go.RowKit
def sgn (i k:Nat):Nat:=if k % 3=0 then i % 256 else if k % 3=1 then i / 256 % 256 else 201
def Marked (w:World) (g i m:Nat):Prop:=∀ p,p < m→w.cell? ⟨g,p,none⟩=some (bv (sgn i p))
theorem Marked.set {w:World} {g i m:Nat} (h:Marked w g i m) (g' p:Nat):Marked (w.setCell ⟨g',p,none⟩ (bv (sgn i p))) g i m:=by
  intro q hq
  by_cases he:(⟨g',p,none⟩:Addr)=⟨g,q,none⟩
  · rw [he]
    have hp:p=q:=by injection he
    subst hp
    exact World.cell?_setCell_same _ _ _ (h p hq)
  · rw [World.cell?_setCell_other _ _ _ _ he]
    exact h q hq
theorem Marked.keep {ex:Nat→Prop} {w w':World} {g i m:Nat} (h:Marked w g i m) (k:Keep ex w w') (hg:g < w.heap.size) (hn:¬ ex g):Marked w' g i m :=
  fun p hp=>(k.cell g p hg hn).trans (h p hp)
structure Lst where
  b:Option Nat
  n:Nat
  c:Nat
def Lst.ok (w:World) (t:Lst):Prop:=match t.b with
  | none=>t.n=0
  | some g=>Room w g 5 t.n
def Lst.marked (w:World) (i:Nat) (t:Lst):Prop:=match t.b with
  | none=>True
  | some g=>Marked w g i t.n
structure St (W0 wr : World) (S : List Lst) (i k : Nat) : Prop where
  keep:Keep (fun b=>∃ t ∈ S,t.b=some b) W0 wr
  ok:∀ t ∈ S,t.ok wr
  done:∀ j t,j < k→S[j]?=some t→t.marked wr i
theorem St.set {W0 wr:World} {S:List Lst} {i k:Nat} (h:St W0 wr S i k) (g p:Nat) (hg:∃ t ∈ S,t.b=some g):St W0 (wr.setCell ⟨g,p,none⟩ (bv (sgn i p))) S i k:=by
  refine ⟨h.keep.setCell (p:=⟨g,p,none⟩) (fun _=>hg) _,fun t ht=>?_,fun j t hj ht=>?_⟩
  · have:=h.ok t ht
    unfold Lst.ok at this ⊢
    cases hb:t.b with
    | none=>rw [hb] at this; exact this
    | some b=>rw [hb] at this; exact this.set _ _ rfl
  · have:=h.done j t hj ht
    unfold Lst.marked at this ⊢
    cases hb:t.b with
    | none=>trivial
    | some b=>rw [hb] at this; exact this.set _ _
theorem St.next {W0 wr:World} {S:List Lst} {i k:Nat} (h:St W0 wr S i k) (t:Lst) (ht:S[k]?=some t) (hm:t.marked wr i):St W0 wr S i (k + 1):=by
  refine ⟨h.keep,h.ok,fun j u hj hu=>?_⟩
  by_cases e:j=k
  · subst e; rw [ht] at hu; cases hu; exact hm
  · exact h.done j u (by omega) hu
theorem Marked.more {w:World} {g i q:Nat} (h:Marked w g i q) (hc:∃ v,w.cell? ⟨g,q,none⟩=some v):Marked (w.setCell ⟨g,q,none⟩ (bv (sgn i q))) g i (q + 1):=by
  intro p hp
  by_cases e:p=q
  · subst e
    obtain ⟨v,hv⟩:=hc
    exact World.cell?_setCell_same _ _ _ hv
  · exact h.set g q p (by omega)
theorem step_append_any {P : Program} {ops : Array Oper} {o : Oper} {a : Act} {w : World} {K : Act → World → Prop} {Q : Exit → Act → World → Prop} {E : Prop}
    (hg:o.guard=none) (s x:Operand) (t:TypeId) (hop:o.op=Op.call { callee:=Callee.builtin Builtin.append,args:=#[s,x],argTypes:=#[t,t] })
    (e:TypeId) (z:Value) (size bytes:Nat) (ht:P.underlying t=some (.slice e)) (hinfo:(P.info? e).map (fun i=>(i.zero,i.size,i.bytes))=some (some z,size,bytes)) (hzs:z.cells.size=size)
    (g n c:Nat) (hs:a.eval s=.slice (some ⟨g,0,none⟩) n c) (vs:List Value) (hn:vs.length=n * size) (hb:VBuf w g e size vs c) (ad:Addr) (m c':Nat) (hx:a.eval x=.slice (some ad) m c') (news:List Value) (hm:news.length=m * size)
    (hc:∀ j u,news[j]?=some u→w.cell? (ad.add j)=some u) (h1:∀ u ∈ news,u.oneCell'=true) (hbytes:(n + m) * bytes≤140737488355328) (h63:n + m≤9223372036854775807)
    (hK:∀ g' k' w',VBuf w' g' e size (vs++news) k'→n + m≤k'→((g'=g∧k'=c)∨(g'=w.heap.size∧c < n + m∧Keep nil w w'))→Keep (only g) w w'→K (a.put o.dst (.slice (some ⟨g',0,none⟩) (n + m) k')) w') :
    if Region.wanted o (yielded ops a.tmps)=true then Oper.wp P o a w K Q else E:=by
  have hw:Region.wanted o (yielded ops a.tmps)=true:=by simp [Region.wanted,hg]
  rw [if_pos hw]
  obtain ⟨g',k',w',hrun,r1,r2,r3,r4⟩:=run_append_any (P:=P) w t o.type e z size bytes ht hinfo hzs g n c vs hn hb ad m c' news hm hc h1 hbytes h63
  unfold Oper.wp
  simp [execOp,hop,resolve,invoke,builtin,hs,hx,hrun,Result.andThen]
  exact hK g' k' w' r1 r2 r3 r4
structure At (B : Nat) (w : World) (N : Nat) (vs : List Value) : Prop where
  ge:B≤N
  lt:N < w.heap.size
  cell:∀ j u,vs[j]?=some u→w.cell? ((⟨N,0,none⟩:Addr).add j)=some u
theorem At.new {B:Nat} {w:World} {N:Nat} {vs:List Value} {t:TypeId} (hN:N=w.heap.size) (hB:B≤w.heap.size):At B (w.alloc (.cells vs.toArray t)) N vs :=
  ⟨by omega,by simp; omega,cells_elist w vs t N hN⟩
theorem At.newd {B:Nat} {w:World} {N:Nat} {vs:List Value} {t:TypeId} (hN:N=w.heap.size) (hB:B≤w.heap.size):At B (w.alloc (.cells vs.toArray t)).drew N vs :=
  ⟨by omega,by simp; omega,cells_elist w vs t N hN⟩
theorem At.kp {B g:Nat} {w w':World} {N:Nat} {vs:List Value} (k:Keep (only g) w w') (hg:g < B) (h:At B w N vs):At B w' N vs :=
  ⟨h.ge,Nat.lt_of_lt_of_le h.lt k.size,fun j u hu=>by
    have:=h.cell j u hu
    rw [Addr.add_lit] at this ⊢
    exact (k.cell N (0 + j) h.lt (fun e=>by simp only [only] at e; have:=h.ge; omega)).trans this⟩
def Lst.okE (w:World) (t:Lst):Prop:=match t.b with
  | none=>t.n=0
  | some g=>Room w g 30 (t.n * 3)
def emk (i p:Nat):Value:=if p % 3=0 then .int .i64 (-7070 - (i:Int)) else .int .i64 0
def EMarked (w:World) (g i m:Nat):Prop:=∀ p,p < m * 3→w.cell? ⟨g,p,none⟩=some (emk i p)
theorem EMarked.set {w:World} {g i m:Nat} (h:EMarked w g i m) (g' p:Nat):EMarked (w.setCell ⟨g',p,none⟩ (emk i p)) g i m:=by
  intro q hq
  by_cases he:(⟨g',p,none⟩:Addr)=⟨g,q,none⟩
  · rw [he]
    have hp:p=q:=by injection he
    subst hp
    exact World.cell?_setCell_same _ _ _ (h p hq)
  · rw [World.cell?_setCell_other _ _ _ _ he]
    exact h q hq
theorem EMarked.keep {ex:Nat→Prop} {w w':World} {g i m:Nat} (h:EMarked w g i m) (k:Keep ex w w') (hg:g < w.heap.size) (hn:¬ ex g):EMarked w' g i m :=
  fun p hp=>(k.cell g p hg hn).trans (h p hp)
def Lst.markedE (w:World) (i:Nat) (t:Lst):Prop:=match t.b with
  | none=>True
  | some g=>EMarked w g i t.n
def put3 (w:World) (g i q:Nat):World:=((w.setCell ⟨g,q * 3,none⟩ (emk i (q * 3))).setCell ⟨g,q * 3 + 1,none⟩ (emk i (q * 3 + 1))).setCell ⟨g,q * 3 + 2,none⟩ (emk i (q * 3 + 2))
theorem EMarked.put {w:World} {g i m:Nat} (h:EMarked w g i m) (g' q:Nat):EMarked (put3 w g' i q) g i m:=((h.set g' _).set g' _).set g' _
theorem cell_set {w:World} {b p:Nat} {v u:Value} {q:Nat} (h:w.cell? ⟨b,q,none⟩=some u):∃ u',(w.setCell ⟨b,p,none⟩ v).cell? ⟨b,q,none⟩=some u':=by
  by_cases he:(⟨b,p,none⟩:Addr)=⟨b,q,none⟩
  · rw [he]; exact ⟨_,World.cell?_setCell_same _ _ _ h⟩
  · rw [World.cell?_setCell_other _ _ _ _ he]; exact ⟨_,h⟩
theorem EMarked.more {w:World} {g i q:Nat} (h:EMarked w g i q) (hr:Room w g 30 ((q + 1) * 3)):EMarked (put3 w g i q) g i (q + 1):=by
  intro p hp
  by_cases e:p < q * 3
  · exact h.put g q p e
  · obtain ⟨u0,h0⟩:=hr.some (q * 3) (by omega)
    obtain ⟨u1,h1⟩:=hr.some (q * 3 + 1) (by omega)
    obtain ⟨u2,h2⟩:=hr.some (q * 3 + 2) (by omega)
    have hne:∀ a b:Nat,a≠b→(⟨g,a,none⟩:Addr)≠⟨g,b,none⟩:=fun a b hab e=>hab (by injection e)
    have hp3:p=q * 3∨p=q * 3 + 1∨p=q * 3 + 2:=by omega
    rcases hp3 with rfl | rfl | rfl
    · unfold put3
      rw [World.cell?_setCell_other _ _ _ _ (hne _ _ (by omega)),World.cell?_setCell_other _ _ _ _ (hne _ _ (by omega))]
      exact World.cell?_setCell_same _ _ _ h0
    · unfold put3
      rw [World.cell?_setCell_other _ _ _ _ (hne _ _ (by omega))]
      obtain ⟨u',h'⟩:=cell_set (p:=q * 3) (v:=emk i (q * 3)) h1
      exact World.cell?_setCell_same _ _ _ h'
    · unfold put3
      obtain ⟨u',h'⟩:=cell_set (p:=q * 3) (v:=emk i (q * 3)) h2
      obtain ⟨u'',h''⟩:=cell_set (p:=q * 3 + 1) (v:=emk i (q * 3 + 1)) h'
      exact World.cell?_setCell_same _ _ _ h''
structure StE (W0 wr : World) (S : List Lst) (i k : Nat) : Prop where
  keep:Keep (fun b=>∃ t ∈ S,t.b=some b) W0 wr
  ok:∀ t ∈ S,t.okE wr
  done:∀ j t,j < k→S[j]?=some t→t.markedE wr i
theorem StE.put {W0 wr:World} {S:List Lst} {i k:Nat} (h:StE W0 wr S i k) (g q:Nat) (hg:∃ t ∈ S,t.b=some g):StE W0 (put3 wr g i q) S i k:=by
  refine ⟨((h.keep.setCell (p:=⟨g,q * 3,none⟩) (fun _=>hg) _).setCell (p:=⟨g,q * 3 + 1,none⟩) (fun _=>hg) _).setCell (p:=⟨g,q * 3 + 2,none⟩) (fun _=>hg) _,fun t ht=>?_,fun j t hj ht=>?_⟩
  · have:=h.ok t ht
    unfold Lst.okE at this ⊢
    cases hb:t.b with
    | none=>rw [hb] at this; exact this
    | some b=>rw [hb] at this; exact ((this.set _ _ rfl).set _ _ rfl).set _ _ rfl
  · have:=h.done j t hj ht
    unfold Lst.markedE at this ⊢
    cases hb:t.b with
    | none=>trivial
    | some b=>rw [hb] at this; exact this.put g q
theorem StE.next {W0 wr:World} {S:List Lst} {i k:Nat} (h:StE W0 wr S i k) (t:Lst) (ht:S[k]?=some t) (hm:t.markedE wr i):StE W0 wr S i (k + 1):=by
  refine ⟨h.keep,h.ok,fun j u hj hu=>?_⟩
  by_cases e:j=k
  · subst e; rw [ht] at hu; cases hu; exact hm
  · exact h.done j u (by omega) hu
end Go.Proofs.YtlfijfodklhplaaGreat
