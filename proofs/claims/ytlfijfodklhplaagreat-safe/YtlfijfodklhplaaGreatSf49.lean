import Derived.Test.YtlfijfodklhplaaGreatSf48
set_option linter.unusedVariables false
set_option linter.unusedSimpArgs false
namespace Go.Proofs.YtlfijfodklhplaaGreat.Ghs
open Go.RowKit
def twin (x y:E3):Prop:=(x.a=y.a∧x.b=y.b)∨(x.a=y.b∧x.b=y.a)
structure Simple (n : Nat) (L : List E3) : Prop where
  ok:∀ e ∈ L,e.a < n∧e.b < n∧e.a≠e.b∧1≤e.w∧e.w≤1000
  inc:L.Pairwise (fun x y=>x.w < y.w)
  one:L.Pairwise (fun x y=>¬ twin x y)
theorem pw_eq {α:Type} {R:α→α→Prop} {L:List α} (h:L.Pairwise (fun x y=>¬ R x y)) (hs:∀ x y,R x y→R y x) {x y:α} (hx:x ∈ L) (hy:y ∈ L) (hr:R x y):x=y:=by
  obtain ⟨i,hi,rfl⟩:=List.getElem_of_mem hx
  obtain ⟨j,hj,rfl⟩:=List.getElem_of_mem hy
  have:=List.pairwise_iff_getElem.1 h
  rcases Nat.lt_trichotomy i j with c | c | c
  · exact (this i j hi hj c hr).elim
  · subst c; rfl
  · exact (this j i hj hi c (hs _ _ hr)).elim
theorem twin_symm (x y:E3) (h:twin x y):twin y x:=by unfold twin at *; omega
def wOf (L:List E3) (u v:Nat):Nat:=match L.find? (fun e=>(e.a == u && e.b == v) || (e.a == v && e.b == u)) with
  | some e=>e.w
  | none=>0
theorem wOf_symm (L:List E3) (u v:Nat):wOf L u v=wOf L v u:=by
  unfold wOf
  have:(fun e:E3=>(e.a == u && e.b == v) || (e.a == v && e.b == u))=fun e=>(e.a == v && e.b == u) || (e.a == u && e.b == v):=by
    funext e; exact Bool.or_comm _ _
  rw [this]
theorem wOf_mem {n:Nat} {L:List E3} (h:Simple n L) (e:E3) (he:e ∈ L):wOf L e.a e.b=e.w:=by
  unfold wOf
  cases hf:L.find? (fun x=>(x.a == e.a && x.b == e.b) || (x.a == e.b && x.b == e.a)) with
  | none =>
    have:=List.find?_eq_none.1 hf e he
    simp at this
  | some x =>
    have h1:=List.find?_some hf
    have h2:=List.mem_of_find?_eq_some hf
    have:x=e:=pw_eq h.one twin_symm h2 he (by unfold twin; simp at h1; omega)
    rw [this]
def grL {n:Nat} {L:List E3} (h:Simple n L):Gr:=grOf n L h.ok h.inc (wOf L) (wOf_symm L) (wOf_mem h)
def own (u:Nat) (L:List E3):List E3:=L.filter (fun e=>e.a == u || e.b == u)
theorem own_mem {u:Nat} {L:List E3} {e:E3}:e ∈ own u L ↔ e ∈ L∧(e.a=u∨e.b=u):=by
  unfold own; rw [List.mem_filter]; simp
def other (u:Nat) (e:E3):Nat:=e.a + e.b - u
theorem w_other {n:Nat} {L:List E3} (h:Simple n L) {u:Nat} {e:E3} (he:e ∈ own u L):wOf L u (other u e)=e.w∧(grL h).adj u (other u e):=by
  obtain ⟨h1,h2⟩:=own_mem.1 he
  rcases h2 with rfl | rfl
  · have:other e.a e=e.b:=by unfold other; omega
    rw [this]
    exact ⟨wOf_mem h e h1,e,h1,Or.inl ⟨rfl,rfl⟩⟩
  · have:other e.b e=e.a:=by unfold other; omega
    rw [this,wOf_symm]
    exact ⟨wOf_mem h e h1,e,h1,Or.inr ⟨rfl,rfl⟩⟩
def topL {n : Nat} {L : List E3} (h : Simple n L) : Top (grL h) where
  nb u j:=match (own u L)[j]? with | some e=>other u e | none=>0
  dg u:=(own u L).length
  adj:=fun u j hj=>by
    rw [List.getElem?_eq_getElem hj]
    exact (w_other h (List.getElem_mem hj)).2
  inj:=fun u j k hj hk e=>by
    rw [List.getElem?_eq_getElem hj,List.getElem?_eq_getElem hk] at e
    dsimp only at e
    have h1:=own_mem.1 (List.getElem_mem hj)
    have h2:=own_mem.1 (List.getElem_mem hk)
    have ht:twin (own u L)[j] (own u L)[k]:=by unfold twin; unfold other at e; omega
    have hp:(own u L).Pairwise (fun x y=>¬ twin x y):=h.one.filter _
    have:=List.pairwise_iff_getElem.1 hp
    rcases Nat.lt_trichotomy j k with c | c | c
    · exact (this j k hj hk c ht).elim
    · exact c
    · exact (this k j hk hj c (twin_symm _ _ ht)).elim
  sur:=fun u v ⟨e,he,hh⟩=>by
    have hm:e ∈ own u L:=own_mem.2 ⟨he,by omega⟩
    obtain ⟨j,hj,rfl⟩:=List.getElem_of_mem hm
    refine ⟨j,hj,?_⟩
    rw [List.getElem?_eq_getElem hj]
    show other u _=v
    unfold other; omega
  inc:=fun u j k hjk hk=>by
    have hj:j < (own u L).length:=by omega
    rw [List.getElem?_eq_getElem hj,List.getElem?_eq_getElem hk]
    have hp:(own u L).Pairwise (fun x y=>x.w < y.w):=h.inc.filter _
    have h1:=List.pairwise_iff_getElem.1 hp j k hj hk hjk
    have h2:=(w_other h (List.getElem_mem hj)).1
    have h3:=(w_other h (List.getElem_mem hk)).1
    show wOf L u (other u _)≤wOf L u (other u _)
    omega
theorem inc_unique : ∀ (L M : List E3), L.Pairwise (fun x y => x.w < y.w) → M.Pairwise (fun x y => x.w < y.w) → (∀ e, e ∈ L ↔ e ∈ M) → L = M
  | [],[],_,_,_=>rfl
  | [],b :: m,_,_,h=>by have:=(h b).2 (by simp); cases this
  | a :: l,[],_,_,h=>by have:=(h a).1 (by simp); cases this
  | a :: l,b :: m,h1,h2,h=>by
    have p1:=List.pairwise_cons.1 h1
    have p2:=List.pairwise_cons.1 h2
    have e:a=b:=by
      rcases List.mem_cons.1 ((h a).1 (by simp)) with x | x
      · exact x
      · rcases List.mem_cons.1 ((h b).2 (by simp)) with y | y
        · exact y.symm
        · have:=p1.1 b y; have:=p2.1 a x; omega
    subst e
    rw [inc_unique l m p1.2 p2.2 (fun e=>?_)]
    constructor
    · intro he
      rcases List.mem_cons.1 ((h e).1 (by simp [he])) with x | x
      · subst x; have:=p1.1 e he; omega
      · exact x
    · intro he
      rcases List.mem_cons.1 ((h e).2 (by simp [he])) with x | x
      · subst x; have:=p2.1 e he; omega
      · exact x
theorem lightest_eq {n:Nat} {L es:List E3} (h:Simple n L) (hp:∀ e,e ∈ es ↔ e ∈ L) (hd:es.Pairwise (fun x y=>x.w≠y.w)):krs (inOrder es)=krs L:=by
  rw [inc_unique (inOrder es) L (inOrder_inc hd) h.inc (fun e=>?_)]
  rw [inOrder_mem (fun e he=>⟨(h.ok e ((hp e).1 he)).2.2.2.1,(h.ok e ((hp e).1 he)).2.2.2.2⟩),hp]
open NMsg
def fit : NMsg → Prop
  | .connect l=>l≤9
  | .initiate l n _=>l≤9∧1≤n∧n≤1000
  | .test l n=>l≤9∧n≤1000
  | .report w=>1≤w∧w≤1001
  | _=>True
theorem Inv.lev9 {G:Gr} {s:St} {g:Gh} {h:Gs} (hI:Inv G s g h) (hn:G.n≤1000) {u:Nat} (hu:u < G.n):g.L u≤9:=by
  have h1:=hI.low hu
  apply Classical.byContradiction
  intro hc
  have h2:2 ^ 10≤2 ^ g.L u:=Nat.pow_le_pow_right (by omega) (by omega)
  have:(2:Nat) ^ 10=1024:=by decide
  omega
theorem Inv.nam1 {G:Gr} {s:St} {g:Gh} {h:Gs} (hI:Inv G s g h) {y v:Nat} (ht:s.tst y=some v):s.nam y≤1000:=by
  have h1:=hI.rp.s1 y (tst_fnd hI ht)
  have h2:=hI.st.p0 y h1.1
  obtain ⟨a,b,h3,_,h5,_⟩:=hI.st.nm1 y (by omega)
  have:=(G.w1 a b h3).2
  omega
theorem Inv.fits {G:Gr} {s:St} {g:Gh} {h:Gs} (hI:Inv G s g h) (hn:G.n≤1000) (hr:∀ u v w,report w ∈ s.q u v→1≤w) {u v:Nat} {m:NMsg} (hm:m ∈ s.q u v):fit m:=by
  have ha:=(hI.q0 u v m hm).1
  have hu:=hI.lev9 hn (G.lt _ _ ha)
  have hv:=hI.lev9 hn (G.lt _ _ (G.sym _ _ ha))
  have hl:=hI.st.l1 u
  have hl2:=hI.st.l1 v
  cases m with
  | connect l =>
    have h1:=hI.st.cn u v l (by simp [kS,hm,isCon])
    show l≤9
    by_cases e:s.se v u=1
    · have:=h1.2.1 e; omega
    · have:=h1.2.2 e; omega
  | initiate l n f =>
    have hk:initiate l n f ∈ kS s.q u v:=by simp [kS,hm,isIni]
    have h1:=hI.st.i1 u v l n f hk
    obtain ⟨a,b,h3,_,h5,_⟩:=hI.st.nm2 u v l n f hk
    have:=G.w1 a b h3
    exact ⟨by omega,by omega,by omega⟩
  | test l n =>
    have h1:=hI.ts.t4 u v l n (by simp [kT,hm,isTest])
    rcases h1 with ⟨h1,h2,h3⟩ | ⟨h1,h2,h3,h4,h5,_⟩
    · have:=hI.nam1 h1
      exact ⟨by omega,by omega⟩
    · have:=hI.nam1 h1
      exact ⟨by omega,by omega⟩
  | accept=>trivial
  | reject=>trivial
  | report w =>
    have h1:=hI.rp.r1 v u w (by simp [kR,hm,isRep])
    refine ⟨hr u v w hm,?_⟩
    rcases h1 with h1 | h1
    · have:=hI.rp.bm u
      have:=h1.2.2.2.2.1
      omega
    · have:=h1.2.2.2.2.1; omega
  | root=>trivial
theorem Net.fits {G:Gr} {T:Top G} {Q:Nat→Prop} {nodes:Nat→Nod} {chan:Nat→Nat→List NMsg} (h:Net G T Q nodes chan) (hn:G.n≤1000) {u:Nat} {c:Nat × Fr.Msg} (hc:c ∈ (nodes u).sent) (hj:c.1 < T.dg u):fit (typed c.2):=by
  obtain ⟨P,⟨s,g,h',hR,hI,a,b⟩,hl⟩:=h.good
  refine hI.fits hn hR.rp (u:=u) (v:=T.nb u c.1) ?_
  rw [hR.q u c.1 hj]
  refine List.mem_append_right _ (List.mem_map.2 ⟨c,List.mem_filter.2 ⟨hc,by simp⟩,rfl⟩)
def PS (n:Nod):Prop:=∀ c ∈ n.sent,c.2=(typed c.2).plain
theorem plain_typed (m:NMsg):m.plain=(typed m.plain).plain:=by
  cases m <;> simp [NMsg.plain,typed]
  rename_i w
  by_cases e:w=1001
  · simp [e]
  · by_cases e2:w=0 <;> simp [e,e2]
theorem ps_of {n n':Nod} (h:PS n) (e:n'.sent=n.sent):PS n':=by unfold PS; rw [e]; exact h
theorem ps_send {n:Nod} (h:PS n) (j:Nat) (m:NMsg):PS (n.send j m):=fun c hc=>by
  rcases List.mem_append.1 hc with hc | hc
  · exact h c hc
  · rw [List.mem_singleton.1 hc]; exact plain_typed m
theorem ps_wake {n:Nod} (h:PS n):PS n.wake:=by
  unfold Nod.wake
  split
  · split
    · exact ps_of h rfl
    · exact ps_send (ps_of h rfl) _ _
  · exact h
theorem ps_spread {n:Nod} (h:PS n) (j l nm:Nat) (f:Bool):PS (n.spread j l nm f):=by
  unfold Nod.spread
  split
  · exact ps_of (ps_send h j (.initiate l nm f)) rfl
  · exact ps_send h _ _
theorem ps_reports {n:Nod} (h:PS n):PS n.reports:=by
  unfold Nod.reports
  split
  · split
    · exact ps_of h rfl
    · exact ps_send (ps_of h rfl) _ _
  · exact h
theorem ps_tests {n:Nod} (h:PS n):PS n.tests:=by
  unfold Nod.tests
  split
  · exact ps_reports (ps_of h rfl)
  · exact ps_send (ps_of h rfl) _ _
theorem ps_spreads (fr l nm : Nat) (f : Bool) : ∀ (k j : Nat) {n : Nod}, PS n → PS (n.spreads fr l nm f k j)
  | 0,j,n,h=>h
  | k + 1,j,n,h=>by
    rw [Nod.spreads]
    split
    · exact ps_spreads fr l nm f k (j + 1) (ps_spread h _ _ _ _)
    · exact ps_spreads fr l nm f k (j + 1) h
theorem ps_reject {n:Nod} (h:PS n) (j:Nat):PS (n.reject j):=by
  unfold Nod.reject
  split
  · exact ps_of h rfl
  · exact h
theorem ps_hear {n:Nod} (h:PS n) (j w:Nat):PS (n.hear j w):=by
  unfold Nod.hear
  split
  · exact ps_of h rfl
  · exact h
theorem ps_root {n:Nod} (h:PS n):PS n.changeRoot:=by
  unfold Nod.changeRoot
  split
  · exact h
  · split
    · exact ps_send h _ _
    · exact ps_of (ps_send h _ _) rfl
theorem ps_act {n:Nod} (h:PS n) (j:Nat) (m:NMsg):PS (n.act j m).1:=by
  have hw:=ps_wake h
  cases m with
  | connect l =>
    show PS (n.connect j l).1
    unfold Nod.connect
    dsimp only
    split
    · exact ps_spread (n:=n.wake.setSt j 1) (ps_of hw rfl) _ _ _ _
    · split
      · exact hw
      · exact ps_send hw _ _
  | initiate l nm f =>
    show PS (n.initiate j l nm f)
    unfold Nod.initiate
    dsimp only
    split
    · exact ps_tests (ps_spreads _ _ _ _ _ _ (ps_of h rfl))
    · exact ps_spreads _ _ _ _ _ _ (ps_of h rfl)
  | test l nm =>
    show PS (n.test j l nm).1
    unfold Nod.test
    dsimp only
    split
    · exact hw
    · split
      · exact ps_send hw _ _
      · split
        · exact ps_tests (ps_reject hw _)
        · exact ps_send (ps_reject hw _) _ _
  | accept=>exact ps_reports (ps_hear (n:={ n with tested:=none }) (ps_of h rfl) _ _)
  | reject=>exact ps_tests (ps_reject h _)
  | report w =>
    show PS (n.report j w).1
    unfold Nod.report
    split
    · split
      · exact h
      · split
        · exact ps_root h
        · split
          · exact ps_of h rfl
          · exact h
    · exact ps_reports (ps_hear (n:={ n with count:=wrap64 (n.count - 1) }) (ps_of h rfl) _ _)
  | root=>exact ps_root h
theorem ps_oneOff : ∀ (f k : Nat) {n : Nod}, PS n → PS (n.oneOff f k).1
  | 0,k,n,h=>h
  | f + 1,k,n,h=>by
    rw [Nod.oneOff]
    split
    · exact h
    · rename_i c hc
      split
      · exact ps_of (ps_act h c.1 c.2) rfl
      · exact ps_oneOff f (k + 1) (ps_act h _ _)
theorem ps_offs : ∀ (f : Nat) {n : Nod}, PS n → PS (n.offs f)
  | 0,n,h=>h
  | f + 1,n,h=>by
    rw [Nod.offs]
    split
    · exact ps_offs f (ps_oneOff _ _ h)
    · exact ps_oneOff _ _ h
theorem ps_take {n:Nod} (h:PS n) (j:Nat) (m:Fr.Msg):PS (n.take j m):=by
  unfold Nod.take
  split
  · exact ps_offs _ (ps_act h _ _)
  · exact ps_of (ps_act h j (typed m)) rfl
end Go.Proofs.YtlfijfodklhplaaGreat.Ghs
