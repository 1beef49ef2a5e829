import Derived.Test.YtlfijfodklhplaaGreatSf44
set_option linter.unusedVariables false
set_option linter.unusedSimpArgs false
namespace Go.Proofs.YtlfijfodklhplaaGreat.Ghs
open Go.RowKit
open NMsg
structure Top (G : Gr) where
  nb:Nat→Nat→Nat
  dg:Nat→Nat
  adj:∀ u j,j < dg u→G.adj u (nb u j)
  inj:∀ u j k,j < dg u→k < dg u→nb u j=nb u k→j=k
  sur:∀ u v,G.adj u v→∃ j,j < dg u∧nb u j=v
  inc:∀ u j k,j < k→k < dg u→G.w u (nb u j)≤G.w u (nb u k)
def sentTo (n:Nod) (j:Nat):List NMsg:=(n.sent.filter (fun c=>c.1 == j)).map (fun c=>typed c.2)
structure NR (G : Gr) (T : Top G) (s : St) (u : Nat) (n : Nod) : Prop where
  aw:s.aw u=true ↔ n.state≠0
  lev:s.lev u=n.level
  nam:s.nam u=n.name
  fnd:s.fnd u=true ↔ n.state=1
  len:n.edges.length=T.dg u
  se:∀ j,j < T.dg u→s.se u (T.nb u j)=n.st j
  wt:∀ j,j < T.dg u→n.wt j=G.w u (T.nb u j)
  inn:s.inn u=n.inn.map (T.nb u)
  innl:∀ j,n.inn=some j→j < T.dg u
  best:s.best u=n.best.map (T.nb u)
  bestl:∀ j,n.best=some j→j < T.dg u
  tst:s.tst u=n.tested.map (T.nb u)
  tstl:∀ j,n.tested=some j→j < T.dg u
  bw:s.bw u=n.bw
  cnt:n.count=(s.cnt u:Int)
  over:s.over u=n.over
  bw1:1≤n.bw
structure Rel (G : Gr) (T : Top G) (nodes : Nat → Nod) (P : Nat → Nat → List NMsg) (s : St) : Prop where
  nr:∀ u,NR G T s u (nodes u)
  q:∀ u j,j < T.dg u→s.q u (T.nb u j)=P u (T.nb u j)++sentTo (nodes u) j
  rp:∀ u v w,report w ∈ s.q u v→1≤w
theorem typed_plain {m:NMsg} (h:∀ w,m=report w→1≤w):typed m.plain=m:=by
  cases m <;> simp [NMsg.plain,typed]
  rename_i w
  have:=h w rfl
  by_cases e:w=1001
  · simp [e]
  · simp [e]; omega
theorem sentTo_send {n:Nod} {j:Nat} {m:NMsg} (h:∀ w,m=report w→1≤w) (k:Nat):sentTo (n.send j m) k=sentTo n k++(if j=k then [m] else []):=by
  simp only [sentTo,Nod.send,List.filter_append,List.map_append]
  congr 1
  by_cases e:j=k
  · simp [e,typed_plain h]
  · simp [e]
theorem st_set {n:Nod} {j x:Nat} (hj:j < n.edges.length) (k:Nat):(n.setSt j x).st k=if k=j then x else n.st k:=by
  simp only [Nod.st,Nod.setSt,List.getElem?_set]
  by_cases e:j=k
  · subst e; simp [hj]
  · simp [e,Ne.symm e]
theorem wt_set {n:Nod} {j x:Nat} (k:Nat):(n.setSt j x).wt k=n.wt k:=by
  simp only [Nod.wt,Nod.setSt,List.getElem?_set]
  by_cases e:j=k
  · subst e
    by_cases h:j < n.edges.length
    · simp [h]
    · simp [h]
  · simp [e]
theorem Rel.mod {G : Gr} {T : Top G} {nodes : Nat → Nod} {u : Nat} {n n' : Nod} {P : Nat → Nat → List NMsg} {s s' : St} (h : Rel G T (upd nodes u n) P s)
    (ho:∀ x,x≠u→s'.aw x=s.aw x∧s'.lev x=s.lev x∧s'.nam x=s.nam x∧s'.fnd x=s.fnd x∧s'.se x=s.se x∧s'.inn x=s.inn x∧s'.best x=s.best x∧s'.bw x=s.bw x∧s'.tst x=s.tst x∧s'.cnt x=s.cnt x∧s'.over x=s.over x∧s'.q x=s.q x)
    (hn:NR G T s' u n') (hq:∀ j,j < T.dg u→s'.q u (T.nb u j)=P u (T.nb u j)++sentTo n' j) (hr:∀ u v w,report w ∈ s'.q u v→1≤w):Rel G T (upd nodes u n') P s':=by
  refine ⟨fun x=>?_,fun x j hj=>?_,hr⟩
  · by_cases e:x=u
    · subst e; rw [upd_at]; exact hn
    · have h0:=h.nr x
      rw [upd_ne _ _ e] at h0 ⊢
      obtain ⟨o1,o2,o3,o4,o5,o6,o7,o8,o9,o10,o11,o12⟩:=ho x e
      exact ⟨by rw [o1]; exact h0.aw,by rw [o2]; exact h0.lev,by rw [o3]; exact h0.nam,by rw [o4]; exact h0.fnd,h0.len,by rw [o5]; exact h0.se,h0.wt,by rw [o6]; exact h0.inn,h0.innl,by rw [o7]; exact h0.best,h0.bestl,by rw [o9]; exact h0.tst,h0.tstl,by rw [o8]; exact h0.bw,by rw [o10]; exact h0.cnt,by rw [o11]; exact h0.over,h0.bw1⟩
  · by_cases e:x=u
    · subst e; rw [upd_at]; exact hq j hj
    · have h0:=h.q x j hj
      rw [upd_ne _ _ e] at h0 ⊢
      obtain ⟨o1,o2,o3,o4,o5,o6,o7,o8,o9,o10,o11,o12⟩:=ho x e
      rw [o12]; exact h0
theorem Rel.send {G:Gr} {T:Top G} {nodes:Nat→Nod} {u:Nat} {n:Nod} {P:Nat→Nat→List NMsg} {s:St} (h:Rel G T (upd nodes u n) P s) {j:Nat} (hj:j < T.dg u) {m:NMsg} (hm:∀ w,m=report w→1≤w) :
    Rel G T (upd nodes u (n.send j m)) P { s with q:=addq s.q u (T.nb u j) m }:=by
  have h0:=h.nr u
  have hq:=h.q u
  rw [upd_at] at h0 hq
  refine h.mod (fun x hx=>⟨rfl,rfl,rfl,rfl,rfl,rfl,rfl,rfl,rfl,rfl,rfl,?_⟩) ⟨h0.aw,h0.lev,h0.nam,h0.fnd,h0.len,h0.se,h0.wt,h0.inn,h0.innl,h0.best,h0.bestl,h0.tst,h0.tstl,h0.bw,h0.cnt,h0.over,h0.bw1⟩ (fun k hk=>?_) ?_
  · funext v; simp [addq,upd2,hx]
  · simp only [addq,upd2]
    rw [sentTo_send hm]
    by_cases e:j=k
    · subst e; simp [hq j hj]
    · have:T.nb u k≠T.nb u j:=fun e2=>e (T.inj u _ _ hj hk e2.symm)
      simp [this,e,hq k hk]
  · intro a b w hw
    simp only [addq,upd2] at hw
    split at hw
    · simp at hw
      rcases hw with hw | hw
      · exact h.rp _ _ _ hw
      · exact hm w hw.symm
    · exact h.rp _ _ _ hw
theorem Rel.setSt {G:Gr} {T:Top G} {nodes:Nat→Nod} {u:Nat} {n:Nod} {P:Nat→Nat→List NMsg} {s:St} (h:Rel G T (upd nodes u n) P s) {j:Nat} (hj:j < T.dg u) (x:Nat) :
    Rel G T (upd nodes u (n.setSt j x)) P { s with se:=upd2 s.se u (T.nb u j) x }:=by
  have h0:=h.nr u
  have hq:=h.q u
  rw [upd_at] at h0 hq
  refine h.mod (fun z hz=>⟨rfl,rfl,rfl,rfl,?_,rfl,rfl,rfl,rfl,rfl,rfl,rfl⟩) ⟨h0.aw,h0.lev,h0.nam,h0.fnd,by simp [Nod.setSt,h0.len],?_,?_,h0.inn,h0.innl,h0.best,h0.bestl,h0.tst,h0.tstl,h0.bw,h0.cnt,h0.over,h0.bw1⟩ hq h.rp
  · funext v; simp [upd2,hz]
  · intro k hk
    simp only [upd2]
    rw [st_set (by rw [h0.len]; exact hj)]
    by_cases e:k=j
    · subst e; simp
    · have:T.nb u k≠T.nb u j:=fun e2=>e (T.inj u _ _ hk hj e2)
      simp [this,e,h0.se k hk]
  · intro k hk; rw [wt_set]; exact h0.wt k hk
theorem Rel.out {G:Gr} {T:Top G} {nodes:Nat→Nod} {P:Nat→Nat→List NMsg} {s:St} (h:Rel G T nodes P s) {y x:Nat} {A B:List NMsg} {m:NMsg} (ha:G.adj y x) (hP:P y x=A++m :: B) :
    ∃ C,s.q y x=A++m :: C∧Rel G T nodes (upd2 P y x (A++B)) { s with q:=upd2 s.q y x (A++C) }:=by
  obtain ⟨j,hj,rfl⟩:=T.sur y x ha
  refine ⟨B++sentTo (nodes y) j,?_,?_,?_,?_⟩
  · rw [h.q y j hj,hP]; simp
  · intro u
    have h0:=h.nr u
    exact ⟨h0.aw,h0.lev,h0.nam,h0.fnd,h0.len,h0.se,h0.wt,h0.inn,h0.innl,h0.best,h0.bestl,h0.tst,h0.tstl,h0.bw,h0.cnt,h0.over,h0.bw1⟩
  · intro u k hk
    simp only [upd2]
    split
    · rename_i e
      obtain ⟨rfl,e⟩:=e
      have:=T.inj u _ _ hk hj e
      subst this
      simp
    · exact h.q u k hk
  · intro u v w hw
    simp only [upd2] at hw
    split at hw
    · refine h.rp y (T.nb y j) w ?_
      rw [h.q y j hj,hP]
      simp at hw ⊢
      rcases hw with hw | hw | hw
      · exact Or.inl hw
      · exact Or.inr (Or.inr (Or.inl hw))
      · exact Or.inr (Or.inr (Or.inr hw))
    · exact h.rp _ _ _ hw
theorem upd_self {α:Type} (f:Nat→α) (a:Nat):upd f a (f a)=f:=by
  funext x; simp only [upd]; split
  · rename_i e; rw [e]
  · rfl
theorem lightFrom_some : ∀ (l : List (Nat × Nat)) (k j : Nat), Nod.lightFrom l k = some j → k ≤ j ∧ ∃ e, l[j - k]? = some e ∧ e.2 = 0 ∧ ∀ i, i < j - k → ∀ e, l[i]? = some e → e.2 ≠ 0
  | [],k,j,h=>by simp [Nod.lightFrom] at h
  | e :: r,k,j,h=>by
    simp only [Nod.lightFrom] at h
    split at h
    · rename_i e0
      simp at h; subst h
      exact ⟨Nat.le_refl _,e,by simp,e0,fun i hi=>by omega⟩
    · rename_i e0
      obtain ⟨h1,e',h2,h3,h4⟩:=lightFrom_some r (k + 1) j h
      refine ⟨by omega,e',?_,h3,?_⟩
      · rw [show j - k=(j - (k + 1)) + 1 by omega,List.getElem?_cons_succ]; exact h2
      · intro i hi e2 he
        cases i with
        | zero=>simp at he; subst he; exact e0
        | succ i=>rw [List.getElem?_cons_succ] at he; exact h4 i (by omega) e2 he
theorem lightFrom_none : ∀ (l : List (Nat × Nat)) (k : Nat), Nod.lightFrom l k = none → ∀ (i : Nat) (e : Nat × Nat), l[i]? = some e → e.2 ≠ 0
  | [],k,h,i,e,he=>by simp at he
  | a :: r,k,h,i,e,he=>by
    simp only [Nod.lightFrom] at h
    split at h
    · cases h
    · rename_i e0
      cases i with
      | zero=>simp at he; subst he; exact e0
      | succ i=>rw [List.getElem?_cons_succ] at he; exact lightFrom_none r (k + 1) h i e he
theorem NR.light_some {G:Gr} {T:Top G} {s:St} {u:Nat} {n:Nod} (h:NR G T s u n) {j:Nat} (hl:n.light=some j):j < T.dg u∧s.se u (T.nb u j)=0∧∀ x,G.adj u x→s.se u x=0→G.w u (T.nb u j)≤G.w u x:=by
  obtain ⟨_,e,h1,h2,h3⟩:=lightFrom_some _ _ _ hl
  simp only [Nat.sub_zero] at h1 h3
  have hj:j < T.dg u:=by rw [← h.len]; exact (List.getElem?_eq_some_iff.1 h1).1
  refine ⟨hj,by rw [h.se j hj]; simp [Nod.st,h1,h2],fun x hx h0=>?_⟩
  obtain ⟨k,hk,rfl⟩:=T.sur u x hx
  rw [h.se k hk] at h0
  by_cases e1:k < j
  · have hk':k < n.edges.length:=by rw [h.len]; exact hk
    have:=h3 k e1 _ (List.getElem?_eq_getElem hk')
    simp [Nod.st,List.getElem?_eq_getElem hk'] at h0
    exact (this h0).elim
  · by_cases e2:j=k
    · subst e2; exact Nat.le_refl _
    · exact T.inc u j k (by omega) hk
theorem NR.light_none {G:Gr} {T:Top G} {s:St} {u:Nat} {n:Nod} (h:NR G T s u n) (hl:n.light=none):∀ x,G.adj u x→s.se u x≠0:=fun x hx h0=>by
  obtain ⟨k,hk,rfl⟩:=T.sur u x hx
  rw [h.se k hk] at h0
  have hk':k < n.edges.length:=by rw [h.len]; exact hk
  have:=lightFrom_none _ _ hl k _ (List.getElem?_eq_getElem hk')
  simp [Nod.st,List.getElem?_eq_getElem hk'] at h0
  exact this h0
def Good (G:Gr) (T:Top G) (nodes:Nat→Nod) (P:Nat→Nat→List NMsg):Prop:=∃ s g h,Rel G T nodes P s∧Inv G s g h∧(∀ u,¬ h.tk u)∧(∀ u,¬ h.tg u)
theorem Inv.inn_some {G:Gr} {s:St} {g:Gh} {h:Gs} (hI:Inv G s g h) {u:Nat} (hf:s.fnd u=true):∃ x,s.inn u=some x:=by
  have h1:=hI.rp.s1 u hf
  have h2:=hI.rp.si u h1.1 h1.2.1
  have h3:=hI.st.p0 u h1.1
  cases e:g.par u
  · exact (h3.2 e).elim
  · exact ⟨_,by rw [h2,e]⟩
theorem sim_reports {G:Gr} {T:Top G} {nodes:Nat→Nod} {u:Nat} {n:Nod} {P:Nat→Nat→List NMsg} {s:St} {g:Gh} {h:Gs} (hR:Rel G T (upd nodes u n) P s) (hI:Inv G s g h) (hf:s.fnd u=true) (ht:¬ h.tg u) :
    ∃ s' h',Rel G T (upd nodes u n.reports) P s'∧Inv G s' g h'∧h'.tk=h.tk∧h'.tg=h.tg:=by
  have h0:=hR.nr u
  rw [upd_at] at h0
  unfold Nod.reports
  split
  · rename_i hc
    obtain ⟨x,hx⟩:=hI.inn_some hf
    have hi:=h0.inn
    rw [hx] at hi
    cases e:n.inn with
    | none=>rw [e] at hi; cases hi
    | some j =>
      rw [e] at hi
      simp at hi
      have hj:=h0.innl j e
      subst hi
      have h1:s.tst u=none:=by rw [h0.tst,hc.2]; rfl
      have h2:s.cnt u=0:=by have:=h0.cnt; rw [hc.1] at this; omega
      have h3:=ev_reports hI hf h1 ht h2 hx
      refine ⟨_,_,?_,h3,rfl,rfl⟩
      have h4:Rel G T (upd nodes u { n with state:=2 }) P { s with fnd:=upd s.fnd u false }:=by
        have haw:=fnd_aw hI hf
        refine hR.mod (fun z hz=>⟨rfl,rfl,rfl,by simp [upd,hz],rfl,rfl,rfl,rfl,rfl,rfl,rfl,rfl⟩) ⟨?_,h0.lev,h0.nam,?_,h0.len,h0.se,h0.wt,h0.inn,h0.innl,h0.best,h0.bestl,h0.tst,h0.tstl,h0.bw,h0.cnt,h0.over,h0.bw1⟩ (fun k hk=>?_) hR.rp
        · simp [haw]
        · simp [upd]
        · have:=hR.q u k hk; rw [upd_at] at this; exact this
      have h5:=h4.send hj (m:=report n.bw) (fun w e=>by cases e; exact h0.bw1)
      rw [h0.bw]
      rw [e] at h5
      exact h5
  · exact ⟨s,h,hR,hI,rfl,rfl⟩
theorem tests_none (n:Nod):({ n with tested:=none }:Nod).tests=n.tests:=rfl
theorem sim_tests {G:Gr} {T:Top G} {nodes:Nat→Nod} {u:Nat} {n:Nod} {P:Nat→Nat→List NMsg} {s:St} {g:Gh} {h:Gs} (hR:Rel G T (upd nodes u n) P s) (hI:Inv G s g h) (ht:h.tg u) :
    ∃ s' h',Rel G T (upd nodes u n.tests) P s'∧Inv G s' g h'∧h'.tk=h.tk∧h'.tg=fun x=>x≠u∧h.tg x:=by
  have h0:=hR.nr u
  rw [upd_at] at h0
  have hf:s.fnd u=true:=by
    cases e:s.fnd u
    · exact ((hI.ts.t0 u e).2 ht).elim
    · rfl
  have hn:=hI.ts.t3 u ht
  have hnt:n.tested=none:=by
    have:=h0.tst; rw [hn] at this
    cases e:n.tested with
    | none=>rfl
    | some j=>rw [e] at this; cases this
  unfold Nod.tests
  split
  · rename_i hl
    have h1:=ev_tests0 hI (h0.light_none hl)
    have e:({ n with tested:=none }:Nod)=n:=by cases n; simp at hnt ⊢; exact hnt.symm
    rw [e]
    obtain ⟨s',h',a1,a2,a3,a4⟩:=sim_reports hR h1 hf (fun e=>e.1 rfl)
    exact ⟨s',h',a1,a2,a3,a4⟩
  · rename_i j hl
    obtain ⟨hj,l1,l2⟩:=h0.light_some hl
    have h1:=ev_tests hI ht (T.adj u j hj) l1 l2
    refine ⟨_,_,?_,h1,rfl,rfl⟩
    have h4:Rel G T (upd nodes u { n with tested:=some j }) P { s with tst:=upd s.tst u (some (T.nb u j)) }:=by
      refine hR.mod (fun z hz=>⟨rfl,rfl,rfl,rfl,rfl,rfl,rfl,rfl,by simp [upd,hz],rfl,rfl,rfl⟩) ⟨h0.aw,h0.lev,h0.nam,h0.fnd,h0.len,h0.se,h0.wt,h0.inn,h0.innl,h0.best,h0.bestl,?_,?_,h0.bw,h0.cnt,h0.over,h0.bw1⟩ (fun k hk=>?_) hR.rp
      · simp [upd]
      · intro k e; cases e; exact hj
      · have:=hR.q u k hk; rw [upd_at] at this; exact this
    have h5:=h4.send hj (m:=test n.level n.name) (fun w e=>by cases e)
    rw [h0.lev,h0.nam]
    exact h5
theorem sim_hear {G:Gr} {T:Top G} {nodes:Nat→Nod} {u:Nat} {n:Nod} {P:Nat→Nat→List NMsg} {s:St} (hR:Rel G T (upd nodes u n) P s) {j w:Nat} (hj:j < T.dg u) (hw:1≤w) :
    ∃ bw' best',((w < s.bw u∧bw'=w∧best'=some (T.nb u j))∨(¬ w < s.bw u∧bw'=s.bw u∧best'=s.best u))∧Rel G T (upd nodes u (n.hear j w)) P { s with bw:=upd s.bw u bw',best:=upd s.best u best' }:=by
  have h0:=hR.nr u
  rw [upd_at] at h0
  unfold Nod.hear
  split
  · rename_i hl
    refine ⟨w,some (T.nb u j),Or.inl ⟨by rw [h0.bw]; exact hl,rfl,rfl⟩,?_⟩
    refine hR.mod (fun z hz=>⟨rfl,rfl,rfl,rfl,rfl,rfl,by simp [upd,hz],by simp [upd,hz],rfl,rfl,rfl,rfl⟩) ⟨h0.aw,h0.lev,h0.nam,h0.fnd,h0.len,h0.se,h0.wt,h0.inn,h0.innl,by simp [upd],?_,h0.tst,h0.tstl,by simp [upd],h0.cnt,h0.over,hw⟩ (fun k hk=>?_) hR.rp
    · intro k e; cases e; exact hj
    · have:=hR.q u k hk; rw [upd_at] at this; exact this
  · rename_i hl
    refine ⟨s.bw u,s.best u,Or.inr ⟨by rw [h0.bw]; exact hl,rfl,rfl⟩,?_⟩
    rw [upd_self,upd_self]; exact hR
theorem act_accept {G:Gr} {T:Top G} {nodes:Nat→Nod} {P:Nat→Nat→List NMsg} (hG:Good G T nodes P) {y j:Nat} (hj:j < T.dg y) {A B:List NMsg} (hP:P (T.nb y j) y=A++accept :: B) :
    Good G T (upd nodes y ((nodes y).accept j)) (upd2 P (T.nb y j) y (A++B)):=by
  obtain ⟨s,g,h,hR,hI,htk,htg⟩:=hG
  have ha:=T.adj y j hj
  obtain ⟨C,hq,hR1⟩:=hR.out (G.sym _ _ ha) hP
  have hm:accept ∈ kT s.q (T.nb y j) y:=by simp only [kT,hq]; simp [isAns]
  have hf:=tst_fnd hI (hI.ts.t5 y (T.nb y j) hm).1
  have h0:=hR.nr y
  have hR2:Rel G T (upd nodes y { nodes y with tested:=none }) (upd2 P (T.nb y j) y (A++B)) { s with tst:=upd s.tst y none,q:=upd2 s.q (T.nb y j) y (A++C) }:=by
    rw [← upd_self nodes y] at hR1
    refine hR1.mod (fun z hz=>⟨rfl,rfl,rfl,rfl,rfl,rfl,rfl,rfl,by simp [upd,hz],rfl,rfl,rfl⟩) ⟨h0.aw,h0.lev,h0.nam,h0.fnd,h0.len,h0.se,h0.wt,h0.inn,h0.innl,h0.best,h0.bestl,by simp [upd],(fun k e=>by cases e),h0.bw,h0.cnt,h0.over,h0.bw1⟩ (fun k hk=>?_) hR1.rp
    have:=hR1.q y k hk; rw [upd_at] at this; exact this
  obtain ⟨bw',best',hb,hR3⟩:=sim_hear hR2 hj (w:=(nodes y).wt j) (by rw [h0.wt j hj]; exact (G.w1 _ _ ha).1)
  rw [h0.wt j hj] at hb
  have hI2:=ev_accept hI hq bw' best' hb
  obtain ⟨s',h',a1,a2,a3,a4⟩:=sim_reports hR3 hI2 hf (htg y)
  exact ⟨s',g,h',a1,a2,by rw [a3]; exact htk,by rw [a4]; exact htg⟩
theorem sim_reject {G:Gr} {T:Top G} {nodes:Nat→Nod} {u:Nat} {n:Nod} {P:Nat→Nat→List NMsg} {s:St} (hR:Rel G T (upd nodes u n) P s) {j:Nat} (hj:j < T.dg u) :
    ∃ se',((s.se u (T.nb u j)=0∧se'=upd2 s.se u (T.nb u j) 2)∨(s.se u (T.nb u j)≠0∧se'=s.se))∧Rel G T (upd nodes u (n.reject j)) P { s with se:=se' }:=by
  have h0:=hR.nr u
  rw [upd_at] at h0
  unfold Nod.reject
  split
  · rename_i e
    exact ⟨_,Or.inl ⟨by rw [h0.se j hj]; exact e,rfl⟩,hR.setSt hj 2⟩
  · rename_i e
    exact ⟨_,Or.inr ⟨by rw [h0.se j hj]; exact e,rfl⟩,hR⟩
theorem sim_untest {G:Gr} {T:Top G} {nodes:Nat→Nod} {u:Nat} {n:Nod} {P:Nat→Nat→List NMsg} {s:St} (hR:Rel G T (upd nodes u n) P s):Rel G T (upd nodes u { n with tested:=none }) P { s with tst:=upd s.tst u none }:=by
  have h0:=hR.nr u
  rw [upd_at] at h0
  refine hR.mod (fun z hz=>⟨rfl,rfl,rfl,rfl,rfl,rfl,rfl,rfl,by simp [upd,hz],rfl,rfl,rfl⟩) ⟨h0.aw,h0.lev,h0.nam,h0.fnd,h0.len,h0.se,h0.wt,h0.inn,h0.innl,h0.best,h0.bestl,by simp [upd],(fun k e=>by cases e),h0.bw,h0.cnt,h0.over,h0.bw1⟩ (fun k hk=>?_) hR.rp
  have:=hR.q u k hk; rw [upd_at] at this; exact this
theorem act_reject {G:Gr} {T:Top G} {nodes:Nat→Nod} {P:Nat→Nat→List NMsg} (hG:Good G T nodes P) {y j:Nat} (hj:j < T.dg y) {A B:List NMsg} (hP:P (T.nb y j) y=A++reject :: B) :
    Good G T (upd nodes y (((nodes y).reject j).tests)) (upd2 P (T.nb y j) y (A++B)):=by
  obtain ⟨s,g,h,hR,hI,htk,htg⟩:=hG
  have ha:=T.adj y j hj
  obtain ⟨C,hq,hR1⟩:=hR.out (G.sym _ _ ha) hP
  rw [← upd_self nodes y] at hR1
  obtain ⟨se',hse,hR2⟩:=sim_reject hR1 hj
  have hR3:=sim_untest hR2
  have hI2:=ev_reject hI hq se' hse
  obtain ⟨s',h',a1,a2,a3,a4⟩:=sim_tests hR3 hI2 (Or.inl rfl)
  rw [tests_none] at a1
  refine ⟨s',g,h',a1,a2,by rw [a3]; exact htk,fun x hx=>?_⟩
  rw [a4] at hx
  rcases hx with ⟨x1,x2 | x2⟩
  · exact x1 x2
  · exact htg x x2
theorem act_test {G:Gr} {T:Top G} {nodes:Nat→Nod} {P:Nat→Nat→List NMsg} (hG:Good G T nodes P) {v j l n:Nat} (hj:j < T.dg v) {A B:List NMsg} (hP:P (T.nb v j) v=A++test l n :: B) (hw:(nodes v).state≠0) (ht:((nodes v).test j l n).2=true) :
    Good G T (upd nodes v ((nodes v).test j l n).1) (upd2 P (T.nb v j) v (A++B)):=by
  obtain ⟨s,g,h,hR,hI,htk,htg⟩:=hG
  have ha:=T.adj v j hj
  obtain ⟨C,hq,hR1⟩:=hR.out (G.sym _ _ ha) hP
  rw [← upd_self nodes v] at hR1
  have h0:=hR.nr v
  have hav:=h0.aw.2 hw
  have ew:(nodes v).wake=nodes v:=by simp [Nod.wake,hw]
  unfold Nod.test at ht ⊢
  rw [ew] at ht ⊢
  dsimp only at ht ⊢
  by_cases c1:(nodes v).level < l
  · rw [if_pos c1] at ht; cases ht
  · rw [if_neg c1] at ht ⊢
    have hl:l≤s.lev v:=by rw [h0.lev]; omega
    by_cases c2:n≠(nodes v).name
    · rw [if_pos c2] at ht ⊢
      have h1:=ev_testA hI hq hav hl (by rw [h0.nam]; exact c2)
      exact ⟨_,g,h,hR1.send hj (fun w e=>by cases e),h1,htk,htg⟩
    · rw [if_neg c2] at ht ⊢
      have hn:n=s.nam v:=by rw [h0.nam]; exact Classical.not_not.1 c2
      obtain ⟨se',hse,hR2⟩:=sim_reject hR1 hj
      by_cases c3:(nodes v).tested=some j
      · rw [if_pos c3] at ht ⊢
        have htv:s.tst v=some (T.nb v j):=by rw [h0.tst,c3]; rfl
        have h1:=ev_testX hI hq hl hn htv se' hse
        have hR3:=sim_untest hR2
        obtain ⟨s',h',a1,a2,a3,a4⟩:=sim_tests hR3 h1 (Or.inl rfl)
        rw [tests_none] at a1
        refine ⟨s',g,h',a1,a2,by rw [a3]; exact htk,fun x hx=>?_⟩
        rw [a4] at hx
        rcases hx with ⟨x1,x2 | x2⟩
        · exact x1 x2
        · exact htg x x2
      · rw [if_neg c3] at ht ⊢
        have htv:s.tst v≠some (T.nb v j):=fun e=>by
          rw [h0.tst] at e
          cases e2:(nodes v).tested with
          | none=>rw [e2] at e; cases e
          | some k =>
            rw [e2] at e
            simp at e
            have:=T.inj v _ _ (h0.tstl k e2) hj e
            subst this
            exact c3 e2
        have h1:=ev_testR hI hq hav hl hn htv se' hse
        exact ⟨_,g,h,hR2.send hj (fun w e=>by cases e),h1,htk,htg⟩
theorem Inv.untk {G:Gr} {s:St} {g:Gh} {h:Gs} (hI:Inv G s g h) (u:Nat):Inv G s g { h with tk:=fun z=>z≠u∧h.tk z }:=by
  obtain ⟨q0,st,rp,ts,bs,pa⟩:=hI
  exact ⟨q0,st,rp,ts,⟨bs.bb,fun z hz=>bs.k1 z hz.2,bs.k2,bs.ov⟩,⟨pa.p1,pa.u1,fun z hz=>pa.k3 z hz.2,pa.k4⟩⟩
theorem sim_conn {G:Gr} {T:Top G} {nodes:Nat→Nod} {u:Nat} {n:Nod} {P:Nat→Nat→List NMsg} {s:St} {g:Gh} {h:Gs} (hR:Rel G T (upd nodes u n) P s) (hI:Inv G s g h) {j:Nat} (hj:j < T.dg u) (ht:h.tk u) (h0:s.se u (T.nb u j)=0) (hw:G.w u (T.nb u j)=g.W u) (hf:¬ g.fr u (T.nb u j)) (hl:g.L u≤s.lev (T.nb u j)) :
    ∃ s' g' h',Rel G T (upd nodes u ((n.send j (connect n.level)).setSt j 1)) P s'∧Inv G s' g' h'∧(h'.tk=fun z=>z≠u∧h.tk z)∧h'.tg=h.tg:=by
  have hn:=hR.nr u
  rw [upd_at] at hn
  have hR2:=(hR.send hj (m:=connect n.level) (fun w e=>by cases e)).setSt hj 1
  rw [← hn.lev] at hR2
  by_cases e:s.se (T.nb u j) u=1
  · have h1:=ev_merge hI ht (T.adj u j hj) h0 e hw hf hl
    exact ⟨_,_,_,by rw [← hn.lev]; exact hR2,h1,rfl,rfl⟩
  · have h1:=ev_conn hI ht (T.adj u j hj) h0 e hw hf hl
    exact ⟨_,_,_,by rw [← hn.lev]; exact hR2,h1,rfl,rfl⟩
theorem sim_root {G:Gr} {T:Top G} {nodes:Nat→Nod} {u:Nat} {n:Nod} {P:Nat→Nat→List NMsg} {s:St} {g:Gh} {h:Gs} (hR:Rel G T (upd nodes u n) P s) (hI:Inv G s g h) (ht:h.tk u) (hL:1≤g.L u) :
    (∃ b,n.best=some b)∧∃ s' g' h',Rel G T (upd nodes u n.changeRoot) P s'∧Inv G s' g' h'∧(h'.tk=fun z=>z≠u∧h.tk z)∧h'.tg=h.tg:=by
  have hn:=hR.nr u
  rw [upd_at] at hn
  obtain ⟨k1,k2,k3,k4,k5,k6⟩:=hI.bs.k1 u ht
  have k7:=hI.pa.k3 u ht
  obtain ⟨v,b1,b2,b3⟩:=hI.bs.bb u hL k4 (by omega) (k5 hL).2
  have hb:=hn.best
  rw [b1] at hb
  cases e:n.best with
  | none=>rw [e] at hb; cases hb
  | some b =>
    refine ⟨⟨b,rfl⟩,?_⟩
    rw [e] at hb
    simp at hb
    subst hb
    have hj:=hn.bestl b e
    unfold Nod.changeRoot
    simp only [e]
    rcases b3 with b3 | b3 | b3
    · exact (k7.2.1 b3).elim
    · have e1:n.st b≠1:=by rw [← hn.se b hj]; omega
      rw [if_neg e1]
      exact sim_conn hR hI hj ht b3.1 (by have:=(k5 hL).1; omega) b3.2.2.1 b3.2.2.2
    · have e2:=(hI.st.pr _ _ b3.1.1).2
      have e1:n.st b=1:=by rw [← hn.se b hj]; exact e2
      rw [if_pos e1]
      have h1:=ev_rootSend hI ht b1 e2
      exact ⟨_,_,_,hR.send hj (fun w e=>by cases e),h1,rfl,rfl⟩
theorem act_wake {G:Gr} {T:Top G} {nodes:Nat→Nod} {P:Nat→Nat→List NMsg} (hG:Good G T nodes P) (u:Nat):Good G T (upd nodes u (nodes u).wake) P:=by
  unfold Nod.wake
  by_cases e0:(nodes u).state=0
  · rw [if_pos e0]
    obtain ⟨s,g,h,hR,hI,htk,htg⟩:=hG
    have hn:=hR.nr u
    have ha:s.aw u=false:=by
      cases e:s.aw u
      · rfl
      · exact (hn.aw.1 e e0).elim
    have hf:s.fnd u=false:=by
      cases e:s.fnd u
      · rfl
      · have:=hn.fnd.1 e; omega
    obtain ⟨a1,a2,a3,a4,a5⟩:=hI.st.asl u ha
    have hse:∀ v,s.se u v=0:=fun v=>by
      apply Classical.byContradiction
      intro e
      have:=(hI.st.sa u v e).2
      rw [ha] at this; cases this
    have hc:=hI.rp.s6 u hf
    have hR1:Rel G T (upd nodes u { nodes u with level:=0,state:=2,count:=0 }) P { s with aw:=upd s.aw u true }:=by
      rw [← upd_self nodes u] at hR
      refine hR.mod (fun z hz=>⟨by simp [upd,hz],rfl,rfl,rfl,rfl,rfl,rfl,rfl,rfl,rfl,rfl,rfl⟩) ⟨by simp [upd],a1,hn.nam,by simp [hf],hn.len,hn.se,hn.wt,hn.inn,hn.innl,hn.best,hn.bestl,hn.tst,hn.tstl,hn.bw,by simp [hc],hn.over,hn.bw1⟩ (fun k hk=>?_) hR.rp
      have:=hR.q u k hk; rw [upd_at] at this; exact this
    have hn1:=hR1.nr u
    rw [upd_at] at hn1
    split
    · rename_i hl
      have h1:=(ev_wake hI ha 0 (fun v _=>Nat.zero_le _)).untk u
      have hna:∀ v,¬ G.adj u v:=fun v hv=>hn1.light_none hl v hv (hse v)
      have h2:=ev_lone h1 (u:=u) a2 hna
      refine ⟨_,_,_,?_,h2,?_,htg⟩
      · refine hR1.mod (fun z hz=>⟨rfl,rfl,rfl,rfl,rfl,rfl,rfl,rfl,rfl,rfl,by simp [upd,hz],rfl⟩) ⟨hn1.aw,hn1.lev,hn1.nam,hn1.fnd,hn1.len,hn1.se,hn1.wt,hn1.inn,hn1.innl,hn1.best,hn1.bestl,hn1.tst,hn1.tstl,hn1.bw,hn1.cnt,by simp [upd],hn1.bw1⟩ (fun k hk=>?_) hR1.rp
        have:=hR1.q u k hk; rw [upd_at] at this; exact this
      · intro x hx
        rcases hx with ⟨x1,x2 | x2⟩
        · exact x1 x2
        · exact htk x x2
    · rename_i j hl
      obtain ⟨hj,l1,l2⟩:=hn1.light_some hl
      have h1:=ev_wake hI ha (G.w u (T.nb u j)) (fun v hv=>l2 v hv (hse v))
      have hnf:¬ g.fr u (T.nb u j):=fun e=>by
        have:=hI.st.f5 u _ a2 e
        have h9:=T.adj u j hj
        rw [← this] at h9
        exact G.irr _ h9
      obtain ⟨s',g',h',b1,b2,b3,b4⟩:=sim_conn hR1 h1 hj (Or.inl rfl) l1 (by simp [upd]) hnf (by dsimp only; omega)
      refine ⟨s',g',h',b1,b2,?_,by rw [b4]; exact htg⟩
      intro x hx
      rw [b3] at hx
      rcases hx with ⟨x1,x2 | x2⟩
      · exact x1 x2
      · exact htk x x2
  · rw [if_neg e0,upd_self]; exact hG
theorem Inv.cnt_le {G:Gr} {s:St} {g:Gh} {h:Gs} (hI:Inv G s g h) (u:Nat):s.cnt u≤G.n:=by
  cases e:s.fnd u
  · rw [hI.rp.s6 u e]; exact Nat.zero_le _
  · obtain ⟨l,l1,l2,l3⟩:=hI.rp.ct u e
    rw [← l2]
    refine nodup_len _ l l1 fun x hx=>?_
    have h1:=((l3 x).1 hx).1.1
    have h2:=hI.st.pr _ _ h1
    exact G.lt _ _ (hI.st.sa x u (by have:=h2.1; omega)).1
theorem wrap_id {x:Int} (h1:-2≤x) (h2:x < 2 ^ 60):wrap64 x=x:=by
  unfold wrap64
  omega
theorem act_connect {G:Gr} {T:Top G} {nodes:Nat→Nod} {P:Nat→Nat→List NMsg} (hsm:G.n < 2 ^ 30) (hG:Good G T nodes P) {v j l:Nat} (hj:j < T.dg v) {A B:List NMsg} (hP:P (T.nb v j) v=A++connect l :: B) (hw:(nodes v).state≠0) (ht:((nodes v).connect j l).2=true) :
    Good G T (upd nodes v ((nodes v).connect j l).1) (upd2 P (T.nb v j) v (A++B)):=by
  obtain ⟨s,g,h,hR,hI,htk,htg⟩:=hG
  have ha:=T.adj v j hj
  obtain ⟨C,hq,hR1⟩:=hR.out (G.sym _ _ ha) hP
  rw [← upd_self nodes v] at hR1
  have h0:=hR.nr v
  have ew:(nodes v).wake=nodes v:=by simp [Nod.wake,hw]
  unfold Nod.connect at ht ⊢
  rw [ew] at ht ⊢
  dsimp only at ht ⊢
  by_cases c1:l < (nodes v).level
  · rw [if_pos c1] at ht ⊢
    have hl:l < s.lev v:=by rw [h0.lev]; exact c1
    have hR2:=hR1.setSt hj 1
    have hR3:=hR2.send hj (m:=initiate (nodes v).level (nodes v).name ((nodes v).state == 1)) (fun w e=>by cases e)
    have hn3:=hR3.nr v
    rw [upd_at] at hn3
    have hcl:=hI.cnt_le v
    unfold Nod.spread
    cases ef:s.fnd v
    · have e1:((nodes v).state == 1)=false:=by
        cases e:((nodes v).state == 1)
        · rfl
        · rw [h0.fnd.2 (by simpa using e)] at ef; cases ef
      have h1:=ev_absorb hI hq hl s.cnt (Or.inr ⟨ef,rfl⟩)
      rw [h0.lev,h0.nam,ef] at h1
      rw [e1] at hR3 ⊢
      exact ⟨_,_,_,hR3,h1,htk,htg⟩
    · have e1:((nodes v).state == 1)=true:=by simpa using h0.fnd.1 ef
      have h1:=ev_absorb hI hq hl _ (Or.inl ⟨ef,rfl⟩)
      rw [h0.lev,h0.nam,ef] at h1
      rw [e1] at hR3 ⊢
      rw [e1] at hn3
      simp only [if_true]
      refine ⟨_,_,_,?_,h1,htk,htg⟩
      have hcn:((nodes v).setSt j 1).count=(s.cnt v:Int):=h0.cnt
      refine hR3.mod (fun z hz=>⟨rfl,rfl,rfl,rfl,rfl,rfl,rfl,rfl,rfl,by simp [upd,hz],rfl,rfl⟩) ⟨hn3.aw,hn3.lev,hn3.nam,hn3.fnd,hn3.len,hn3.se,hn3.wt,hn3.inn,hn3.innl,hn3.best,hn3.bestl,hn3.tst,hn3.tstl,hn3.bw,?_,hn3.over,hn3.bw1⟩ (fun k hk=>?_) hR3.rp
      · simp only [upd,if_true]
        rw [hcn,wrap_id (by omega) (by omega)]
        simp
      · have:=hR3.q v k hk; rw [upd_at] at this; exact this
  · rw [if_neg c1] at ht ⊢
    by_cases c2:(nodes v).st j=0
    · rw [if_pos c2] at ht; cases ht
    · rw [if_neg c2] at ht ⊢
      have hm:connect l ∈ kS s.q (T.nb v j) v:=by simp only [kS,hq]; simp [isCon]
      have hc:=hI.st.cn _ _ _ hm
      have hs:s.se v (T.nb v j)=1:=by
        apply Classical.byContradiction
        intro e
        have h1:=h0.se j hj
        have h2:=hI.st.se3 v (T.nb v j)
        have h3:=hI.st.se2 v (T.nb v j) (by omega)
        exact (hI.st.hf _ _ ⟨hc.1,e⟩).2.2.1 (hI.st.f2 _ _ h3)
      have h1:=ev_core hI hq hs
      rw [h0.lev,← h0.wt j hj] at h1
      exact ⟨_,_,_,hR1.send hj (fun w e=>by cases e),h1,htk,htg⟩
theorem Inv.repKid {G:Gr} {s:St} {g:Gh} {h:Gs} (hI:Inv G s g h) {x y w:Nat} {A B:List NMsg} (hq:s.q y x=A++report w :: B) (hA:inits A=[]) (hx:s.inn x≠some y):s.fnd x=true∧1≤s.cnt x:=by
  have hm:report w ∈ kR s.q y x:=by simp only [kR,hq]; simp [isRep]
  rcases hI.rp.r1 x y w hm with ⟨a1,a2,a3,a4,a5,a6,a7,a8⟩ | a
  · obtain ⟨b1,b2,b3,b4⟩:=hI.live hq hA a1 a2 a3 a8
    have hk:kid g x y:=⟨a2,fun e=>hx (by rw [hI.rp.si x b2 b1]; exact e)⟩
    have hf:=a7 hk
    refine ⟨hf,?_⟩
    obtain ⟨l,l1,l2,l3⟩:=hI.rp.ct x hf
    have:=List.length_pos_of_mem ((l3 y).2 ⟨hk,Or.inr ⟨w,hm⟩⟩)
    omega
  · exact (hx a.2.1).elim
theorem act_report {G:Gr} {T:Top G} {nodes:Nat→Nod} {P:Nat→Nat→List NMsg} (hsm:G.n < 2 ^ 30) (hG:Good G T nodes P) {x j w:Nat} (hj:j < T.dg x) {A B:List NMsg} (hP:P (T.nb x j) x=A++report w :: B) (hA:inits A=[]) (ht:((nodes x).report j w).2=true) :
    Good G T (upd nodes x ((nodes x).report j w).1) (upd2 P (T.nb x j) x (A++B)):=by
  obtain ⟨s,g,h,hR,hI,htk,htg⟩:=hG
  have ha:=T.adj x j hj
  obtain ⟨C,hq,hR1⟩:=hR.out (G.sym _ _ ha) hP
  rw [← upd_self nodes x] at hR1
  have h0:=hR.nr x
  have hw1:1≤w:=hR.rp _ _ _ (by rw [hq]; simp)
  unfold Nod.report at ht ⊢
  by_cases c1:(nodes x).inn=some j
  · rw [if_pos c1] at ht ⊢
    have hin:s.inn x=some (T.nb x j):=by rw [h0.inn,c1]; rfl
    by_cases c2:(nodes x).state=1
    · rw [if_pos c2] at ht; cases ht
    · rw [if_neg c2] at ht ⊢
      have hf:s.fnd x=false:=by
        cases e:s.fnd x
        · rfl
        · exact (c2 (h0.fnd.1 e)).elim
      by_cases c3:(nodes x).bw < w
      · rw [if_pos c3] at ht ⊢
        have hb:s.bw x < w:=by rw [h0.bw]; exact c3
        have hcr:=hI.coreRep hq hA hin hf
        have h1:=ev_decide hI hq hA hin hf hb
        have hL:1≤g.L x:=by
          rcases hcr with hcr | hcr
          · omega
          · exact (hI.st.p0 x hcr.2.2.2.2.1).1
        obtain ⟨_,s',g',h',b1,b2,b3,b4⟩:=sim_root hR1 h1 (Or.inl rfl) hL
        refine ⟨s',g',h',b1,b2,?_,by rw [b4]; exact htg⟩
        intro z hz
        rw [b3] at hz
        rcases hz with ⟨x1,x2 | x2⟩
        · exact x1 x2
        · exact htk z x2
      · rw [if_neg c3] at ht ⊢
        by_cases c4:w=1001∧(nodes x).bw=1001
        · rw [if_pos c4] at ht ⊢
          obtain ⟨rfl,c5⟩:=c4
          have h1:=ev_over hI hq hA hin hf (by rw [h0.bw]; exact c5)
          refine ⟨_,_,_,?_,h1,htk,htg⟩
          refine hR1.mod (fun z hz=>⟨rfl,rfl,rfl,rfl,rfl,rfl,rfl,rfl,rfl,rfl,by simp [upd,hz],rfl⟩) ⟨h0.aw,h0.lev,h0.nam,h0.fnd,h0.len,h0.se,h0.wt,h0.inn,h0.innl,h0.best,h0.bestl,h0.tst,h0.tstl,h0.bw,h0.cnt,by simp [upd],h0.bw1⟩ (fun k hk=>?_) hR1.rp
          have:=hR1.q x k hk; rw [upd_at] at this; exact this
        · rw [if_neg c4] at ht ⊢
          exact ⟨_,_,_,hR1,ev_repNo hI hq hin hf,htk,htg⟩
  · rw [if_neg c1] at ht ⊢
    have hin:s.inn x≠some (T.nb x j):=fun e=>by
      rw [h0.inn] at e
      cases e2:(nodes x).inn with
      | none=>rw [e2] at e; cases e
      | some k =>
        rw [e2] at e
        simp at e
        have:=T.inj x _ _ (h0.innl k e2) hj e
        subst this
        exact c1 e2
    obtain ⟨hf,hc⟩:=hI.repKid hq hA hin
    have hcl:=hI.cnt_le x
    have hR2:Rel G T (upd nodes x { nodes x with count:=wrap64 ((nodes x).count - 1) }) (upd2 P (T.nb x j) x (A++B)) { s with cnt:=upd s.cnt x (s.cnt x - 1),q:=upd2 s.q (T.nb x j) x (A++C) }:=by
      refine hR1.mod (fun z hz=>⟨rfl,rfl,rfl,rfl,rfl,rfl,rfl,rfl,rfl,by simp [upd,hz],rfl,rfl⟩) ⟨h0.aw,h0.lev,h0.nam,h0.fnd,h0.len,h0.se,h0.wt,h0.inn,h0.innl,h0.best,h0.bestl,h0.tst,h0.tstl,h0.bw,?_,h0.over,h0.bw1⟩ (fun k hk=>?_) hR1.rp
      · simp only [upd,if_true]
        rw [h0.cnt,wrap_id (by omega) (by omega)]
        omega
      · have:=hR1.q x k hk; rw [upd_at] at this; exact this
    obtain ⟨bw',best',hb,hR3⟩:=sim_hear hR2 hj (w:=w) hw1
    have hI2:=ev_repC hI hq hA hin bw' best' hb
    obtain ⟨s',h',a1,a2,a3,a4⟩:=sim_reports hR3 hI2 hf (htg x)
    exact ⟨s',g,h',a1,a2,by rw [a3]; exact htk,by rw [a4]; exact htg⟩
theorem act_root {G:Gr} {T:Top G} {nodes:Nat→Nod} {P:Nat→Nat→List NMsg} (hG:Good G T nodes P) {x j:Nat} (hj:j < T.dg x) {A B:List NMsg} (hP:P (T.nb x j) x=A++root :: B) :
    (∃ b,(nodes x).best=some b)∧Good G T (upd nodes x (nodes x).changeRoot) (upd2 P (T.nb x j) x (A++B)):=by
  obtain ⟨s,g,h,hR,hI,htk,htg⟩:=hG
  have ha:=T.adj x j hj
  obtain ⟨C,hq,hR1⟩:=hR.out (G.sym _ _ ha) hP
  rw [← upd_self nodes x] at hR1
  have hm:root ∈ kX s.q (T.nb x j) x:=by simp only [kX,hq]; simp [isRoot]
  have hk:=(hI.bs.k2 _ _ hm).2.2.2.1
  have h1:=ev_rootRecv hI hq
  have hL:1≤g.L x:=by
    apply Classical.byContradiction
    intro e
    have h9:=(hI.st.db _ _ (hI.st.pr _ _ hk.1)).1
    have:=hI.st.f5 x _ (by omega) h9
    have h8:=T.adj x j hj
    rw [← this] at h8
    exact G.irr _ h8
  obtain ⟨b0,s',g',h',b1,b2,b3,b4⟩:=sim_root hR1 h1 (Or.inl rfl) hL
  refine ⟨b0,s',g',h',b1,b2,?_,by rw [b4]; exact htg⟩
  intro z hz
  rw [b3] at hz
  rcases hz with ⟨x1,x2 | x2⟩
  · exact x1 x2
  · exact htk z x2
def outs (n:Nod) (fr k j:Nat):List Nat:=(List.range' j k).filter (fun i=>decide (i≠fr∧n.st i=1))
theorem spreads_eq (fr l nm:Nat) (f:Bool):∀ (k j:Nat) (n:Nod),0≤n.count→n.count + k < 2 ^ 60 →
    n.spreads fr l nm f k j={ n with sent:=n.sent++(outs n fr k j).map (fun i=>(i,(initiate l nm f).plain)),count:=if f then n.count + (outs n fr k j).length else n.count }
  | 0,j,n,h1,h2=>by
    simp [Nod.spreads,outs]
  | k + 1,j,n,h1,h2=>by
    rw [Nod.spreads]
    by_cases c:j≠fr∧n.st j=1
    · rw [if_pos c]
      have eo:outs n fr (k + 1) j=j :: outs n fr k (j + 1):=by
        simp only [outs,List.range'_succ,List.filter_cons,decide_eq_true c,if_true]
      cases f
      · have:=spreads_eq fr l nm false k (j + 1) (n.spread j l nm false) h1 (by show n.count + k < _; omega)
        rw [this,eo]
        have e2:outs (n.spread j l nm false) fr k (j + 1)=outs n fr k (j + 1):=rfl
        rw [e2]
        simp [Nod.spread,Nod.send]
      · have ew:wrap64 (n.count + 1)=n.count + 1:=wrap_id (by omega) (by omega)
        have ec:(n.spread j l nm true).count=n.count + 1:=by simp [Nod.spread,ew]
        have:=spreads_eq fr l nm true k (j + 1) (n.spread j l nm true) (by omega) (by omega)
        rw [this,eo,ec]
        have e2:outs (n.spread j l nm true) fr k (j + 1)=outs n fr k (j + 1):=rfl
        rw [e2]
        simp [Nod.spread,Nod.send]
        omega
    · rw [if_neg c]
      have eo:outs n fr (k + 1) j=outs n fr k (j + 1):=by
        simp only [outs,List.range'_succ,List.filter_cons,decide_eq_false c]; rfl
      rw [spreads_eq fr l nm f k (j + 1) n h1 (by omega),eo]
theorem fil_one : ∀ (l : List Nat) (i : Nat), l.Nodup → l.filter (fun c => c == i) = if i ∈ l then [i] else []
  | [],i,_=>by simp
  | a :: t,i,h=>by
    have h1:=List.nodup_cons.1 h
    have h2:=fil_one t i h1.2
    by_cases e:a=i
    · subst e
      simp [h2,h1.1]
    · have e':¬ i=a:=fun x=>e x.symm
      simp [e,e',h2]
theorem outs_nodup (n:Nod) (fr k j:Nat):(outs n fr k j).Nodup:=List.Pairwise.filter _ (List.nodup_range')
theorem outs_mem (n:Nod) (fr k i:Nat):i ∈ outs n fr k 0 ↔ i < k∧i≠fr∧n.st i=1:=by
  simp [outs,List.mem_range']
theorem sentTo_outs (n:Nod) (L:List Nat) (hL:L.Nodup) (m:NMsg) (hm:∀ w,m=report w→1≤w) (c:Int) (i:Nat):sentTo { n with sent:=n.sent++L.map (fun i=>(i,m.plain)),count:=c } i=sentTo n i++(if i ∈ L then [m] else []):=by
  simp only [sentTo,List.filter_append,List.map_append]
  congr 1
  have:(L.map (fun i=>(i,m.plain))).filter (fun c=>c.1 == i)=(L.filter (fun c=>c == i)).map (fun i=>(i,m.plain)):=by
    rw [List.filter_map]; rfl
  rw [this,fil_one L i hL]
  split <;> simp [typed_plain hm]
theorem act_init {G:Gr} {T:Top G} {nodes:Nat→Nod} {P:Nat→Nat→List NMsg} (hsm:G.n < 2 ^ 30) (hdg:∀ u,T.dg u < 2 ^ 30) (hG:Good G T nodes P) {y j l nm:Nat} {f:Bool} (hj:j < T.dg y) {A B:List NMsg} (hP:P (T.nb y j) y=A++initiate l nm f :: B) (hA0:inits A=[]) (hA1:∀ l,connect l ∈ A→(nodes y).st j=0) (hA2:∀ w,report w ∈ A→(nodes y).state=1) :
    Good G T (upd nodes y ((nodes y).initiate j l nm f)) (upd2 P (T.nb y j) y (A++B)):=by
  obtain ⟨s,g,h,hR,hI,htk,htg⟩:=hG
  have ha:=T.adj y j hj
  obtain ⟨C,hq,hR1⟩:=hR.out (G.sym _ _ ha) hP
  rw [← upd_self nodes y] at hR1
  have h0:=hR.nr y
  have hmS:initiate l nm f ∈ kS s.q (T.nb y j) y:=by simp only [kS,hq]; simp [isIni]
  have hpar:=(hI.st.i1 _ _ _ _ _ hmS).1
  have hdb:=hI.st.pr _ _ hpar
  have haw:=(hI.st.sa y (T.nb y j) (by have:=hdb.1; omega)).2
  have hyx:y≠T.nb y j:=fun e=>by rw [← e] at ha; exact G.irr _ ha
  have hf0:s.fnd y=false:=by
    cases e:s.fnd y
    · rfl
    · have:=(hI.rp.s1 y e).2.1
      exact (hI.st.noIni this hmS).elim
  have hc0:=hI.rp.s6 y hf0
  have hA1':∀ l,connect l ∉ A:=fun l' hm=>by
    have h1:=hA1 l' hm
    have h2:=hdb.1
    rw [h0.se j hj] at h2
    omega
  have hA2':∀ w,report w ∉ A:=fun w hm=>by
    have h1:=h0.fnd.2 (hA2 w hm)
    rw [hf0] at h1; cases h1
  have hkl:∃ kl:List Nat,kl.Nodup∧kl.length=(outs (nodes y) j (T.dg y) 0).length∧∀ z,z ∈ kl ↔ (z≠T.nb y j∧s.se y z=1):=by
    refine ⟨(outs (nodes y) j (T.dg y) 0).map (T.nb y),?_,by simp,fun z=>?_⟩
    · refine List.pairwise_map.2 ?_
      refine List.Pairwise.imp_of_mem ?_ (outs_nodup (nodes y) j (T.dg y) 0)
      intro a b h1 h2 h3 h4
      exact h3 (T.inj y a b ((outs_mem _ _ _ _).1 h1).1 ((outs_mem _ _ _ _).1 h2).1 h4)
    · rw [List.mem_map]
      constructor
      · rintro ⟨i,hi,rfl⟩
        have h1:=(outs_mem _ _ _ _).1 hi
        exact ⟨fun e=>h1.2.1 (T.inj y _ _ h1.1 hj e),by rw [h0.se i h1.1]; exact h1.2.2⟩
      · rintro ⟨h1,h2⟩
        obtain ⟨i,hi,rfl⟩:=T.sur y z (hI.st.sa y z (by omega)).1
        refine ⟨i,(outs_mem _ _ _ _).2 ⟨hi,fun e=>h1 (by rw [e]),?_⟩,rfl⟩
        rw [← h0.se i hi]; exact h2
  have hev:=ev_init hI hq hA0 hA1' hA2' (if f then (outs (nodes y) j (T.dg y) 0).length else 0) (by
    cases f
    · exact Or.inl ⟨rfl,rfl⟩
    · exact Or.inr ⟨rfl,hkl⟩)
  have hI2:=hev.2.2
  have hcn:(nodes y).count=0:=by rw [h0.cnt,hc0]; rfl
  have hsp:=spreads_eq j l nm f (T.dg y) 0 { nodes y with level:=l,name:=nm,state:=if f then 1 else 2,inn:=some j,best:=none,bw:=1001 } (by show 0≤(nodes y).count; omega) (by show (nodes y).count + _ < _; have:=hdg y; omega)
  have eo:outs { nodes y with level:=l,name:=nm,state:=if f then 1 else 2,inn:=some j,best:=none,bw:=1001 } j (T.dg y) 0=outs (nodes y) j (T.dg y) 0:=rfl
  rw [eo] at hsp
  have hR2:Rel G T (upd nodes y (({ nodes y with level:=l,name:=nm,state:=if f then 1 else 2,inn:=some j,best:=none,bw:=1001 }:Nod).spreads j l nm f (T.dg y) 0)) (upd2 P (T.nb y j) y (A++B)) { s with lev:=upd s.lev y l,nam:=upd s.nam y nm,inn:=upd s.inn y (some (T.nb y j)),best:=upd s.best y none,bw:=upd s.bw y 1001,fnd:=upd s.fnd y f,cnt:=upd s.cnt y (if f then (outs (nodes y) j (T.dg y) 0).length else 0),q:=initq s.q s.se (T.nb y j) y (A++C) (initiate l nm f) }:=by
    rw [hsp]
    refine hR1.mod (fun z hz=>⟨rfl,by simp [upd,hz],by simp [upd,hz],by simp [upd,hz],rfl,by simp [upd,hz],by simp [upd,hz],by simp [upd,hz],rfl,by simp [upd,hz],rfl,?_⟩) ⟨?_,by simp [upd],by simp [upd],?_,h0.len,h0.se,h0.wt,by simp [upd],?_,by simp [upd],(fun k e=>by cases e),h0.tst,h0.tstl,by simp [upd],?_,h0.over,by simp⟩ (fun k hk=>?_) ?_
    · funext b; simp only [initq,upd2]; simp [hz]
    · simp only [haw]; cases f <;> simp
    · simp only [upd]; cases f <;> simp
    · intro k e; cases e; exact hj
    · simp only [upd,if_true]; rw [hcn]; cases f <;> simp
    · have h1:=hR1.q y k hk
      rw [upd_at] at h1
      have n1:¬ (y=T.nb y j∧T.nb y k=y):=fun e=>hyx e.1
      simp only [upd2,if_neg n1] at h1
      simp only [initq,upd2,if_neg n1]
      have h2:=sentTo_outs { nodes y with level:=l,name:=nm,state:=if f then 1 else 2,inn:=some j,best:=none,bw:=1001 } (outs (nodes y) j (T.dg y) 0) (outs_nodup _ _ _ _) (initiate l nm f) (fun w e=>by cases e) (if f then (nodes y).count + (outs (nodes y) j (T.dg y) 0).length else (nodes y).count) k
      have h3:sentTo { nodes y with level:=l,name:=nm,state:=if f then 1 else 2,inn:=some j,best:=none,bw:=1001 } k=sentTo (nodes y) k:=rfl
      rw [h3] at h2
      rw [h2,← List.append_assoc,← h1]
      by_cases e:k ∈ outs (nodes y) j (T.dg y) 0
      · have e1:=(outs_mem _ _ _ _).1 e
        have e2:T.nb y k≠T.nb y j:=fun x=>e1.2.1 (T.inj y _ _ hk hj x)
        rw [if_pos e,if_pos ⟨trivial,e2,by rw [h0.se k hk]; exact e1.2.2⟩]
      · rw [if_neg e,if_neg]
        · simp
        · rintro ⟨_,e2,e3⟩
          exact e ((outs_mem _ _ _ _).2 ⟨hk,fun x=>e2 (by rw [x]),by rw [← h0.se k hk]; exact e3⟩)
    · intro a b w hw
      simp only [initq] at hw
      split at hw
      · refine hR.rp (T.nb y j) y w ?_
        rw [hq]
        simp at hw ⊢
        exact hw
      · split at hw
        · simp at hw; exact hR.rp _ _ _ hw
        · exact hR.rp _ _ _ hw
  unfold Nod.initiate
  dsimp only
  rw [h0.len]
  cases f
  · refine ⟨_,_,_,hR2,hI2,htk,fun x hx=>?_⟩
    rcases hx with ⟨_,hx⟩ | hx
    · cases hx
    · exact htg x hx
  · obtain ⟨s',h',a1,a2,a3,a4⟩:=sim_tests hR2 hI2 (Or.inl ⟨rfl,rfl⟩)
    refine ⟨s',g,h',a1,a2,by rw [a3]; exact htk,fun x hx=>?_⟩
    rw [a4] at hx
    rcases hx with ⟨x1,⟨x2,_⟩ | x2⟩
    · exact x1 x2
    · exact htg x x2
end Go.Proofs.YtlfijfodklhplaaGreat.Ghs
