import Derived.Test.YtlfijfodklhplaaGreatSf41
set_option linter.unusedVariables false
set_option linter.unusedSimpArgs false
namespace Go.Proofs.YtlfijfodklhplaaGreat.Ghs
open Go.RowKit
open NMsg
theorem kT_two {q:Nat→Nat→List NMsg} {y v:Nat} {A B:List NMsg} {m m':NMsg} (hyv:y≠v) (hq:q y v=A++m :: B) (hp:(isTest m || isAns m)=true) (hp':(isTest m' || isAns m')=true):∃ X,kT (addq (upd2 q y v (A++B)) v y m')=upd2 (upd2 (kT q) y v X) v y (kT q v y++[m'])∧(∀ x,x ∈ X→x ∈ kT q y v)∧m ∈ kT q y v∧(∀ p:NMsg→Bool,(kT q y v).countP p=X.countP p + (if p m=true then 1 else 0)):=by
  obtain ⟨X,h1,h2,h3,h4⟩:=kT_out hq hp
  refine ⟨X,?_,h2,h3,h4⟩
  rw [kT_addT hp',h1]
  congr 1
  simp [upd2,hyv.symm]
theorem ev_testA {G:Gr} {s:St} {g:Gh} {h:Gs} (hI:Inv G s g h) {v y l n:Nat} {A B:List NMsg} (hq:s.q y v=A++test l n :: B) (hv:s.aw v=true) (hl:l≤s.lev v) (hn:n≠s.nam v) :
    Inv G { s with q:=addq (upd2 s.q y v (A++B)) v y accept } g h:=by
  have hadj:=(hI.q0 y v (test l n) (by rw [hq]; simp)).1
  have hyv:y≠v:=by rintro rfl; exact G.irr _ hadj
  obtain ⟨X,hX,hs,hm,hc⟩:=kT_two hyv hq (show (isTest (test l n) || isAns (test l n))=true from rfl) (show (isTest accept || isAns accept)=true from rfl)
  have h4:=hI.ts.t4 y v l n hm
  have x1:s.tst y=some v∧l=s.lev y∧n=s.nam y:=by grind
  obtain ⟨x1,x2,x3⟩:=x1
  have hfy:=tst_fnd hI x1
  obtain ⟨q0,st,rp,ts,bs,pa⟩:=hI
  have z1:=rp.s1 y hfy
  have z2:=st.p0 y z1.1
  have hnf:¬ g.fr y v:=fun e=>by
    have f4:=st.f4 y v e
    have l1:=st.l1 v
    have a1:=st.l2 y
    have a2:=st.l2 v
    grind
  obtain ⟨y1,y2,y3⟩:=ts.t1 y v x1
  have y4:=ts.t7 y v x1
  have c1:=hc isAns
  have c2:=hc isTest
  simp only [show isAns (test l n)=false from rfl,show isTest (test l n)=true from rfl,if_true,if_false,Bool.false_eq_true] at c1 c2
  refine ⟨q0_add (q0_rem q0 hq) (G.sym _ _ y1) hv,?_,?_,?_,?_,by rw [kX_add rfl,kX_rem hq rfl]; exact pa⟩
  · rw [kS_add rfl,kS_rem hq rfl]; exact st
  · rw [kR_add rfl,kR_rem hq rfl]; exact rp
  · rw [hX]
    dsimp only
    have n1:=cnt0 (show X.countP isTest=0 by omega)
    have e1:(kT s.q v y++[accept]).countP isTest=(kT s.q v y).countP isTest:=by rw [List.countP_append]; rfl
    have e2:(kT s.q v y++[accept]).countP isAns=(kT s.q v y).countP isAns + 1:=by rw [List.countP_append]; rfl
    refine ⟨ts.t0,ts.t1,ts.t2,ts.t3,?_,?_,?_,?_⟩
    · intro z x l n hm
      have:=ts.t4 z x l n
      simp only [upd2] at hm
      grind [isTest]
    · intro z x hm
      have:=ts.t5 z x
      simp only [upd2] at hm
      grind
    · intro z x hm
      have:=ts.t6 z x
      simp only [upd2] at hm
      grind
    · intro z x hz
      have h0:=ts.t7 z x hz
      simp only [upd2]
      grind
  · rw [kX_add rfl,kX_rem hq rfl]; exact bs
theorem Str.same {G:Gr} {aw:Nat→Bool} {lev nam:Nat→Nat} {se:Nat→Nat→Nat} {k:Nat→Nat→List NMsg} {g:Gh} (h:Str G aw lev nam se k g) {y v:Nat} (h1:1≤lev y) (h2:1≤lev v) (hn:nam y=nam v):g.fr y v:=by
  obtain ⟨a,b,a1,a2,a3,a4⟩:=h.nm1 y h1
  obtain ⟨c,d,c1,c2,c3,c4⟩:=h.nm1 v h2
  have e:=G.wd a b c d a1 c1 (by rw [← a3,← c3,hn])
  have f:=(h.db a b a2).1
  have f2:=h.f2
  have f3:=h.f3
  grind
theorem ev_testR {G:Gr} {s:St} {g:Gh} {h:Gs} (hI:Inv G s g h) {v y l n:Nat} {A B:List NMsg} (hq:s.q y v=A++test l n :: B) (hv:s.aw v=true) (hl:l≤s.lev v) (hn:n=s.nam v) (ht:s.tst v≠some y) (se':Nat→Nat→Nat) (hse:(s.se v y=0∧se'=upd2 s.se v y 2)∨(s.se v y≠0∧se'=s.se)) :
    Inv G { s with se:=se',q:=addq (upd2 s.q y v (A++B)) v y reject } g h:=by
  have hadj:=(hI.q0 y v (test l n) (by rw [hq]; simp)).1
  have hyv:y≠v:=by rintro rfl; exact G.irr _ hadj
  obtain ⟨X,hX,hs,hm,hc⟩:=kT_two hyv hq (show (isTest (test l n) || isAns (test l n))=true from rfl) (show (isTest reject || isAns reject)=true from rfl)
  have h4:=hI.ts.t4 y v l n hm
  have x1:s.tst y=some v∧l=s.lev y∧n=s.nam y:=by grind
  obtain ⟨x1,x2,x3⟩:=x1
  have hfy:=tst_fnd hI x1
  obtain ⟨q0,st,rp,ts,bs,pa⟩:=hI
  have z1:=rp.s1 y hfy
  have z2:=st.p0 y z1.1
  have hfr:g.fr y v:=st.same (by omega) (by omega) (by rw [← x3,hn])
  obtain ⟨y1,y2,y3⟩:=ts.t1 y v x1
  have y4:=ts.t7 y v x1
  have c1:=hc isAns
  have c2:=hc isTest
  simp only [show isAns (test l n)=false from rfl,show isTest (test l n)=true from rfl,if_true,if_false,Bool.false_eq_true] at c1 c2
  have hz:∀ a b,se' a b=0→s.se a b=0:=by intro a b; rcases hse with ⟨_,rfl⟩ | ⟨_,rfl⟩ <;> (try simp only [upd2]) <;> grind
  have hz2:∀ a b,s.se a b=0→¬ (a=v∧b=y)→se' a b=0:=by intro a b; rcases hse with ⟨_,rfl⟩ | ⟨_,rfl⟩ <;> (try simp only [upd2]) <;> grind
  have hz3:se' v y≠0:=by rcases hse with ⟨_,rfl⟩ | ⟨_,rfl⟩ <;> (try simp only [upd2]) <;> grind
  refine ⟨q0_add (q0_rem q0 hq) (G.sym _ _ y1) hv,?_,?_,?_,?_,by rw [kX_add rfl,kX_rem hq rfl]; exact pa⟩
  · rw [kS_add rfl,kS_rem hq rfl]
    rcases hse with ⟨e,rfl⟩ | ⟨_,rfl⟩
    · exact st.rej (st.f2 _ _ hfr) (G.sym _ _ y1) hv e
    · exact st
  · rw [kR_add rfl,kR_rem hq rfl]; exact rp
  · rw [hX]
    dsimp only
    have n1:=cnt0 (show X.countP isTest=0 by omega)
    have e1:(kT s.q v y++[reject]).countP isTest=(kT s.q v y).countP isTest:=by rw [List.countP_append]; rfl
    have e2:(kT s.q v y++[reject]).countP isAns=(kT s.q v y).countP isAns + 1:=by rw [List.countP_append]; rfl
    refine ⟨ts.t0,?_,?_,ts.t3,?_,?_,?_,?_⟩
    · intro z x hzx
      have:=ts.t1 z x hzx
      have h11:∀ a b,s.se a b=1→se' a b=1:=by intro a b; rcases hse with ⟨_,rfl⟩ | ⟨_,rfl⟩ <;> (try simp only [upd2]) <;> grind
      grind
    · intro z x a1 a2 a3 a4 a5
      exact ts.t2 z x a1 a2 a3 a4 (hz _ _ a5)
    · intro z x l n hm
      have:=ts.t4 z x l n
      have hzz:=hz z x
      simp only [upd2] at hm
      clear hse hz2 hz
      grind [isTest]
    · intro z x hm
      have:=ts.t5 z x
      simp only [upd2] at hm
      grind
    · intro z x hm
      have:=ts.t6 z x
      simp only [upd2] at hm
      grind
    · intro z x hz
      have h0:=ts.t7 z x hz
      simp only [upd2]
      grind
  · rw [kX_add rfl,kX_rem hq rfl]
    refine ⟨?_,bs.k1,bs.k2,bs.ov⟩
    intro z h1 h2 h3 h4
    obtain ⟨v',d1,d2,d3⟩:=bs.bb z h1 h2 h3 h4
    refine ⟨v',d1,d2,?_⟩
    have f2:=st.f2
    grind
theorem ev_testX {G:Gr} {s:St} {g:Gh} {h:Gs} (hI:Inv G s g h) {v y l n:Nat} {A B:List NMsg} (hq:s.q y v=A++test l n :: B) (hl:l≤s.lev v) (hn:n=s.nam v) (ht:s.tst v=some y) (se':Nat→Nat→Nat) (hse:(s.se v y=0∧se'=upd2 s.se v y 2)∨(s.se v y≠0∧se'=s.se)) :
    Inv G { s with se:=se',tst:=upd s.tst v none,q:=upd2 s.q y v (A++B) } g { h with tg:=fun x=>x=v∨h.tg x }:=by
  have hadj:=(hI.q0 y v (test l n) (by rw [hq]; simp)).1
  have hyv:y≠v:=by rintro rfl; exact G.irr _ hadj
  obtain ⟨X,hX,hs,hm,hc⟩:=kT_out hq (show (isTest (test l n) || isAns (test l n))=true from rfl)
  have h4:=hI.ts.t4 y v l n hm
  have hfv:=tst_fnd hI ht
  have hav:=fnd_aw hI hfv
  have hfy:s.tst y=some v→s.fnd y=true:=tst_fnd hI
  obtain ⟨q0,st,rp,ts,bs,pa⟩:=hI
  have zv:=rp.s1 v hfv
  have zv2:=st.p0 v zv.1
  have hfr:g.fr y v:=by
    rcases h4 with ⟨x1,x2,x3⟩ | ⟨x1,x2,x3,_⟩
    · have z1:=rp.s1 y (hfy x1)
      have z2:=st.p0 y z1.1
      exact st.same (by omega) (by omega) (by rw [← x3,hn])
    · exact x3
  obtain ⟨y1,y2,y3⟩:=ts.t1 v y ht
  have y4:=ts.t7 v y ht
  have c1:=hc isAns
  have c2:=hc isTest
  simp only [show isAns (test l n)=false from rfl,show isTest (test l n)=true from rfl,if_true,if_false,Bool.false_eq_true] at c1 c2
  have f4:=st.f4 y v hfr
  have f2:=st.f2
  have e0:∀ a b,se' a b=0→s.se a b=0:=fun a b=>by rcases hse with ⟨_,rfl⟩ | ⟨_,rfl⟩ <;> (try simp only [upd2]) <;> grind
  have e1:∀ a b,¬ (a=v∧b=y)→se' a b=s.se a b:=fun a b=>by rcases hse with ⟨_,rfl⟩ | ⟨_,rfl⟩ <;> (try simp only [upd2]) <;> grind
  have e2:∀ a b,s.se a b=1→se' a b=1:=fun a b=>by rcases hse with ⟨_,rfl⟩ | ⟨_,rfl⟩ <;> (try simp only [upd2]) <;> grind
  have e3:se' v y≠0:=by rcases hse with ⟨_,rfl⟩ | ⟨_,rfl⟩ <;> (try simp only [upd2]) <;> grind
  refine ⟨q0_rem q0 hq,?_,?_,?_,?_,by rw [kX_rem hq rfl]; exact pa⟩
  · rw [kS_rem hq rfl]
    rcases hse with ⟨e,rfl⟩ | ⟨_,rfl⟩
    · exact st.rej (st.f2 _ _ hfr) y1 hav e
    · exact st
  · rw [kR_rem hq rfl]; exact rp
  · rw [hX]
    dsimp only
    have hown:s.tst y=some v→(kT s.q v y).countP isTest=1∧(kT s.q y v).countP isTest=1:=fun e=>by
      have w1:=ts.t7 y v e
      have hr:(kT s.q y v).countP isAns=0:=List.countP_eq_zero.2 fun m hm=>by
        have a1:=ts.t5 v y
        have a2:=ts.t6 v y
        have a3:s.se y v=0:=by
          rcases (ts.t1 y v e).2.1 with h | h
          · exact h
          · exact (h.2.2 ht).elim
        cases m <;> simp [isAns] <;> grind
      rw [if_pos e] at y4
      rw [if_pos ht] at w1
      omega
    have k0:(kT s.q y v).countP isTest=1∧(kT s.q y v).countP isAns=0∧(s.tst y≠some v→(kT s.q v y).countP isTest=0):=by
      by_cases e:s.tst y=some v
      · have:=hown e
        rw [if_pos e] at y4
        exact ⟨by omega,by omega,fun h=>(h e).elim⟩
      · rw [if_neg e] at y4
        exact ⟨by omega,by omega,fun _=>by omega⟩
    have n1:=cnt0 (show X.countP isTest=0 by omega)
    have n2:=cnt0 (show X.countP isAns=0 by omega)
    have n3:s.tst y≠some v→∀ m,m ∈ kT s.q v y→isTest m=false:=fun e=>cnt0 (k0.2.2 e)
    have hown2:s.tst y=some v→s.nam v=s.nam y∧s.lev v≤s.lev y:=fun e=>by
      have z1:=rp.s1 y (hfy e)
      rcases h4 with ⟨x1,x2,x3⟩ | ⟨x1,x2,_⟩
      · exact ⟨by rw [← hn,x3],by omega⟩
      · exact (x2 e).elim
    refine ⟨?_,?_,?_,?_,?_,?_,?_,?_⟩
    · intro z hz; simp only [upd]; have:=ts.t0 z hz; grind
    · intro z x hz
      simp only [upd] at hz ⊢
      have:=ts.t1 z x
      grind
    · intro z x hz ht' htg ha hse
      simp only [upd] at ht'
      have:=ts.t2 z x
      have:=e0 z x
      grind
    · intro z hz; simp only [upd]; have:=ts.t3 z; grind
    · intro z x l' n' hm'
      have b1:=ts.t4 z x l' n'
      simp only [upd2] at hm'
      simp only [upd]
      have e9:=e0 z x
      by_cases e1':z=y∧x=v
      · rw [if_pos e1'] at hm'
        have:=n1 _ hm'
        simp [isTest] at this
      · rw [if_neg e1'] at hm'
        have b2:=b1 hm'
        by_cases e2:z=v
        · subst e2
          have b3:s.tst z≠some y→False:=fun e=>e ht
          rcases b2 with ⟨w1,w2,w3⟩ | ⟨w1,w2,w3⟩
          · have:x=y:=by grind
            subst this
            by_cases e3':s.tst x=some z
            · right
              have:=hown2 e3'
              simp [hyv]
              exact ⟨e3',f2 _ _ hfr,by rw [w3]; exact this.1,by omega,e3⟩
            · have:=n3 e3' _ hm'
              simp [isTest] at this
          · grind
        · grind
    · intro z x hm
      have:=ts.t5 z x
      simp only [upd2] at hm
      simp only [upd]
      grind
    · intro z x hm
      have:=ts.t6 z x
      have e9:=e0 x z
      simp only [upd2] at hm
      simp only [upd]
      grind [isAns]
    · intro z x hz
      have hzv:z≠v:=by rintro rfl; simp [upd] at hz
      rw [upd_ne _ _ hzv] at hz
      have h0:=ts.t7 z x hz
      simp only [upd2,upd]
      by_cases e1:z=y∧x=v
      · obtain ⟨rfl,rfl⟩:=e1
        have:=hown hz
        have e5:(kT s.q x z).countP isAns=0:=by rw [if_pos ht] at h0; omega
        simp [hyv,hyv.symm]
        omega
      · grind
  · rw [kX_rem hq rfl]
    refine ⟨?_,bs.k1,bs.k2,bs.ov⟩
    intro z h1 h2 h3 h4
    obtain ⟨v',d1,d2,d3⟩:=bs.bb z h1 h2 h3 h4
    refine ⟨v',d1,d2,?_⟩
    have:=e1 z v'
    grind
theorem kR_upd (q:Nat→Nat→List NMsg) (a b:Nat) (l:List NMsg):kR (upd2 q a b l)=upd2 (kR q) a b (l.filter (fun m=>isRep m || isIni m)):=by
  funext u v; simp only [kR,upd2]; split <;> rfl
theorem kR_addT {q:Nat→Nat→List NMsg} {a b:Nat} {m:NMsg} (hp:(isRep m || isIni m)=true):kR (addq q a b m)=upd2 (kR q) a b (kR q a b++[m]):=by
  unfold addq; rw [kR_upd]; congr 1; simp [kR,hp]
theorem ini_RS {q:Nat→Nat→List NMsg} {u v l n:Nat} {f:Bool}:initiate l n f ∈ kR q u v ↔ initiate l n f ∈ kS q u v:=by
  simp [kR,kS,isRep,isIni,isCon]
theorem mem_inits {l n:Nat} {f:Bool} (L:List NMsg):(l,n,f) ∈ inits L ↔ initiate l n f ∈ L:=by
  induction L with
  | nil=>simp [inits]
  | cons m t ih=>cases m <;> simp [inits,ih]
theorem inits_app (A B:List NMsg):inits (A++B)=inits A++inits B:=by
  induction A with
  | nil=>rfl
  | cons m t ih=>cases m <;> simp [inits,ih]
theorem inits_fil (p:NMsg→Bool) (hp:∀ l n f,p (initiate l n f)=true) (L:List NMsg):inits (L.filter p)=inits L:=by
  induction L with
  | nil=>rfl
  | cons m t ih =>
    rw [List.filter_cons]
    split
    · cases m <;> simp [inits,ih]
    · rename_i e
      cases m <;> simp [inits,ih]
      exact (e (hp _ _ _)).elim
theorem inits_RS (q:Nat→Nat→List NMsg) (u v:Nat):inits (kR q u v)=inits (kS q u v):=by
  unfold kR kS
  rw [inits_fil,inits_fil]
  · intros; rfl
  · intros; rfl
theorem Str.up {G:Gr} {aw:Nat→Bool} {lev nam:Nat→Nat} {se:Nat→Nat→Nat} {k:Nat→Nat→List NMsg} {g:Gh} (h:Str G aw lev nam se k g) {x y:Nat} (hk:kid g x y) (hy:lev y=g.L y):inits (k x y)=[]∧lev x=g.L x:=by
  obtain ⟨_,hc⟩:=h.ch x y hk
  have e:inits (k x y)=[]:=by
    match hi:inits (k x y) with
    | []=>rfl
    | (l,n,f) :: t =>
      rw [hi] at hc
      have hm:initiate l n f ∈ k x y:=(mem_inits _).1 (by rw [hi]; simp)
      have:=h.i1 x y l n f hm
      have:=hc.1
      simp only at this
      omega
  rw [e] at hc
  have h1:(lev y,nam y)=(lev x,nam x):=hc
  have h2:=Prod.mk.inj h1
  have f:=(h.db y x (h.pr y x hk.1)).1
  have f4:=h.f4 y x f
  exact ⟨e,by omega⟩
theorem Str.noIni {G:Gr} {aw:Nat→Bool} {lev nam:Nat→Nat} {se:Nat→Nat→Nat} {k:Nat→Nat→List NMsg} {g:Gh} (h:Str G aw lev nam se k g) {x y:Nat} (hy:lev y=g.L y) {l n:Nat} {f:Bool}:initiate l n f ∉ k x y:=by
  intro hm
  have hp:=(h.i1 x y l n f hm).1
  by_cases e:g.par x=some y
  · have hc:=(h.co x y ⟨e,hp⟩).2.2
    have:inits (k x y)=[]:=by grind
    have h2:=(mem_inits _).2 hm
    rw [this] at h2
    cases h2
  · have:=(h.up ⟨hp,e⟩ hy).1
    have h2:=(mem_inits _).2 hm
    rw [this] at h2
    cases h2
theorem ev_reports {G:Gr} {s:St} {g:Gh} {h:Gs} (hI:Inv G s g h) {y x:Nat} (hf:s.fnd y=true) (ht:s.tst y=none) (htg:¬ h.tg y) (hc:s.cnt y=0) (hx:s.inn y=some x) :
    Inv G { s with fnd:=upd s.fnd y false,q:=addq s.q y x (report (s.bw y)) } g { h with Z:=fun z=>z=y∨h.Z z,be:=upd h.be y (s.bw y) }:=by
  have haw:=fnd_aw hI hf
  obtain ⟨q0,st,rp,ts,bs,pa⟩:=hI
  have z1:=rp.s1 y hf
  have z2:=st.p0 y z1.1
  have hpar:g.par y=some x:=by rw [← rp.si y z1.1 z1.2.1]; exact hx
  have hd:=st.pr y x hpar
  have hadj:=(st.sa y x (by unfold dbl at hd; omega)).1
  have hxy:x≠y:=by rintro rfl; exact G.irr _ hadj
  have hno:∀ w,report w ∉ kR s.q y x:=fun w hm=>by
    rcases rp.r1 x y w hm with ⟨_,_,_,a,_⟩ | ⟨a,_⟩
    · rw [hf] at a; cases a
    · exact a.2 hpar
  obtain ⟨cl,c1,c2,c3⟩:=rp.ct y hf
  rw [hc] at c2
  have hnil:cl=[]:=List.eq_nil_of_length_eq_zero c2
  have hkids:∀ z,kid g y z→h.Z z∧∀ w,report w ∉ kR s.q z y:=fun z hk=>by
    have:=c3 z
    rw [hnil] at this
    simp at this
    grind
  have hni:∀ u l n f,initiate l n f ∉ kR s.q u y:=fun u l n f hm=>st.noIni z1.2.1 (ini_RS.1 hm)
  have hup:∀ z,kid g z y→s.lev z=g.L z:=fun z hk=>(st.up hk z1.2.1).2
  have hph:∀ z,kid g z y→g.ph z=0:=fun z hk=>by
    have f:=(st.db y z (st.pr y z hk.1)).1
    have:=st.f4 y z f
    omega
  refine ⟨q0_add q0 hadj haw,?_,?_,?_,?_,by rw [kX_add rfl]; exact pa⟩
  · rw [kS_add rfl]; exact st
  · rw [kR_addT rfl]
    dsimp only
    refine ⟨?_,?_,?_,?_,?_,?_,?_,?_,rp.si,?_,?_,?_,?_,?_,rp.bm,?_⟩
    · intro u hu; simp only [upd] at hu; have:=rp.s1 u; grind
    · intro u a1 a2 a3; simp only [upd] at a3; have:=rp.s2 u; grind
    · intro a b h1 h2 h3
      simp only [upd]
      have e1:=rp.s3 a b h1 h2
      have e2:=hkids b
      have e3:=rp.hd y b hf
      have:a≠b:=by rintro rfl; exact h2.2 h2.1
      grind
    · intro a b h1 h2 h3 h4
      simp only [upd] at h4
      have e1:=rp.s14 a b h1 h2
      have e2:=rp.s2 a h1
      have e3:=hup a
      grind
    · intro a b l n hm h1 h2
      simp only [upd2] at hm
      have e1:=rp.s4 a b l n
      grind
    · intro a b l n hm
      simp only [upd2] at hm
      simp only [upd]
      have e1:=rp.s5 a b l n
      have e2:=hkids b
      have e3:=hni a l n true
      grind
    · intro u hu; simp only [upd] at hu; have:=rp.s6 u; grind
    · intro u v h1 h2 h3 h4
      simp only [upd]
      have e1:=rp.s9 u v h1
      split
      · rename_i e
        subst e
        refine ts.t2 u v hf ht htg h3 ?_
        have a1:=st.se2 u v
        have a2:=st.se3 u v
        have a3:=st.db u v
        have a4:=st.hf u v
        unfold dbl at a3
        unfold half at a4
        grind
      · grind
    · intro u v h1 h2 h3
      simp only [upd] at h3 ⊢
      have e1:=rp.s13 u v h1 h2
      grind
    · intro a b w hm
      by_cases e:b=y∧a=x
      · obtain ⟨rfl,rfl⟩:=e
        simp only [upd2] at hm ⊢
        simp only [and_self,if_true,List.mem_append,List.mem_singleton] at hm ⊢
        have hw:w=s.bw b:=by
          rcases hm with hm | hm
          · exact (hno w hm).elim
          · cases hm; rfl
        left
        refine ⟨z1.1,hpar,z1.2.1,by simp [upd],hw,by simp [upd],fun hk=>?_,?_⟩
        · simp only [upd,if_neg hxy]
          have e1:=rp.s14 a b (hph a hk) hk
          have e2:=rp.s2 a (hph a hk) (hup a hk)
          have e3:=rp.s3 a b (hph a hk) hk
          grind
        intro A B hAB
        rcases List.append_eq_append_iff.1 hAB with ⟨c,d1,d2⟩ | ⟨c,d1,d2⟩
        · cases c with
          | nil=>simp at d2; rw [d2.2]; rfl
          | cons m t=>simp at d2
        · cases c with
          | nil=>simp at d2; rw [d2.2]; rfl
          | cons m t =>
            simp at d2
            exfalso
            refine hno w ?_
            rw [d1]; simp [← d2.1]
      · simp only [upd2] at hm ⊢
        rw [if_neg e] at hm
        rw [if_neg e]
        rcases rp.r1 a b w hm with ⟨a1,a2,a3,a4,a5,a6,a7,a8⟩ | ⟨a1,a2,a3,a4,a5,a6,a7⟩
        · left
          have:b≠y:=by rintro rfl; rw [hf] at a4; cases a4
          simp only [upd,if_neg this]
          refine ⟨a1,a2,a3,a4,a5,a6,fun hk=>?_,a8⟩
          have e1:=a7 hk
          split
          · rename_i e2
            subst e2
            exact ((hkids b hk).2 w hm).elim
          · exact e1
        · right
          have:a≠y:=by rintro rfl; rw [hf] at a3; cases a3
          simp only [upd,if_neg this]
          exact ⟨a1,a2,a3,a4,a5,a6,a7⟩
    · intro a b
      simp only [upd2]
      split
      · rename_i e
        rw [List.countP_append]
        have:(kR s.q y x).countP isRep=0:=List.countP_eq_zero.2 fun m hm=>by cases m <;> simp [isRep]; exact hno _ hm
        rw [this]; simp [isRep]
      · exact rp.r2 a b
    · intro a b h1 h2 h3 h4
      simp only [upd] at h1 ⊢
      simp only [upd2] at h4
      have e1:=rp.hd a b
      have:a≠b:=by rintro rfl; exact h2.2 h2.1
      by_cases e:b=y
      · subst e
        have:a=x:=by have:=h2.1; rw [hpar] at this; cases this; rfl
        subst this
        have:=h4 (s.bw b)
        simp at this
      · grind
    · intro a ha
      simp only [upd] at ha
      have hay:a≠y:=by rintro rfl; simp at ha
      rw [if_neg hay] at ha
      obtain ⟨l,l1,l2,l3⟩:=rp.ct a ha
      refine ⟨l,l1,l2,fun z=>?_⟩
      rw [l3 z]
      simp only [upd2]
      by_cases e:z=y
      · subst e
        by_cases e2:a=x
        · subst e2
          constructor
          · rintro ⟨b1,b2⟩
            exact ⟨b1,Or.inr ⟨s.bw z,by simp⟩⟩
          · rintro ⟨b1,b2⟩
            exact ⟨b1,Or.inl z1.2.2⟩
        · constructor
          · rintro ⟨b1,b2⟩
            have:=b1.1; rw [hpar] at this; cases this; exact (e2 rfl).elim
          · rintro ⟨b1,b2⟩
            have:=b1.1; rw [hpar] at this; cases this; exact (e2 rfl).elim
      · grind
    · intro u v a1 a2
      have:=rp.s15 u v a1 a2
      grind
  · rw [kT_add rfl]
    dsimp only
    refine ⟨?_,ts.t1,?_,ts.t3,ts.t4,ts.t5,ts.t6,ts.t7⟩
    · intro z hz; simp only [upd] at hz; have:=ts.t0 z; grind
    · intro z v a1; simp only [upd] at a1; have:=ts.t2 z v; grind
  · rw [kX_add rfl]
    refine ⟨?_,bs.k1,bs.k2,bs.ov⟩
    intro z h1 h2 h3 h4
    obtain ⟨v',d1,d2,d3⟩:=bs.bb z h1 h2 h3 h4
    refine ⟨v',d1,d2,?_⟩
    simp only [upd]
    grind
theorem kR_out {q:Nat→Nat→List NMsg} {a b w:Nat} {A B:List NMsg} (hq:q a b=A++report w :: B):∃ X,kR (upd2 q a b (A++B))=upd2 (kR q) a b X∧inits X=inits (kR q a b)∧(∀ l n f,initiate l n f ∈ X ↔ initiate l n f ∈ kR q a b)∧(∀ x,x ∈ X→x ∈ kR q a b)∧report w ∈ kR q a b∧(kR q a b).countP isRep=X.countP isRep + 1∧∃ A' B',kR q a b=A'++report w :: B'∧inits A'=inits A:=by
  refine ⟨(A++B).filter (fun m=>isRep m || isIni m),kR_upd q a b _,?_,?_,?_,?_,?_,A.filter (fun m=>isRep m || isIni m),B.filter (fun m=>isRep m || isIni m),?_,?_⟩
  · simp only [kR,hq]
    rw [inits_fil,inits_fil,inits_app,inits_app]
    · rfl
    · intros; rfl
    · intros; rfl
  · intro l n f; simp only [kR,hq]; simp [isRep,isIni]
  · intro x hx; simp only [kR,hq]; simp at hx ⊢; grind
  · simp only [kR,hq]; simp [isRep]
  · simp only [kR,hq,List.filter_append,List.countP_append,List.filter_cons,List.countP_cons,isRep,Bool.true_or,if_true]
    omega
  · simp only [kR,hq]; simp [isRep]
  · exact inits_fil _ (by intros; rfl) A
theorem no_rep {X:List NMsg} (h:X.countP isRep=0):∀ w,report w ∉ X:=fun w hm=>by
  have:=cnt0 h _ hm
  simp [isRep] at this
theorem Inv.live {G:Gr} {s:St} {g:Gh} {h:Gs} (hI:Inv G s g h) {x y w:Nat} {A B:List NMsg} (hq:s.q y x=A++report w :: B) (hA:inits A=[]) (hp:g.ph y=0) (hpar:g.par y=some x) (hl:s.lev y=g.L y) (ho:∀ A B,kR s.q y x=A++report w :: B→inits B=[]):s.lev x=g.L x∧g.ph x=0∧g.fr y x∧inits (kR s.q y x)=[]:=by
  obtain ⟨X,h1,h2,h3,h4,h5,h6,A',B',h7,h8⟩:=kR_out hq
  obtain ⟨q0,st,rp,ts,bs,pa⟩:=hI
  have hi:inits (kR s.q y x)=[]:=by
    rw [h7,inits_app,h8,hA]
    have:=ho A' B' h7
    simpa [inits] using this
  have f:=(st.db y x (st.pr y x hpar)).1
  have f4:=st.f4 y x f
  refine ⟨?_,by omega,f,hi⟩
  by_cases e:g.par x=some y
  · have hc:=st.co y x ⟨hpar,e⟩
    have e2:inits (kS s.q y x)=[]:=by rw [← inits_RS]; exact hi
    have c1:=st.cn x y (s.lev x)
    have c2:=st.pr x y e
    unfold dbl at c2
    grind
  · exact (st.up ⟨hpar,e⟩ hl).2
theorem ev_repC {G : Gr} {s : St} {g : Gh} {h : Gs} (hI : Inv G s g h) {x y w : Nat} {A B : List NMsg} (hq : s.q y x = A ++ report w :: B) (hA : inits A = []) (hx : s.inn x ≠ some y) (bw' : Nat) (best' : Option Nat)
    (hb:(w < s.bw x∧bw'=w∧best'=some y)∨(¬ w < s.bw x∧bw'=s.bw x∧best'=s.best x)) :
    Inv G { s with cnt:=upd s.cnt x (s.cnt x - 1),bw:=upd s.bw x bw',best:=upd s.best x best',q:=upd2 s.q y x (A++B) } g h:=by
  obtain ⟨X,h1,h2,h3,h4,h5,h6,A',B',h7,h8⟩:=kR_out hq
  have hr:=hI.rp.r1 x y w h5
  have hlive:g.ph y=0∧g.par y=some x∧s.lev y=g.L y∧s.fnd y=false∧w=s.bw y∧h.be y=s.bw y∧(kid g x y→s.fnd x=true)∧∀ A B,kR s.q y x=A++report w :: B→inits B=[]:=by
    rcases hr with a | a
    · exact a
    · exact (hx a.2.1).elim
  obtain ⟨a1,a2,a3,a4,a5,a6,a7,a8⟩:=hlive
  obtain ⟨b1,b2,b3,b4⟩:=hI.live hq hA a1 a2 a3 a8
  have hrp:=root_ph hI
  obtain ⟨q0,st,rp,ts,bs,pa⟩:=hI
  have hk:kid g x y:=⟨a2,fun e=>hx (by rw [rp.si x b2 b1]; exact e)⟩
  have hfx:=a7 hk
  have hZy:=rp.s2 y a1 a3 a4
  have hxy:x≠y:=by rintro rfl; exact hk.2 hk.1
  have hle:bw'≤s.bw x∧bw'≤w:=by omega
  have hadj:=(q0 y x (report w) (by rw [hq]; simp)).1
  have hX0:X.countP isRep=0:=by have:=rp.r2 x y; omega
  have nr:=no_rep hX0
  refine ⟨q0_rem q0 hq,?_,?_,?_,?_,by rw [kX_rem hq rfl]; exact pa.upd_ b2 hrp _ _⟩
  · rw [kS_rem hq rfl]; exact st
  · rw [h1]
    dsimp only
    refine ⟨rp.s1,rp.s2,rp.s3,rp.s14,?_,?_,?_,rp.s9,rp.si,?_,?_,?_,?_,?_,?_,rp.s15⟩
    · intro a b l n hm; simp only [upd2] at hm; have:=rp.s4 a b l n; grind
    · intro a b l n hm; simp only [upd2] at hm; have:=rp.s5 a b l n; grind
    · intro u hu; simp only [upd]; have:=rp.s6 u hu; grind
    · intro u v c1 c2 c3; simp only [upd]; have:=rp.s13 u v c1 c2 c3; grind
    · intro a b w' hm
      simp only [upd2] at hm ⊢
      by_cases e:b=y∧a=x
      · rw [if_pos e] at hm; exact (nr _ hm).elim
      · rw [if_neg e] at hm
        rw [if_neg e]
        rcases rp.r1 a b w' hm with ⟨d1,d2,d3,d4,d5,d6,d7,d8⟩ | ⟨d1,d2,d3,d4,d5,d6,d7⟩
        · left
          have:b≠x:=by rintro rfl; rw [hfx] at d4; cases d4
          simp only [upd,if_neg this]
          exact ⟨d1,d2,d3,d4,d5,d6,d7,d8⟩
        · right
          have:a≠x:=by rintro rfl; rw [hfx] at d3; cases d3
          simp only [upd,if_neg this]
          refine ⟨d1,d2,d3,d4,d5,fun e3=>?_,d7⟩
          have f:=(st.db a b (st.pr a b d1.1)).1
          have f4:=st.f4 a b f
          have:=d6 e3
          have:b≠x:=by rintro rfl; omega
          simp only [if_neg this]
          exact d6 e3
    · intro a b; simp only [upd2]; split
      · omega
      · exact rp.r2 a b
    · intro a b c1 c2 c3 c4
      simp only [upd2] at c4
      simp only [upd]
      have e1:=rp.hd a b c1 c2 c3
      by_cases e:b=y∧a=x
      · obtain ⟨rfl,rfl⟩:=e
        simp only [if_true]; omega
      · rw [if_neg e] at c4
        have:=e1 c4
        split
        · rename_i e2; subst e2; omega
        · exact this
    · intro a ha
      obtain ⟨l,l1,l2,l3⟩:=rp.ct a ha
      by_cases e:a=x
      · subst e
        have hy:y ∈ l:=(l3 y).2 ⟨hk,Or.inr ⟨w,h5⟩⟩
        refine ⟨l.erase y,l1.erase y,?_,fun z=>?_⟩
        · rw [List.length_erase_of_mem hy,l2]; simp [upd]
        · rw [l1.mem_erase_iff,l3 z]
          simp only [upd2]
          by_cases e2:z=y
          · subst e2
            simp only [and_self,if_true]
            constructor
            · rintro ⟨e3,_⟩; exact (e3 rfl).elim
            · rintro ⟨_,e3 | ⟨w',e3⟩⟩
              · exact (e3 hZy).elim
              · exact (nr _ e3).elim
          · simp only [e2,false_and,if_false]
            grind
      · refine ⟨l,l1,by simp only [upd,if_neg e]; exact l2,fun z=>?_⟩
        rw [l3 z]
        simp only [upd2]
        grind
    · intro z; simp only [upd]; have:=rp.bm z; have:=rp.bm x; grind
  · rw [kT_rem hq rfl]
    dsimp only
    refine ⟨ts.t0,ts.t1,?_,ts.t3,ts.t4,ts.t5,ts.t6,ts.t7⟩
    intro z v c1 c2 c3 c4 c5
    have:=ts.t2 z v c1 c2 c3 c4 c5
    simp only [upd]; grind
  · rw [kX_rem hq rfl]
    dsimp only
    refine ⟨?_,?_,?_,bs.ov⟩
    · intro z c1 c2 c3 c4
      by_cases e:z=x
      · subst e
        simp only [upd,if_true] at c4 ⊢
        rcases hb with ⟨m1,m2,m3⟩ | ⟨m1,m2,m3⟩
        · refine ⟨y,m3,G.sym _ _ hadj,Or.inr (Or.inr ⟨hk,a3,a4,?_⟩)⟩
          rw [if_neg hxy.symm]; omega
        · rw [m2] at c4
          obtain ⟨v',d1,d2,d3⟩:=bs.bb z c1 c2 c3 c4
          refine ⟨v',by rw [m3]; exact d1,d2,?_⟩
          have:v'≠z:=by rintro rfl; exact G.irr _ d2
          rw [if_neg this,m2]; exact d3
      · simp only [upd,if_neg e] at c4 ⊢
        obtain ⟨v',d1,d2,d3⟩:=bs.bb z c1 c2 c3 c4
        refine ⟨v',d1,d2,?_⟩
        rcases d3 with d3 | d3 | d3
        · exact Or.inl d3
        · exact Or.inr (Or.inl d3)
        · right; right
          have:v'≠x:=by rintro rfl; rw [hfx] at d3; cases d3.2.2.1
          rw [if_neg this]; exact d3
    · intro u hu
      have:=bs.k1 u hu
      have hn:u≠x:=by rintro rfl; omega
      simp only [upd,if_neg hn]
      exact this
    · intro z c hr
      have h0:=bs.k2 z c hr
      have f:=(st.db c z (st.pr c z h0.2.2.2.1.1)).1
      have f4:=st.f4 c z f
      have hn:c≠x:=by rintro rfl; omega
      have hz:z≠x:=by rintro rfl; omega
      simp only [upd,if_neg hn,if_neg hz]
      exact h0
theorem ev_repNo {G:Gr} {s:St} {g:Gh} {h:Gs} (hI:Inv G s g h) {x y w:Nat} {A B:List NMsg} (hq:s.q y x=A++report w :: B) (hx:s.inn x=some y) (hf:s.fnd x=false) :
    Inv G { s with q:=upd2 s.q y x (A++B) } g h:=by
  obtain ⟨X,h1,h2,h3,h4,h5,h6,A',B',h7,h8⟩:=kR_out hq
  obtain ⟨q0,st,rp,ts,bs,pa⟩:=hI
  have hX0:X.countP isRep=0:=by have:=rp.r2 x y; omega
  have nr:=no_rep hX0
  refine ⟨q0_rem q0 hq,?_,?_,?_,?_,by rw [kX_rem hq rfl]; exact pa⟩
  · rw [kS_rem hq rfl]; exact st
  · rw [h1]
    dsimp only
    refine ⟨rp.s1,rp.s2,rp.s3,rp.s14,?_,?_,rp.s6,rp.s9,rp.si,rp.s13,?_,?_,?_,?_,rp.bm,rp.s15⟩
    · intro a b l n hm; simp only [upd2] at hm; have:=rp.s4 a b l n; grind
    · intro a b l n hm; simp only [upd2] at hm; have:=rp.s5 a b l n; grind
    · intro a b w' hm
      simp only [upd2] at hm ⊢
      by_cases e:b=y∧a=x
      · rw [if_pos e] at hm; exact (nr _ hm).elim
      · rw [if_neg e] at hm
        rw [if_neg e]
        exact rp.r1 a b w' hm
    · intro a b; simp only [upd2]; split
      · omega
      · exact rp.r2 a b
    · intro a b c1 c2 c3 c4
      simp only [upd2] at c4
      have:¬ (b=y∧a=x):=by rintro ⟨rfl,rfl⟩; rw [hf] at c1; cases c1
      rw [if_neg this] at c4
      exact rp.hd a b c1 c2 c3 c4
    · intro a ha
      obtain ⟨l,l1,l2,l3⟩:=rp.ct a ha
      refine ⟨l,l1,l2,fun z=>?_⟩
      rw [l3 z]
      have:¬ (z=y∧a=x):=by rintro ⟨rfl,rfl⟩; rw [hf] at ha; cases ha
      simp only [upd2,if_neg this]
  · rw [kT_rem hq rfl]; exact ts
  · rw [kX_rem hq rfl]; exact bs
theorem all_settled {G:Gr} {s:St} {g:Gh} {h:Gs} (hI:Inv G s g h) {x y m:Nat} (hc:core g x y) (hx:h.Z x) (hy:h.Z y) (h1:m≤h.be x) (h2:m≤h.be y):∀ d z,g.dep z≤d→g.fr x z→h.Z z∧m≤h.be z:=by
  obtain ⟨q0,st,rp,ts,bs,pa⟩:=hI
  have hp:=(st.co x y hc).1
  intro d
  induction d with
  | zero =>
    intro z hz hf
    have f4:=st.f4 x z hf
    have p0:=(st.p0 z (by omega)).2
    cases hpz:g.par z with
    | none=>exact (p0 hpz).elim
    | some p =>
      by_cases e:g.par p=some z
      · have:=st.cu x y z p hc ⟨hpz,e⟩ hf
        grind
      · have:=st.dp p z ⟨hpz,e⟩; omega
  | succ d ih =>
    intro z hz hf
    have f4:=st.f4 x z hf
    have p0:=(st.p0 z (by omega)).2
    cases hpz:g.par z with
    | none=>exact (p0 hpz).elim
    | some p =>
      by_cases e:g.par p=some z
      · have:=st.cu x y z p hc ⟨hpz,e⟩ hf
        grind
      · have hd:=st.dp p z ⟨hpz,e⟩
        have f:=(st.db z p (st.pr z p hpz)).1
        have f5:=st.f3 _ _ _ hf f
        have f6:=st.f4 x p f5
        obtain ⟨i1,i2⟩:=ih p (by omega) f5
        obtain ⟨j1,j2⟩:=rp.s3 p z (by omega) ⟨hpz,e⟩ i1
        exact ⟨j1,by omega⟩
theorem Inv.coreRep {G:Gr} {s:St} {g:Gh} {h:Gs} (hI:Inv G s g h) {x y w:Nat} {A B:List NMsg} (hq:s.q y x=A++report w :: B) (hA:inits A=[]) (hx:s.inn x=some y) (hf:s.fnd x=false) :
    (w < s.bw x∧w < 1001)∨(core g x y∧s.lev x=g.L x∧s.lev y=g.L y∧s.fnd y=false∧g.ph x=0∧h.Z x∧h.Z y∧h.be x=s.bw x∧h.be y=s.bw y∧w=s.bw y):=by
  have hm:report w ∈ kR s.q y x:=by simp only [kR,hq]; simp [isRep]
  rcases hI.rp.r1 x y w hm with ⟨a1,a2,a3,a4,a5,a6,a7,a8⟩ | ⟨a1,a2,a3,a4,a5,a6,a7⟩
  · right
    obtain ⟨b1,b2,b3,b4⟩:=hI.live hq hA a1 a2 a3 a8
    obtain ⟨q0,st,rp,ts,bs,pa⟩:=hI
    have e:g.par x=some y:=by rw [← rp.si x b2 b1]; exact hx
    exact ⟨⟨e,a2⟩,b1,a3,a4,b2,rp.s2 x b2 b1 hf,rp.s2 y a1 a3 a4,rp.s13 x y ⟨e,a2⟩ b1 hf,a6,a5⟩
  · exact Or.inl ⟨a4,a5⟩
theorem ev_over {G:Gr} {s:St} {g:Gh} {h:Gs} (hI:Inv G s g h) {x y:Nat} {A B:List NMsg} (hq:s.q y x=A++report 1001 :: B) (hA:inits A=[]) (hx:s.inn x=some y) (hf:s.fnd x=false) (hb:s.bw x=1001) :
    Inv G { s with over:=upd s.over x true,q:=upd2 s.q y x (A++B) } g h:=by
  have hcr:=hI.coreRep hq hA hx hf
  have h0:=ev_repNo hI hq hx hf
  rcases hcr with ⟨_,e⟩ | ⟨c1,c2,c3,c4,c5,c6,c7,c8,c9,c10⟩
  · omega
  have hall:=all_settled hI (m:=1001) c1 c6 c7 (by omega) (by omega)
  obtain ⟨q0,st,rp,ts,bs,pa⟩:=hI
  refine ⟨h0.q0,h0.st,h0.rp,h0.ts,⟨h0.bs.bb,h0.bs.k1,h0.bs.k2,?_⟩,h0.pa⟩
  intro u hu z v hz ha
  simp only [upd] at hu
  by_cases e:u=x
  · subst e
    apply Classical.byContradiction
    intro hn
    obtain ⟨i1,i2⟩:=hall _ z (Nat.le_refl _) hz
    have f4:=st.f4 u z hz
    have:=rp.s9 z v (by omega) i1 ha hn
    have:=(G.w1 z v ha).2
    omega
  · rw [if_neg e] at hu
    exact bs.ov u hu z v hz ha
open Classical in
theorem ev_decide {G:Gr} {s:St} {g:Gh} {h:Gs} (hI:Inv G s g h) {x y w:Nat} {A B:List NMsg} (hq:s.q y x=A++report w :: B) (hA:inits A=[]) (hx:s.inn x=some y) (hf:s.fnd x=false) (hb:s.bw x < w) :
    Inv G { s with q:=upd2 s.q y x (A++B) } { g with ph:=fun z=>if g.fr x z then 1 else g.ph z,W:=fun z=>if g.fr x z then s.bw x else g.W z,par:=upd g.par x none,dep:=fun z=>if z=x then 0 else g.dep z + 1 } { h with tk:=fun z=>z=x∨h.tk z }:=by
  have hcr:=hI.coreRep hq hA hx hf
  have hwm:w≤1001:=by
    have hm:report w ∈ kR s.q y x:=by simp only [kR,hq]; simp [isRep]
    have:=hI.rp.bm y
    rcases hI.rp.r1 x y w hm with ⟨_,_,_,_,a5,_⟩ | ⟨_,_,_,_,a5,_⟩ <;> omega
  have h0:=ev_repNo hI hq hx hf
  obtain ⟨X,h1,h2,h3,h4,h5,h6,A',B',h7,h8⟩:=kR_out hq
  rcases hcr with ⟨_,e⟩ | ⟨c1,c2,c3,c4,c5,c6,c7,c8,c9,c10⟩
  · omega
  have hall0:=all_settled hI (m:=s.bw x) c1 c6 c7 (by omega) (by omega)
  have hall:∀ z,g.fr x z→h.Z z∧s.bw x≤h.be z:=fun z=>hall0 _ z (Nat.le_refl _)
  have hne:x≠y:=by
    have:=hI.q0 y x (report w) (by rw [hq]; simp)
    rintro rfl; exact G.irr _ this.1
  have hk1:=kS_rem (q:=s.q) hq (show (isCon (report w) || isIni (report w))=false from rfl)
  have hk2:=kT_rem (q:=s.q) hq (show (isTest (report w) || isAns (report w))=false from rfl)
  have hk3:=kX_rem (q:=s.q) hq (show isRoot (report w)=false from rfl)
  have hX0:X.countP isRep=0:=by have:=hI.rp.r2 x y; omega
  have nr:=no_rep hX0
  obtain ⟨q0,st,rp,ts,bs,pa⟩:=hI
  have nif:∀ z,g.fr x z→s.fnd z=false:=fun z hz=>by
    cases e:s.fnd z
    · rfl
    · exact ((rp.s1 z e).2.2 (hall z hz).1).elim
  have hfy:g.fr x y:=(st.db x y (st.pr x y c1.1)).1
  have hph:∀ z,g.fr x z→g.ph z=0∧1≤g.L z∧g.par z≠none:=fun z hz=>by
    have f4:=st.f4 x z hz
    have:=st.p0 z (by omega)
    exact ⟨by omega,this⟩
  have f2:=st.f2
  have f3:=st.f3
  have aw:∀ z,g.fr x z→s.aw z=true:=fun z hz=>by
    cases e:s.aw z
    · have:=(st.asl z e).2.1; have:=hph z hz; omega
    · rfl
  refine ⟨h0.q0,?_,?_,?_,?_,?_⟩
  · rw [hk1]
    dsimp only
    refine ⟨st.qa,st.sa,?_,st.f1,st.f2,st.f3,?_,st.f5,st.l1,st.l2,st.se2,st.se3,?_,?_,?_,?_,st.c1,?_,?_,?_,?_,?_,?_,?_,st.nm1,st.nm2,st.nm3,?_,st.sz,st.mst,st.oc⟩
    · intro u hu
      have:=st.asl u hu
      have:¬ g.fr x u:=fun e=>by rw [aw u e] at hu; cases hu
      simp only [upd]; grind
    · intro u v huv
      have:=st.f4 u v huv
      grind
    · intro u v hd
      have:=st.db u v hd
      have:=st.pr
      simp only [upd]
      unfold core at c1
      grind
    · intro u v hp
      simp only [upd] at hp
      have:=st.pr u v
      grind
    · intro u v hh
      have:=st.hf u v hh
      have:=hph u
      simp only [upd]; grind
    · intro u v l hm
      have:=st.cn u v l hm
      have f4:=st.f4 x y hfy
      unfold core at *
      simp only [upd]
      refine ⟨this.1,fun e=>?_,this.2.2⟩
      have h5:=this.2.1 e
      have cc:=st.cu u v x y
      unfold core at cc
      grind
    · intro u v hc
      unfold core at *
      simp only [upd] at hc
      have hc':g.par u=some v∧g.par v=some u:=by grind
      have:=st.co u v hc'
      have cc:=st.cu u v x y hc' c1
      have:¬ g.fr x u:=fun e=>by
        have:=cc (f2 _ _ e)
        grind
      grind
    · intro u v a b hc1 hc2 hf
      unfold core at *
      simp only [upd] at hc1 hc2
      exact st.cu u v a b ⟨by grind,by grind⟩ ⟨by grind,by grind⟩ hf
    · intro a b hk
      unfold kid at hk
      simp only [upd] at hk
      by_cases e:a=x∧b=y
      · obtain ⟨rfl,rfl⟩:=e
        have i1:inits (kS s.q a b)=[]:=by
          have:=st.co a b c1
          grind
        have i2:inits (kS s.q b a)=[]:=by
          have:=st.co b a ⟨c1.2,c1.1⟩
          grind
        rw [i1,i2]
        have f4:=st.f4 a b hfy
        have l2a:=st.l2 a c2 (hph a (st.f1 a)).2.1
        have l2b:=st.l2 b c3 (by have:=(hph a (st.f1 a)).2.1; omega)
        refine ⟨rfl,?_⟩
        show (s.lev b,s.nam b)=(s.lev a,s.nam a)
        rw [l2a,l2b,c2,c3,f4.1,f4.2.1]
      · refine st.ch a b ⟨by grind,?_⟩
        unfold core at c1
        grind
    · intro a b l n f hm
      have:=st.i1 a b l n f hm
      have:b≠x:=by rintro rfl; exact st.noIni c2 hm
      simp only [upd]; grind
    · intro u v a1 a2 a3
      simp only [upd] at a1 a2
      have:=st.rt u v
      have b1:=hph u
      have b2:=hph v
      grind
    · intro u hu
      have:=st.p0 u
      simp only [upd]
      have:=st.f1 x
      grind
    · intro a b hk
      unfold kid at hk
      simp only [upd] at hk
      by_cases e:a=x
      · subst e
        have:b≠a:=by grind
        simp [this]
      · have:b≠x:=by grind
        simp only [if_neg e,if_neg this]
        have:=st.dp a b ⟨by grind,by grind⟩
        omega
    · intro u z v a1 a2 a3 a4
      dsimp only at a1 a2 a4 ⊢
      have d1:=st.de u z v
      by_cases e:g.fr x u
      · rw [if_pos e]
        have hz:=f3 _ _ _ e a2
        obtain ⟨i1,i2⟩:=hall z hz
        have:=rp.s9 z v (hph z hz).1 i1 a3 a4
        omega
      · rw [if_neg e] at a1 ⊢
        exact d1 a1 a2 a3 a4
  · rw [h1]
    dsimp only
    have kk:∀ a b,kid { g with ph:=fun z=>if g.fr x z then 1 else g.ph z,W:=fun z=>if g.fr x z then s.bw x else g.W z,par:=upd g.par x none,dep:=fun z=>if z=x then 0 else g.dep z + 1 } a b→¬ g.fr x a→kid g a b:=by
      intro a b hk hn
      unfold kid at *
      simp only [upd] at hk
      have:=st.f1 x
      have hb:b≠x:=by grind
      grind
    have kf:∀ a b,kid { g with ph:=fun z=>if g.fr x z then 1 else g.ph z,W:=fun z=>if g.fr x z then s.bw x else g.W z,par:=upd g.par x none,dep:=fun z=>if z=x then 0 else g.dep z + 1 } a b→g.fr a b:=by
      intro a b hk
      unfold kid at *
      simp only [upd] at hk
      have hb:b≠x:=by grind
      have:=(st.db b a (st.pr b a (by grind))).1
      exact f2 _ _ this
    refine ⟨?_,?_,?_,?_,?_,?_,rp.s6,?_,?_,?_,?_,?_,?_,?_,rp.bm,fun u v hc=>rp.s15 u v (by unfold core at *; simp only [upd] at hc; grind)⟩
    · intro u hu; have:=rp.s1 u hu; have:=nif u; grind
    · intro u a1 a2 a3; have:=rp.s2 u; grind
    · intro a b a1 a2 a3
      have hn:¬ g.fr x a:=by grind
      exact rp.s3 a b (by grind) (kk a b a2 hn) a3
    · intro a b a1 a2 a3 a4
      have hn:¬ g.fr x a:=by grind
      exact rp.s14 a b (by grind) (kk a b a2 hn) a3 a4
    · intro a b l n hm a1 a2; simp only [upd2] at hm; have:=rp.s4 a b l n; grind
    · intro a b l n hm
      have hm':initiate l n true ∈ kR s.q a b:=by simp only [upd2] at hm; grind
      have:=rp.s5 a b l n hm'
      have i1:=hall b
      refine ⟨by grind,this.2.1,this.2.2.1,fun hk=>?_⟩
      by_cases e:g.fr x a
      · have:=kf a b hk
        have:=f3 _ _ _ e this
        grind
      · exact this.2.2.2 (kk a b hk e)
    · intro u v a1 a2 a3 a4; have:=rp.s9 u v; grind
    · intro u a1 a2
      have:=rp.si u
      have:=st.f1 x
      simp only [upd]; grind
    · intro u v a1 a2 a3
      unfold core at a1
      simp only [upd] at a1
      exact rp.s13 u v ⟨by grind,by grind⟩ a2 a3
    · intro a b w' hm
      simp only [upd2] at hm ⊢
      by_cases e:b=y∧a=x
      · rw [if_pos e] at hm; exact (nr _ hm).elim
      · rw [if_neg e] at hm
        rw [if_neg e]
        rcases rp.r1 a b w' hm with ⟨d1,d2,d3,d4,d5,d6,d7,d8⟩ | ⟨d1,d2,d3,d4,d5,d6,d7⟩
        · have fba:=(st.db b a (st.pr b a d2)).1
          by_cases e2:g.fr x b
          · -- of this fragment: it must be the other core report
            right
            have hfa:g.fr x a:=f3 _ _ _ e2 fba
            have hcore:g.par a=some b:=by
              apply Classical.byContradiction
              intro hn
              have:=d7 ⟨d2,hn⟩
              rw [nif a hfa] at this
              cases this
            have:=st.cu x y b a c1 ⟨d2,hcore⟩ e2
            have e3:b=x∧a=y:=by
              rcases this with ⟨r1,r2⟩ | ⟨r1,r2⟩
              · exact ⟨r1.symm,r2.symm⟩
              · exact (e ⟨r2.symm,r1.symm⟩).elim
            obtain ⟨rfl,rfl⟩:=e3
            refine ⟨?_,?_,c4,by omega,by omega,fun _=>⟨c2,d5,?_⟩,?_⟩
            · unfold kid; simp only [upd]
              simp [hne.symm,hcore]
            · have:=(hph a hfa).1
              rw [rp.si a this c3]; exact hcore
            · simp [hfa]
            · intro A B hAB
              match hi:inits A with
              | []=>rfl
              | (l,n,f) :: t =>
                have hm2:initiate l n f ∈ kR s.q b a:=by
                  rw [hAB]
                  have:=(mem_inits A).1 (show (l,n,f) ∈ inits A by rw [hi]; simp)
                  simp [this]
                exact (st.noIni c3 (ini_RS.1 hm2)).elim
          · left
            have hfa:¬ g.fr x a:=fun e3=>e2 (f3 _ _ _ e3 (f2 _ _ fba))
            have hb:b≠x:=by rintro rfl; exact e2 (st.f1 b)
            refine ⟨by rw [if_neg e2]; exact d1,by simp only [upd,if_neg hb]; exact d2,d3,d4,d5,d6,fun hk=>d7 (kk a b hk hfa),d8⟩
        · right
          have ha:a≠x:=by
            rintro rfl
            have:b=y:=by have:=d1.1; rw [c1.1] at this; cases this; rfl
            subst this
            exact d1.2 c1.2
          refine ⟨?_,d2,d3,d4,d5,fun e3=>?_,d7⟩
          · unfold kid at *
            simp only [upd,if_neg ha]
            grind
          · have:=d6 e3
            grind
    · intro a b; simp only [upd2]; split
      · omega
      · exact rp.r2 a b
    · intro a b a1 a2 a3 a4
      have hn:¬ g.fr x a:=fun e=>by rw [nif a e] at a1; cases a1
      simp only [upd2] at a4
      have:¬ (b=y∧a=x):=by rintro ⟨rfl,rfl⟩; exact hn (st.f1 _)
      rw [if_neg this] at a4
      exact rp.hd a b a1 (kk a b a2 hn) a3 a4
    · intro a ha
      have hn:¬ g.fr x a:=fun e=>by rw [nif a e] at ha; cases ha
      obtain ⟨l,l1,l2,l3⟩:=rp.ct a ha
      refine ⟨l,l1,l2,fun z=>?_⟩
      rw [l3 z]
      have:¬ (z=y∧a=x):=by rintro ⟨rfl,rfl⟩; exact hn (st.f1 _)
      simp only [upd2,if_neg this]
      have hax:a≠x:=by rintro rfl; exact hn (st.f1 _)
      have:kid { g with ph:=fun z=>if g.fr x z then 1 else g.ph z,W:=fun z=>if g.fr x z then s.bw x else g.W z,par:=upd g.par x none,dep:=fun z=>if z=x then 0 else g.dep z + 1 } a z ↔ kid g a z:=by
        constructor
        · intro hk; exact kk a z hk hn
        · intro hk
          unfold kid at *
          simp only [upd,if_neg hax]
          have:z≠x:=by
            rintro rfl
            have:=(st.db z a (st.pr z a hk.1)).1
            exact hn this
          rw [if_neg this]; exact hk
      rw [this]
  · rw [hk2]; exact ⟨ts.t0,ts.t1,ts.t2,ts.t3,ts.t4,ts.t5,ts.t6,ts.t7⟩
  · rw [hk3]
    dsimp only
    refine ⟨?_,?_,?_,bs.ov⟩
    · intro z a1 a2 a3 a4
      dsimp only at a1 a2 a3
      have hb':g.ph z≤1:=by
        by_cases e:g.fr x z
        · have:=(hph z e).1; omega
        · rw [if_neg e] at a3; exact a3
      obtain ⟨v',d1,d2,d3⟩:=bs.bb z a1 a2 hb' a4
      refine ⟨v',d1,d2,?_⟩
      rcases d3 with d3 | d3 | d3
      · exact Or.inl d3
      · exact Or.inr (Or.inl d3)
      · right; right
        refine ⟨?_,d3.2⟩
        have hk:=d3.1
        unfold kid at *
        have hv:v'≠x:=by
          rintro rfl
          have:z=y:=by have:=hk.1; rw [c1.1] at this; cases this; rfl
          subst this
          exact hk.2 c1.2
        simp only [upd,if_neg hv]
        grind
    · intro u hu
      rcases hu with rfl | hu
      · refine ⟨aw u (st.f1 u),by simp [st.f1 u],by simp [upd],c2,fun _=>⟨by simp [st.f1 u],by omega⟩,fun v hm=>?_⟩
        have:=(bs.k2 u v hm).1
        omega
      · have h9:=bs.k1 u hu
        have hn:¬ g.fr x u:=fun e=>by have:=(hph u e).1; omega
        have hux:u≠x:=by rintro rfl; exact hn (st.f1 _)
        simp only [upd,if_neg hux,if_neg hn]
        exact h9
    · intro z c hr
      have h9:=bs.k2 z c hr
      have fzc:=(st.db c z (st.pr c z h9.2.2.2.1.1)).1
      have hn:¬ g.fr x z:=fun e=>by have:=(hph z e).1; omega
      have hnc:¬ g.fr x c:=fun e=>hn (f3 _ _ _ e fzc)
      have hzx:z≠x:=by rintro rfl; exact hn (st.f1 _)
      have hcx:c≠x:=by rintro rfl; exact hnc (st.f1 _)
      unfold kid at *
      simp only [upd,if_neg hzx,if_neg hn,if_neg hcx,if_neg hnc]
      exact h9
  · rw [hk3]
    dsimp only
    have np:∀ z,g.fr x z→¬ h.ps z:=fun z hz e=>by have:=pa.p1 z e; have:=(hph z hz).1; omega
    refine ⟨?_,?_,?_,?_⟩
    · intro z hz
      have:=pa.p1 z hz
      have:=np z
      dsimp only; grind
    · intro z v a1 a2 a3 a4
      dsimp only at a2 a3
      by_cases e:g.fr x z
      · have fz:g.fr z v:=by
          unfold kid at a4
          simp only [upd] at a4
          have hv:v≠x:=by grind
          have:=(st.db v z (st.pr v z (by grind))).1
          exact f2 _ _ this
        exact np v (f3 _ _ _ e fz)
      · have hzx:z≠x:=by rintro rfl; exact e (st.f1 _)
        rw [if_neg e] at a2
        rw [upd_ne _ _ hzx] at a3
        refine pa.u1 z v a1 a2 a3 ?_
        unfold kid at *
        simp only [upd] at a4
        have hv:v≠x:=by grind
        grind
    · intro u hu
      dsimp only
      rcases hu with rfl | hu
      · refine ⟨by simp [st.f1 u],np u (st.f1 u),fun v _ hk=>np v ?_⟩
        unfold kid at hk
        simp only [upd] at hk
        have hv:v≠u:=by grind
        exact f2 _ _ (st.db v u (st.pr v u (by grind))).1
      · have h9:=pa.k3 u hu
        have hn:¬ g.fr x u:=fun e=>by have:=(hph u e).1; omega
        have hux:u≠x:=by rintro rfl; exact hn (st.f1 _)
        refine ⟨by rw [if_neg hn]; exact h9.1,h9.2.1,fun v hv hk=>h9.2.2 v hv ?_⟩
        unfold kid at *
        simp only [upd] at hk
        grind
    · intro z c hr
      have h9:=pa.k4 z c hr
      have hn:¬ g.fr x z:=fun e=>by have:=(hph z e).1; omega
      dsimp only
      rw [if_neg hn]
      exact h9
end Go.Proofs.YtlfijfodklhplaaGreat.Ghs
