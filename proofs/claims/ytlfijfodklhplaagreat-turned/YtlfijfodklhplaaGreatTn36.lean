import Derived.Test.YtlfijfodklhplaaGreatTn35
set_option linter.unusedVariables false
set_option linter.unusedSimpArgs false
namespace Go.Proofs.YtlfijfodklhplaaGreat.Ghs
open Go.RowKit
open NMsg
theorem kR_upd(q:Nat→Nat→List NMsg)(a b:Nat)(l:List NMsg):kR (upd2 q a b l)=upd2 (kR q) a b (l.filter (fun m=>isRep m||isIni m)):=by
 funext u v;simp only[kR,upd2];split<;>rfl
theorem kR_addT{q:Nat→Nat→List NMsg}{a b:Nat}{m:NMsg}(hp:(isRep m||isIni m)=true):kR (addq q a b m)=upd2 (kR q) a b (kR q a b++[m]):=by
 unfold addq;rw[kR_upd];congr 1;simp[kR,hp]
theorem ini_RS{q:Nat→Nat→List NMsg}{u v l n:Nat}{f:Bool}:initiate l n f∈kR q u v↔initiate l n f∈kS q u v:=by
 simp[kR,kS,isRep,isIni,isCon]
theorem mem_inits{l n:Nat}{f:Bool}(L:List NMsg):(l,n,f)∈inits L↔initiate l n f∈L:=by
 induction L with
 |nil=>simp[inits]
 |cons m t ih=>cases m<;>simp[inits,ih]
theorem inits_app(A B:List NMsg):inits (A++B)=inits A++inits B:=by
 induction A with
 |nil=>rfl
 |cons m t ih=>cases m<;>simp[inits,ih]
theorem inits_fil(p:NMsg→Bool)(hp:∀l n f,p (initiate l n f)=true)(L:List NMsg):inits (L.filter p)=inits L:=by
 induction L with
 |nil=>rfl
 |cons m t ih=>
  rw[List.filter_cons]
  split
  ·cases m<;>simp[inits,ih]
  ·rename_i e
   cases m<;>simp[inits,ih]
   exact(e (hp _ _ _)).elim
theorem inits_RS(q:Nat→Nat→List NMsg)(u v:Nat):inits (kR q u v)=inits (kS q u v):=by
 unfold kR kS
 rw[inits_fil,inits_fil]
 ·intros;rfl
 ·intros;rfl
theorem Str.up{G:Gr}{aw:Nat→Bool}{lev nam:Nat→Nat}{se:Nat→Nat→Nat}{k:Nat→Nat→List NMsg}{g:Gh}(h:Str G aw lev nam se k g){x y:Nat}(hk:kid g x y)(hy:lev y=g.L y):inits (k x y)=[]∧lev x=g.L x:=by
 obtain⟨_,hc⟩:=h.ch x y hk
 have e:inits (k x y)=[]:=by
  match hi:inits (k x y)with
  |[]=>rfl
  |(l,n,f)::t=>
   rw[hi]at hc
   have hm:initiate l n f∈k x y:=(mem_inits _).1 (by rw[hi];simp)
   have:=h.i1 x y l n f hm
   have:=hc.1
   simp only at this
   omega
 rw[e]at hc
 have h1:(lev y,nam y)=(lev x,nam x):=hc
 have h2:=Prod.mk.inj h1
 have f:=(h.db y x (h.pr y x hk.1)).1
 have f4:=h.f4 y x f
 exact⟨e,by omega⟩
theorem Str.noIni{G:Gr}{aw:Nat→Bool}{lev nam:Nat→Nat}{se:Nat→Nat→Nat}{k:Nat→Nat→List NMsg}{g:Gh}(h:Str G aw lev nam se k g){x y:Nat}(hy:lev y=g.L y){l n:Nat}{f:Bool}:initiate l n f∉k x y:=by
 intro hm
 have hp:=(h.i1 x y l n f hm).1
 by_cases e:g.par x=some y
 ·have hc:=(h.co x y ⟨e,hp⟩).2.2
  have:inits (k x y)=[]:=by grind
  have h2:=(mem_inits _).2 hm
  rw[this]at h2
  cases h2
 ·have:=(h.up ⟨hp,e⟩ hy).1
  have h2:=(mem_inits _).2 hm
  rw[this]at h2
  cases h2
theorem ev_reports{G:Gr}{s:St}{g:Gh}{h:Gs}(hI:Inv G s g h){y x:Nat}(hf:s.fnd y=true)(ht:s.tst y=none)(htg:¬h.tg y)(hc:s.cnt y=0)(hx:s.inn y=some x):
 Inv G { s with fnd:=upd s.fnd y false,q:=addq s.q y x (report (s.bw y))} g { h with Z:=fun z=>z=y∨h.Z z,be:=upd h.be y (s.bw y)}:=by
 have haw:=fnd_aw hI hf
 obtain⟨q0,st,rp,ts,bs,pa⟩:=hI
 have z1:=rp.s1 y hf
 have z2:=st.p0 y z1.1
 have hpar:g.par y=some x:=by rw[←rp.si y z1.1 z1.2.1];exact hx
 have hd:=st.pr y x hpar
 have hadj:=(st.sa y x (by unfold dbl at hd;omega)).1
 have hxy:x≠y:=by rintro rfl;exact G.irr _ hadj
 have hno:∀w,report w∉kR s.q y x:=fun w hm=>by
  rcases rp.r1 x y w hm with⟨_,_,_,a,_⟩|⟨a,_⟩
  ·rw[hf]at a;cases a
  ·exact a.2 hpar
 obtain⟨cl,c1,c2,c3⟩:=rp.ct y hf
 rw[hc]at c2
 have hnil:cl=[]:=List.eq_nil_of_length_eq_zero c2
 have hkids:∀z,kid g y z→h.Z z∧∀w,report w∉kR s.q z y:=fun z hk=>by
  have:=c3 z
  rw[hnil]at this
  simp at this
  grind
 have hni:∀u l n f,initiate l n f∉kR s.q u y:=fun u l n f hm=>st.noIni z1.2.1 (ini_RS.1 hm)
 have hup:∀z,kid g z y→s.lev z=g.L z:=fun z hk=>(st.up hk z1.2.1).2
 have hph:∀z,kid g z y→g.ph z=0:=fun z hk=>by
  have f:=(st.db y z (st.pr y z hk.1)).1
  have:=st.f4 y z f
  omega
 refine⟨q0_add q0 hadj haw,?_,?_,?_,?_,by rw[kX_add rfl];exact pa⟩
 ·rw[kS_add rfl];exact st
 ·rw[kR_addT rfl]
  dsimp only
  refine⟨?_,?_,?_,?_,?_,?_,?_,?_,rp.si,?_,?_,?_,?_,?_,rp.bm,?_⟩
  ·intro u hu;simp only[upd]at hu;have:=rp.s1 u;grind
  ·intro u a1 a2 a3;simp only[upd]at a3;have:=rp.s2 u;grind
  ·intro a b h1 h2 h3
   simp only[upd]
   have e1:=rp.s3 a b h1 h2
   have e2:=hkids b
   have e3:=rp.hd y b hf
   have:a≠b:=by rintro rfl;exact h2.2 h2.1
   grind
  ·intro a b h1 h2 h3 h4
   simp only[upd]at h4
   have e1:=rp.s14 a b h1 h2
   have e2:=rp.s2 a h1
   have e3:=hup a
   grind
  ·intro a b l n hm h1 h2
   simp only[upd2]at hm
   have e1:=rp.s4 a b l n
   grind
  ·intro a b l n hm
   simp only[upd2]at hm
   simp only[upd]
   have e1:=rp.s5 a b l n
   have e2:=hkids b
   have e3:=hni a l n true
   grind
  ·intro u hu;simp only[upd]at hu;have:=rp.s6 u;grind
  ·intro u v h1 h2 h3 h4
   simp only[upd]
   have e1:=rp.s9 u v h1
   split
   ·rename_i e
    subst e
    refine ts.t2 u v hf ht htg h3 ?_
    have a1:=st.se2 u v
    have a2:=st.se3 u v
    have a3:=st.db u v
    have a4:=st.hf u v
    unfold dbl at a3
    unfold half at a4
    grind
   ·grind
  ·intro u v h1 h2 h3
   simp only[upd]at h3⊢
   have e1:=rp.s13 u v h1 h2
   grind
  ·intro a b w hm
   by_cases e:b=y∧a=x
   ·obtain⟨rfl,rfl⟩:=e
    simp only[upd2]at hm⊢
    simp only[and_self,if_true,List.mem_append,List.mem_singleton]at hm⊢
    have hw:w=s.bw b:=by
     rcases hm with hm|hm
     ·exact(hno w hm).elim
     ·cases hm;rfl
    left
    refine⟨z1.1,hpar,z1.2.1,by simp[upd],hw,by simp[upd],fun hk=>?_,?_⟩
    ·simp only[upd,if_neg hxy]
     have e1:=rp.s14 a b (hph a hk) hk
     have e2:=rp.s2 a (hph a hk) (hup a hk)
     have e3:=rp.s3 a b (hph a hk) hk
     grind
    intro A B hAB
    rcases List.append_eq_append_iff.1 hAB with⟨c,d1,d2⟩|⟨c,d1,d2⟩
    ·cases c with
     |nil=>simp at d2;rw[d2.2];rfl
     |cons m t=>simp at d2
    ·cases c with
     |nil=>simp at d2;rw[d2.2];rfl
     |cons m t=>
      simp at d2
      exfalso
      refine hno w ?_
      rw[d1];simp[←d2.1]
   ·simp only[upd2]at hm⊢
    rw[if_neg e]at hm
    rw[if_neg e]
    rcases rp.r1 a b w hm with⟨a1,a2,a3,a4,a5,a6,a7,a8⟩|⟨a1,a2,a3,a4,a5,a6,a7⟩
    ·left
     have:b≠y:=by rintro rfl;rw[hf]at a4;cases a4
     simp only[upd,if_neg this]
     refine⟨a1,a2,a3,a4,a5,a6,fun hk=>?_,a8⟩
     have e1:=a7 hk
     split
     ·rename_i e2
      subst e2
      exact((hkids b hk).2 w hm).elim
     ·exact e1
    ·right
     have:a≠y:=by rintro rfl;rw[hf]at a3;cases a3
     simp only[upd,if_neg this]
     exact⟨a1,a2,a3,a4,a5,a6,a7⟩
  ·intro a b
   simp only[upd2]
   split
   ·rename_i e
    rw[List.countP_append]
    have:(kR s.q y x).countP isRep=0:=List.countP_eq_zero.2 fun m hm=>by cases m<;>simp[isRep];exact hno _ hm
    rw[this];simp[isRep]
   ·exact rp.r2 a b
  ·intro a b h1 h2 h3 h4
   simp only[upd]at h1⊢
   simp only[upd2]at h4
   have e1:=rp.hd a b
   have:a≠b:=by rintro rfl;exact h2.2 h2.1
   by_cases e:b=y
   ·subst e
    have:a=x:=by have:=h2.1;rw[hpar]at this;cases this;rfl
    subst this
    have:=h4 (s.bw b)
    simp at this
   ·grind
  ·intro a ha
   simp only[upd]at ha
   have hay:a≠y:=by rintro rfl;simp at ha
   rw[if_neg hay]at ha
   obtain⟨l,l1,l2,l3⟩:=rp.ct a ha
   refine⟨l,l1,l2,fun z=>?_⟩
   rw[l3 z]
   simp only[upd2]
   by_cases e:z=y
   ·subst e
    by_cases e2:a=x
    ·subst e2
     constructor
     ·rintro⟨b1,b2⟩
      exact⟨b1,Or.inr ⟨s.bw z,by simp⟩⟩
     ·rintro⟨b1,b2⟩
      exact⟨b1,Or.inl z1.2.2⟩
    ·constructor
     ·rintro⟨b1,b2⟩
      have:=b1.1;rw[hpar]at this;cases this;exact(e2 rfl).elim
     ·rintro⟨b1,b2⟩
      have:=b1.1;rw[hpar]at this;cases this;exact(e2 rfl).elim
   ·grind
  ·intro u v a1 a2
   have:=rp.s15 u v a1 a2
   grind
 ·rw[kT_add rfl]
  dsimp only
  refine⟨?_,ts.t1,?_,ts.t3,ts.t4,ts.t5,ts.t6,ts.t7⟩
  ·intro z hz;simp only[upd]at hz;have:=ts.t0 z;grind
  ·intro z v a1;simp only[upd]at a1;have:=ts.t2 z v;grind
 ·rw[kX_add rfl]
  refine⟨?_,bs.k1,bs.k2,bs.ov⟩
  intro z h1 h2 h3 h4
  obtain⟨v',d1,d2,d3⟩:=bs.bb z h1 h2 h3 h4
  refine⟨v',d1,d2,?_⟩
  simp only[upd]
  grind
theorem kR_out{q:Nat→Nat→List NMsg}{a b w:Nat}{A B:List NMsg}(hq:q a b=A++report w::B):∃X,kR (upd2 q a b (A++B))=upd2 (kR q) a b X∧inits X=inits (kR q a b)∧(∀l n f,initiate l n f∈X↔initiate l n f∈kR q a b)∧(∀x,x∈X→x∈kR q a b)∧report w∈kR q a b∧(kR q a b).countP isRep=X.countP isRep+1∧∃A' B',kR q a b=A'++report w::B'∧inits A'=inits A:=by
 refine⟨(A++B).filter (fun m=>isRep m||isIni m),kR_upd q a b _,?_,?_,?_,?_,?_,A.filter (fun m=>isRep m||isIni m),B.filter (fun m=>isRep m||isIni m),?_,?_⟩
 ·simp only[kR,hq]
  rw[inits_fil,inits_fil,inits_app,inits_app]
  ·rfl
  ·intros;rfl
  ·intros;rfl
 ·intro l n f;simp only[kR,hq];simp[isRep,isIni]
 ·intro x hx;simp only[kR,hq];simp at hx⊢;grind
 ·simp only[kR,hq];simp[isRep]
 ·simp only[kR,hq,List.filter_append,List.countP_append,List.filter_cons,List.countP_cons,isRep,Bool.true_or,if_true]
  omega
 ·simp only[kR,hq];simp[isRep]
 ·exact inits_fil _ (by intros;rfl) A
theorem no_rep{X:List NMsg}(h:X.countP isRep=0):∀w,report w∉X:=fun w hm=>by
 have:=cnt0 h _ hm
 simp[isRep]at this
theorem Inv.live{G:Gr}{s:St}{g:Gh}{h:Gs}(hI:Inv G s g h){x y w:Nat}{A B:List NMsg}(hq:s.q y x=A++report w::B)(hA:inits A=[])(hp:g.ph y=0)(hpar:g.par y=some x)(hl:s.lev y=g.L y)(ho:∀A B,kR s.q y x=A++report w::B→inits B=[]):s.lev x=g.L x∧g.ph x=0∧g.fr y x∧inits (kR s.q y x)=[]:=by
 obtain⟨X,h1,h2,h3,h4,h5,h6,A',B',h7,h8⟩:=kR_out hq
 obtain⟨q0,st,rp,ts,bs,pa⟩:=hI
 have hi:inits (kR s.q y x)=[]:=by
  rw[h7,inits_app,h8,hA]
  have:=ho A' B' h7
  simpa [inits]using this
 have f:=(st.db y x (st.pr y x hpar)).1
 have f4:=st.f4 y x f
 refine⟨?_,by omega,f,hi⟩
 by_cases e:g.par x=some y
 ·have hc:=st.co y x ⟨hpar,e⟩
  have e2:inits (kS s.q y x)=[]:=by rw[←inits_RS];exact hi
  have c1:=st.cn x y (s.lev x)
  have c2:=st.pr x y e
  unfold dbl at c2
  grind
 ·exact(st.up ⟨hpar,e⟩ hl).2
theorem ev_repC{G:Gr}{s:St}{g:Gh}{h:Gs}(hI:Inv G s g h){x y w:Nat}{A B:List NMsg}(hq:s.q y x=A++report w::B)(hA:inits A=[])(hx:s.inn x≠some y)(bw':Nat)(best':Option Nat)
 (hb:(w<s.bw x∧bw'=w∧best'=some y)∨(¬w<s.bw x∧bw'=s.bw x∧best'=s.best x)):
 Inv G { s with cnt:=upd s.cnt x (s.cnt x - 1),bw:=upd s.bw x bw',best:=upd s.best x best',q:=upd2 s.q y x (A++B)} g h:=by
 obtain⟨X,h1,h2,h3,h4,h5,h6,A',B',h7,h8⟩:=kR_out hq
 have hr:=hI.rp.r1 x y w h5
 have hlive:g.ph y=0∧g.par y=some x∧s.lev y=g.L y∧s.fnd y=false∧w=s.bw y∧h.be y=s.bw y∧(kid g x y→s.fnd x=true)∧∀A B,kR s.q y x=A++report w::B→inits B=[]:=by
  rcases hr with a|a
  ·exact a
  ·exact(hx a.2.1).elim
 obtain⟨a1,a2,a3,a4,a5,a6,a7,a8⟩:=hlive
 obtain⟨b1,b2,b3,b4⟩:=hI.live hq hA a1 a2 a3 a8
 have hrp:=root_ph hI
 obtain⟨q0,st,rp,ts,bs,pa⟩:=hI
 have hk:kid g x y:=⟨a2,fun e=>hx (by rw[rp.si x b2 b1];exact e)⟩
 have hfx:=a7 hk
 have hZy:=rp.s2 y a1 a3 a4
 have hxy:x≠y:=by rintro rfl;exact hk.2 hk.1
 have hle:bw'≤s.bw x∧bw'≤w:=by omega
 have hadj:=(q0 y x (report w) (by rw[hq];simp)).1
 have hX0:X.countP isRep=0:=by have:=rp.r2 x y;omega
 have nr:=no_rep hX0
 refine⟨q0_rem q0 hq,?_,?_,?_,?_,by rw[kX_rem hq rfl];exact pa.upd_ b2 hrp _ _⟩
 ·rw[kS_rem hq rfl];exact st
 ·rw[h1]
  dsimp only
  refine⟨rp.s1,rp.s2,rp.s3,rp.s14,?_,?_,?_,rp.s9,rp.si,?_,?_,?_,?_,?_,?_,rp.s15⟩
  ·intro a b l n hm;simp only[upd2]at hm;have:=rp.s4 a b l n;grind
  ·intro a b l n hm;simp only[upd2]at hm;have:=rp.s5 a b l n;grind
  ·intro u hu;simp only[upd];have:=rp.s6 u hu;grind
  ·intro u v c1 c2 c3;simp only[upd];have:=rp.s13 u v c1 c2 c3;grind
  ·intro a b w' hm
   simp only[upd2]at hm⊢
   by_cases e:b=y∧a=x
   ·rw[if_pos e]at hm;exact(nr _ hm).elim
   ·rw[if_neg e]at hm
    rw[if_neg e]
    rcases rp.r1 a b w' hm with⟨d1,d2,d3,d4,d5,d6,d7,d8⟩|⟨d1,d2,d3,d4,d5,d6,d7⟩
    ·left
     have:b≠x:=by rintro rfl;rw[hfx]at d4;cases d4
     simp only[upd,if_neg this]
     exact⟨d1,d2,d3,d4,d5,d6,d7,d8⟩
    ·right
     have:a≠x:=by rintro rfl;rw[hfx]at d3;cases d3
     simp only[upd,if_neg this]
     refine⟨d1,d2,d3,d4,d5,fun e3=>?_,d7⟩
     have f:=(st.db a b (st.pr a b d1.1)).1
     have f4:=st.f4 a b f
     have:=d6 e3
     have:b≠x:=by rintro rfl;omega
     simp only[if_neg this]
     exact d6 e3
  ·intro a b;simp only[upd2];split
   ·omega
   ·exact rp.r2 a b
  ·intro a b c1 c2 c3 c4
   simp only[upd2]at c4
   simp only[upd]
   have e1:=rp.hd a b c1 c2 c3
   by_cases e:b=y∧a=x
   ·obtain⟨rfl,rfl⟩:=e
    simp only[if_true];omega
   ·rw[if_neg e]at c4
    have:=e1 c4
    split
    ·rename_i e2;subst e2;omega
    ·exact this
  ·intro a ha
   obtain⟨l,l1,l2,l3⟩:=rp.ct a ha
   by_cases e:a=x
   ·subst e
    have hy:y∈l:=(l3 y).2 ⟨hk,Or.inr ⟨w,h5⟩⟩
    refine⟨l.erase y,l1.erase y,?_,fun z=>?_⟩
    ·rw[List.length_erase_of_mem hy,l2];simp[upd]
    ·rw[l1.mem_erase_iff,l3 z]
     simp only[upd2]
     by_cases e2:z=y
     ·subst e2
      simp only[and_self,if_true]
      constructor
      ·rintro⟨e3,_⟩;exact(e3 rfl).elim
      ·rintro⟨_,e3|⟨w',e3⟩⟩
       ·exact(e3 hZy).elim
       ·exact(nr _ e3).elim
     ·simp only[e2,false_and,if_false]
      grind
   ·refine⟨l,l1,by simp only[upd,if_neg e];exact l2,fun z=>?_⟩
    rw[l3 z]
    simp only[upd2]
    grind
  ·intro z;simp only[upd];have:=rp.bm z;have:=rp.bm x;grind
 ·rw[kT_rem hq rfl]
  dsimp only
  refine⟨ts.t0,ts.t1,?_,ts.t3,ts.t4,ts.t5,ts.t6,ts.t7⟩
  intro z v c1 c2 c3 c4 c5
  have:=ts.t2 z v c1 c2 c3 c4 c5
  simp only[upd];grind
 ·rw[kX_rem hq rfl]
  dsimp only
  refine⟨?_,?_,?_,bs.ov⟩
  ·intro z c1 c2 c3 c4
   by_cases e:z=x
   ·subst e
    simp only[upd,if_true]at c4⊢
    rcases hb with⟨m1,m2,m3⟩|⟨m1,m2,m3⟩
    ·refine⟨y,m3,G.sym _ _ hadj,Or.inr (Or.inr ⟨hk,a3,a4,?_⟩)⟩
     rw[if_neg hxy.symm];omega
    ·rw[m2]at c4
     obtain⟨v',d1,d2,d3⟩:=bs.bb z c1 c2 c3 c4
     refine⟨v',by rw[m3];exact d1,d2,?_⟩
     have:v'≠z:=by rintro rfl;exact G.irr _ d2
     rw[if_neg this,m2];exact d3
   ·simp only[upd,if_neg e]at c4⊢
    obtain⟨v',d1,d2,d3⟩:=bs.bb z c1 c2 c3 c4
    refine⟨v',d1,d2,?_⟩
    rcases d3 with d3|d3|d3
    ·exact Or.inl d3
    ·exact Or.inr (Or.inl d3)
    ·right;right
     have:v'≠x:=by rintro rfl;rw[hfx]at d3;cases d3.2.2.1
     rw[if_neg this];exact d3
  ·intro u hu
   have:=bs.k1 u hu
   have hn:u≠x:=by rintro rfl;omega
   simp only[upd,if_neg hn]
   exact this
  ·intro z c hr
   have h0:=bs.k2 z c hr
   have f:=(st.db c z (st.pr c z h0.2.2.2.1.1)).1
   have f4:=st.f4 c z f
   have hn:c≠x:=by rintro rfl;omega
   have hz:z≠x:=by rintro rfl;omega
   simp only[upd,if_neg hn,if_neg hz]
   exact h0
theorem ev_repNo{G:Gr}{s:St}{g:Gh}{h:Gs}(hI:Inv G s g h){x y w:Nat}{A B:List NMsg}(hq:s.q y x=A++report w::B)(hx:s.inn x=some y)(hf:s.fnd x=false):
 Inv G { s with q:=upd2 s.q y x (A++B)} g h:=by
 obtain⟨X,h1,h2,h3,h4,h5,h6,A',B',h7,h8⟩:=kR_out hq
 obtain⟨q0,st,rp,ts,bs,pa⟩:=hI
 have hX0:X.countP isRep=0:=by have:=rp.r2 x y;omega
 have nr:=no_rep hX0
 refine⟨q0_rem q0 hq,?_,?_,?_,?_,by rw[kX_rem hq rfl];exact pa⟩
 ·rw[kS_rem hq rfl];exact st
 ·rw[h1]
  dsimp only
  refine⟨rp.s1,rp.s2,rp.s3,rp.s14,?_,?_,rp.s6,rp.s9,rp.si,rp.s13,?_,?_,?_,?_,rp.bm,rp.s15⟩
  ·intro a b l n hm;simp only[upd2]at hm;have:=rp.s4 a b l n;grind
  ·intro a b l n hm;simp only[upd2]at hm;have:=rp.s5 a b l n;grind
  ·intro a b w' hm
   simp only[upd2]at hm⊢
   by_cases e:b=y∧a=x
   ·rw[if_pos e]at hm;exact(nr _ hm).elim
   ·rw[if_neg e]at hm
    rw[if_neg e]
    exact rp.r1 a b w' hm
  ·intro a b;simp only[upd2];split
   ·omega
   ·exact rp.r2 a b
  ·intro a b c1 c2 c3 c4
   simp only[upd2]at c4
   have:¬(b=y∧a=x):=by rintro⟨rfl,rfl⟩;rw[hf]at c1;cases c1
   rw[if_neg this]at c4
   exact rp.hd a b c1 c2 c3 c4
  ·intro a ha
   obtain⟨l,l1,l2,l3⟩:=rp.ct a ha
   refine⟨l,l1,l2,fun z=>?_⟩
   rw[l3 z]
   have:¬(z=y∧a=x):=by rintro⟨rfl,rfl⟩;rw[hf]at ha;cases ha
   simp only[upd2,if_neg this]
 ·rw[kT_rem hq rfl];exact ts
 ·rw[kX_rem hq rfl];exact bs
theorem all_settled{G:Gr}{s:St}{g:Gh}{h:Gs}(hI:Inv G s g h){x y m:Nat}(hc:core g x y)(hx:h.Z x)(hy:h.Z y)(h1:m≤h.be x)(h2:m≤h.be y):∀d z,g.dep z≤d→g.fr x z→h.Z z∧m≤h.be z:=by
 obtain⟨q0,st,rp,ts,bs,pa⟩:=hI
 have hp:=(st.co x y hc).1
 intro d
 induction d with
 |zero=>
  intro z hz hf
  have f4:=st.f4 x z hf
  have p0:=(st.p0 z (by omega)).2
  cases hpz:g.par z with
  |none=>exact(p0 hpz).elim
  |some p=>
   by_cases e:g.par p=some z
   ·have:=st.cu x y z p hc ⟨hpz,e⟩ hf
    grind
   ·have:=st.dp p z ⟨hpz,e⟩;omega
 |succ d ih=>
  intro z hz hf
  have f4:=st.f4 x z hf
  have p0:=(st.p0 z (by omega)).2
  cases hpz:g.par z with
  |none=>exact(p0 hpz).elim
  |some p=>
   by_cases e:g.par p=some z
   ·have:=st.cu x y z p hc ⟨hpz,e⟩ hf
    grind
   ·have hd:=st.dp p z ⟨hpz,e⟩
    have f:=(st.db z p (st.pr z p hpz)).1
    have f5:=st.f3 _ _ _ hf f
    have f6:=st.f4 x p f5
    obtain⟨i1,i2⟩:=ih p (by omega) f5
    obtain⟨j1,j2⟩:=rp.s3 p z (by omega) ⟨hpz,e⟩ i1
    exact⟨j1,by omega⟩
theorem Inv.coreRep{G:Gr}{s:St}{g:Gh}{h:Gs}(hI:Inv G s g h){x y w:Nat}{A B:List NMsg}(hq:s.q y x=A++report w::B)(hA:inits A=[])(hx:s.inn x=some y)(hf:s.fnd x=false):
 (w<s.bw x∧w<1001)∨(core g x y∧s.lev x=g.L x∧s.lev y=g.L y∧s.fnd y=false∧g.ph x=0∧h.Z x∧h.Z y∧h.be x=s.bw x∧h.be y=s.bw y∧w=s.bw y):=by
 have hm:report w∈kR s.q y x:=by simp only[kR,hq];simp[isRep]
 rcases hI.rp.r1 x y w hm with⟨a1,a2,a3,a4,a5,a6,a7,a8⟩|⟨a1,a2,a3,a4,a5,a6,a7⟩
 ·right
  obtain⟨b1,b2,b3,b4⟩:=hI.live hq hA a1 a2 a3 a8
  obtain⟨q0,st,rp,ts,bs,pa⟩:=hI
  have e:g.par x=some y:=by rw[←rp.si x b2 b1];exact hx
  exact⟨⟨e,a2⟩,b1,a3,a4,b2,rp.s2 x b2 b1 hf,rp.s2 y a1 a3 a4,rp.s13 x y ⟨e,a2⟩ b1 hf,a6,a5⟩
 ·exact Or.inl ⟨a4,a5⟩
theorem ev_over{G:Gr}{s:St}{g:Gh}{h:Gs}(hI:Inv G s g h){x y:Nat}{A B:List NMsg}(hq:s.q y x=A++report 1001::B)(hA:inits A=[])(hx:s.inn x=some y)(hf:s.fnd x=false)(hb:s.bw x=1001):
 Inv G { s with over:=upd s.over x true,q:=upd2 s.q y x (A++B)} g h:=by
 have hcr:=hI.coreRep hq hA hx hf
 have h0:=ev_repNo hI hq hx hf
 rcases hcr with⟨_,e⟩|⟨c1,c2,c3,c4,c5,c6,c7,c8,c9,c10⟩
 ·omega
 have hall:=all_settled hI (m:=1001) c1 c6 c7 (by omega) (by omega)
 obtain⟨q0,st,rp,ts,bs,pa⟩:=hI
 refine⟨h0.q0,h0.st,h0.rp,h0.ts,⟨h0.bs.bb,h0.bs.k1,h0.bs.k2,?_⟩,h0.pa⟩
 intro u hu z v hz ha
 simp only[upd]at hu
 by_cases e:u=x
 ·subst e
  apply Classical.byContradiction
  intro hn
  obtain⟨i1,i2⟩:=hall _ z (Nat.le_refl _) hz
  have f4:=st.f4 u z hz
  have:=rp.s9 z v (by omega) i1 ha hn
  have:=(G.w1 z v ha).2
  omega
 ·rw[if_neg e]at hu
  exact bs.ov u hu z v hz ha
open Classical in
theorem ev_decide{G:Gr}{s:St}{g:Gh}{h:Gs}(hI:Inv G s g h){x y w:Nat}{A B:List NMsg}(hq:s.q y x=A++report w::B)(hA:inits A=[])(hx:s.inn x=some y)(hf:s.fnd x=false)(hb:s.bw x<w):
 Inv G { s with q:=upd2 s.q y x (A++B)} { g with ph:=fun z=>if g.fr x z then 1 else g.ph z,W:=fun z=>if g.fr x z then s.bw x else g.W z,par:=upd g.par x none,dep:=fun z=>if z=x then 0 else g.dep z+1} { h with tk:=fun z=>z=x∨h.tk z}:=by
 have hcr:=hI.coreRep hq hA hx hf
 have hwm:w≤1001:=by
  have hm:report w∈kR s.q y x:=by simp only[kR,hq];simp[isRep]
  have:=hI.rp.bm y
  rcases hI.rp.r1 x y w hm with⟨_,_,_,_,a5,_⟩|⟨_,_,_,_,a5,_⟩<;>omega
 have h0:=ev_repNo hI hq hx hf
 obtain⟨X,h1,h2,h3,h4,h5,h6,A',B',h7,h8⟩:=kR_out hq
 rcases hcr with⟨_,e⟩|⟨c1,c2,c3,c4,c5,c6,c7,c8,c9,c10⟩
 ·omega
 have hall0:=all_settled hI (m:=s.bw x) c1 c6 c7 (by omega) (by omega)
 have hall:∀z,g.fr x z→h.Z z∧s.bw x≤h.be z:=fun z=>hall0 _ z (Nat.le_refl _)
 have hne:x≠y:=by
  have:=hI.q0 y x (report w) (by rw[hq];simp)
  rintro rfl;exact G.irr _ this.1
 have hk1:=kS_rem (q:=s.q) hq (show (isCon (report w)||isIni (report w))=false from rfl)
 have hk2:=kT_rem (q:=s.q) hq (show (isTest (report w)||isAns (report w))=false from rfl)
 have hk3:=kX_rem (q:=s.q) hq (show isRoot (report w)=false from rfl)
 have hX0:X.countP isRep=0:=by have:=hI.rp.r2 x y;omega
 have nr:=no_rep hX0
 obtain⟨q0,st,rp,ts,bs,pa⟩:=hI
 have nif:∀z,g.fr x z→s.fnd z=false:=fun z hz=>by
  cases e:s.fnd z
  ·rfl
  ·exact((rp.s1 z e).2.2 (hall z hz).1).elim
 have hfy:g.fr x y:=(st.db x y (st.pr x y c1.1)).1
 have hph:∀z,g.fr x z→g.ph z=0∧1≤g.L z∧g.par z≠none:=fun z hz=>by
  have f4:=st.f4 x z hz
  have:=st.p0 z (by omega)
  exact⟨by omega,this⟩
 have f2:=st.f2
 have f3:=st.f3
 have aw:∀z,g.fr x z→s.aw z=true:=fun z hz=>by
  cases e:s.aw z
  ·have:=(st.asl z e).2.1;have:=hph z hz;omega
  ·rfl
 refine⟨h0.q0,?_,?_,?_,?_,?_⟩
 ·rw[hk1]
  dsimp only
  refine⟨st.qa,st.sa,?_,st.f1,st.f2,st.f3,?_,st.f5,st.l1,st.l2,st.se2,st.se3,?_,?_,?_,?_,st.c1,?_,?_,?_,?_,?_,?_,?_,st.nm1,st.nm2,st.nm3,?_,st.sz,st.mst,st.oc⟩
  ·intro u hu
   have:=st.asl u hu
   have:¬g.fr x u:=fun e=>by rw[aw u e]at hu;cases hu
   simp only[upd];grind
  ·intro u v huv
   have:=st.f4 u v huv
   grind
  ·intro u v hd
   have:=st.db u v hd
   have:=st.pr
   simp only[upd]
   unfold core at c1
   grind
  ·intro u v hp
   simp only[upd]at hp
   have:=st.pr u v
   grind
  ·intro u v hh
   have:=st.hf u v hh
   have:=hph u
   simp only[upd];grind
  ·intro u v l hm
   have:=st.cn u v l hm
   have f4:=st.f4 x y hfy
   unfold core at *
   simp only[upd]
   refine⟨this.1,fun e=>?_,this.2.2⟩
   have h5:=this.2.1 e
   have cc:=st.cu u v x y
   unfold core at cc
   grind
  ·intro u v hc
   unfold core at *
   simp only[upd]at hc
   have hc':g.par u=some v∧g.par v=some u:=by grind
   have:=st.co u v hc'
   have cc:=st.cu u v x y hc' c1
   have:¬g.fr x u:=fun e=>by
    have:=cc (f2 _ _ e)
    grind
   grind
  ·intro u v a b hc1 hc2 hf
   unfold core at *
   simp only[upd]at hc1 hc2
   exact st.cu u v a b ⟨by grind,by grind⟩ ⟨by grind,by grind⟩ hf
  ·intro a b hk
   unfold kid at hk
   simp only[upd]at hk
   by_cases e:a=x∧b=y
   ·obtain⟨rfl,rfl⟩:=e
    have i1:inits (kS s.q a b)=[]:=by
     have:=st.co a b c1
     grind
    have i2:inits (kS s.q b a)=[]:=by
     have:=st.co b a ⟨c1.2,c1.1⟩
     grind
    rw[i1,i2]
    have f4:=st.f4 a b hfy
    have l2a:=st.l2 a c2 (hph a (st.f1 a)).2.1
    have l2b:=st.l2 b c3 (by have:=(hph a (st.f1 a)).2.1;omega)
    refine⟨rfl,?_⟩
    show (s.lev b,s.nam b)=(s.lev a,s.nam a)
    rw[l2a,l2b,c2,c3,f4.1,f4.2.1]
   ·refine st.ch a b ⟨by grind,?_⟩
    unfold core at c1
    grind
  ·intro a b l n f hm
   have:=st.i1 a b l n f hm
   have:b≠x:=by rintro rfl;exact st.noIni c2 hm
   simp only[upd];grind
  ·intro u v a1 a2 a3
   simp only[upd]at a1 a2
   have:=st.rt u v
   have b1:=hph u
   have b2:=hph v
   grind
  ·intro u hu
   have:=st.p0 u
   simp only[upd]
   have:=st.f1 x
   grind
  ·intro a b hk
   unfold kid at hk
   simp only[upd]at hk
   by_cases e:a=x
   ·subst e
    have:b≠a:=by grind
    simp[this]
   ·have:b≠x:=by grind
    simp only[if_neg e,if_neg this]
    have:=st.dp a b ⟨by grind,by grind⟩
    omega
  ·intro u z v a1 a2 a3 a4
   dsimp only at a1 a2 a4⊢
   have d1:=st.de u z v
   by_cases e:g.fr x u
   ·rw[if_pos e]
    have hz:=f3 _ _ _ e a2
    obtain⟨i1,i2⟩:=hall z hz
    have:=rp.s9 z v (hph z hz).1 i1 a3 a4
    omega
   ·rw[if_neg e]at a1⊢
    exact d1 a1 a2 a3 a4
 ·rw[h1]
  dsimp only
  have kk:∀a b,kid { g with ph:=fun z=>if g.fr x z then 1 else g.ph z,W:=fun z=>if g.fr x z then s.bw x else g.W z,par:=upd g.par x none,dep:=fun z=>if z=x then 0 else g.dep z+1} a b→¬g.fr x a→kid g a b:=by
   intro a b hk hn
   unfold kid at *
   simp only[upd]at hk
   have:=st.f1 x
   have hb:b≠x:=by grind
   grind
  have kf:∀a b,kid { g with ph:=fun z=>if g.fr x z then 1 else g.ph z,W:=fun z=>if g.fr x z then s.bw x else g.W z,par:=upd g.par x none,dep:=fun z=>if z=x then 0 else g.dep z+1} a b→g.fr a b:=by
   intro a b hk
   unfold kid at *
   simp only[upd]at hk
   have hb:b≠x:=by grind
   have:=(st.db b a (st.pr b a (by grind))).1
   exact f2 _ _ this
  refine⟨?_,?_,?_,?_,?_,?_,rp.s6,?_,?_,?_,?_,?_,?_,?_,rp.bm,fun u v hc=>rp.s15 u v (by unfold core at *;simp only[upd]at hc;grind)⟩
  ·intro u hu;have:=rp.s1 u hu;have:=nif u;grind
  ·intro u a1 a2 a3;have:=rp.s2 u;grind
  ·intro a b a1 a2 a3
   have hn:¬g.fr x a:=by grind
   exact rp.s3 a b (by grind) (kk a b a2 hn) a3
  ·intro a b a1 a2 a3 a4
   have hn:¬g.fr x a:=by grind
   exact rp.s14 a b (by grind) (kk a b a2 hn) a3 a4
  ·intro a b l n hm a1 a2;simp only[upd2]at hm;have:=rp.s4 a b l n;grind
  ·intro a b l n hm
   have hm':initiate l n true∈kR s.q a b:=by simp only[upd2]at hm;grind
   have:=rp.s5 a b l n hm'
   have i1:=hall b
   refine⟨by grind,this.2.1,this.2.2.1,fun hk=>?_⟩
   by_cases e:g.fr x a
   ·have:=kf a b hk
    have:=f3 _ _ _ e this
    grind
   ·exact this.2.2.2 (kk a b hk e)
  ·intro u v a1 a2 a3 a4;have:=rp.s9 u v;grind
  ·intro u a1 a2
   have:=rp.si u
   have:=st.f1 x
   simp only[upd];grind
  ·intro u v a1 a2 a3
   unfold core at a1
   simp only[upd]at a1
   exact rp.s13 u v ⟨by grind,by grind⟩ a2 a3
  ·intro a b w' hm
   simp only[upd2]at hm⊢
   by_cases e:b=y∧a=x
   ·rw[if_pos e]at hm;exact(nr _ hm).elim
   ·rw[if_neg e]at hm
    rw[if_neg e]
    rcases rp.r1 a b w' hm with⟨d1,d2,d3,d4,d5,d6,d7,d8⟩|⟨d1,d2,d3,d4,d5,d6,d7⟩
    ·have fba:=(st.db b a (st.pr b a d2)).1
     by_cases e2:g.fr x b
     ·-- of this fragment: it must be the other core report
      right
      have hfa:g.fr x a:=f3 _ _ _ e2 fba
      have hcore:g.par a=some b:=by
       apply Classical.byContradiction
       intro hn
       have:=d7 ⟨d2,hn⟩
       rw[nif a hfa]at this
       cases this
      have:=st.cu x y b a c1 ⟨d2,hcore⟩ e2
      have e3:b=x∧a=y:=by
       rcases this with⟨r1,r2⟩|⟨r1,r2⟩
       ·exact⟨r1.symm,r2.symm⟩
       ·exact(e ⟨r2.symm,r1.symm⟩).elim
      obtain⟨rfl,rfl⟩:=e3
      refine⟨?_,?_,c4,by omega,by omega,fun _=>⟨c2,d5,?_⟩,?_⟩
      ·unfold kid;simp only[upd]
       simp[hne.symm,hcore]
      ·have:=(hph a hfa).1
       rw[rp.si a this c3];exact hcore
      ·simp[hfa]
      ·intro A B hAB
       match hi:inits A with
       |[]=>rfl
       |(l,n,f)::t=>
        have hm2:initiate l n f∈kR s.q b a:=by
         rw[hAB]
         have:=(mem_inits A).1 (show (l,n,f)∈inits A by rw[hi];simp)
         simp[this]
        exact(st.noIni c3 (ini_RS.1 hm2)).elim
     ·left
      have hfa:¬g.fr x a:=fun e3=>e2 (f3 _ _ _ e3 (f2 _ _ fba))
      have hb:b≠x:=by rintro rfl;exact e2 (st.f1 b)
      refine⟨by rw[if_neg e2];exact d1,by simp only[upd,if_neg hb];exact d2,d3,d4,d5,d6,fun hk=>d7 (kk a b hk hfa),d8⟩
    ·right
     have ha:a≠x:=by
      rintro rfl
      have:b=y:=by have:=d1.1;rw[c1.1]at this;cases this;rfl
      subst this
      exact d1.2 c1.2
     refine⟨?_,d2,d3,d4,d5,fun e3=>?_,d7⟩
     ·unfold kid at *
      simp only[upd,if_neg ha]
      grind
     ·have:=d6 e3
      grind
  ·intro a b;simp only[upd2];split
   ·omega
   ·exact rp.r2 a b
  ·intro a b a1 a2 a3 a4
   have hn:¬g.fr x a:=fun e=>by rw[nif a e]at a1;cases a1
   simp only[upd2]at a4
   have:¬(b=y∧a=x):=by rintro⟨rfl,rfl⟩;exact hn (st.f1 _)
   rw[if_neg this]at a4
   exact rp.hd a b a1 (kk a b a2 hn) a3 a4
  ·intro a ha
   have hn:¬g.fr x a:=fun e=>by rw[nif a e]at ha;cases ha
   obtain⟨l,l1,l2,l3⟩:=rp.ct a ha
   refine⟨l,l1,l2,fun z=>?_⟩
   rw[l3 z]
   have:¬(z=y∧a=x):=by rintro⟨rfl,rfl⟩;exact hn (st.f1 _)
   simp only[upd2,if_neg this]
   have hax:a≠x:=by rintro rfl;exact hn (st.f1 _)
   have:kid { g with ph:=fun z=>if g.fr x z then 1 else g.ph z,W:=fun z=>if g.fr x z then s.bw x else g.W z,par:=upd g.par x none,dep:=fun z=>if z=x then 0 else g.dep z+1} a z↔kid g a z:=by
    constructor
    ·intro hk;exact kk a z hk hn
    ·intro hk
     unfold kid at *
     simp only[upd,if_neg hax]
     have:z≠x:=by
      rintro rfl
      have:=(st.db z a (st.pr z a hk.1)).1
      exact hn this
     rw[if_neg this];exact hk
   rw[this]
 ·rw[hk2];exact⟨ts.t0,ts.t1,ts.t2,ts.t3,ts.t4,ts.t5,ts.t6,ts.t7⟩
 ·rw[hk3]
  dsimp only
  refine⟨?_,?_,?_,bs.ov⟩
  ·intro z a1 a2 a3 a4
   dsimp only at a1 a2 a3
   have hb':g.ph z≤1:=by
    by_cases e:g.fr x z
    ·have:=(hph z e).1;omega
    ·rw[if_neg e]at a3;exact a3
   obtain⟨v',d1,d2,d3⟩:=bs.bb z a1 a2 hb' a4
   refine⟨v',d1,d2,?_⟩
   rcases d3 with d3|d3|d3
   ·exact Or.inl d3
   ·exact Or.inr (Or.inl d3)
   ·right;right
    refine⟨?_,d3.2⟩
    have hk:=d3.1
    unfold kid at *
    have hv:v'≠x:=by
     rintro rfl
     have:z=y:=by have:=hk.1;rw[c1.1]at this;cases this;rfl
     subst this
     exact hk.2 c1.2
    simp only[upd,if_neg hv]
    grind
  ·intro u hu
   rcases hu with rfl|hu
   ·refine⟨aw u (st.f1 u),by simp[st.f1 u],by simp[upd],c2,fun _=>⟨by simp[st.f1 u],by omega⟩,fun v hm=>?_⟩
    have:=(bs.k2 u v hm).1
    omega
   ·have h9:=bs.k1 u hu
    have hn:¬g.fr x u:=fun e=>by have:=(hph u e).1;omega
    have hux:u≠x:=by rintro rfl;exact hn (st.f1 _)
    simp only[upd,if_neg hux,if_neg hn]
    exact h9
  ·intro z c hr
   have h9:=bs.k2 z c hr
   have fzc:=(st.db c z (st.pr c z h9.2.2.2.1.1)).1
   have hn:¬g.fr x z:=fun e=>by have:=(hph z e).1;omega
   have hnc:¬g.fr x c:=fun e=>hn (f3 _ _ _ e fzc)
   have hzx:z≠x:=by rintro rfl;exact hn (st.f1 _)
   have hcx:c≠x:=by rintro rfl;exact hnc (st.f1 _)
   unfold kid at *
   simp only[upd,if_neg hzx,if_neg hn,if_neg hcx,if_neg hnc]
   exact h9
 ·rw[hk3]
  dsimp only
  have np:∀z,g.fr x z→¬h.ps z:=fun z hz e=>by have:=pa.p1 z e;have:=(hph z hz).1;omega
  refine⟨?_,?_,?_,?_⟩
  ·intro z hz
   have:=pa.p1 z hz
   have:=np z
   dsimp only;grind
  ·intro z v a1 a2 a3 a4
   dsimp only at a2 a3
   by_cases e:g.fr x z
   ·have fz:g.fr z v:=by
     unfold kid at a4
     simp only[upd]at a4
     have hv:v≠x:=by grind
     have:=(st.db v z (st.pr v z (by grind))).1
     exact f2 _ _ this
    exact np v (f3 _ _ _ e fz)
   ·have hzx:z≠x:=by rintro rfl;exact e (st.f1 _)
    rw[if_neg e]at a2
    rw[upd_ne _ _ hzx]at a3
    refine pa.u1 z v a1 a2 a3 ?_
    unfold kid at *
    simp only[upd]at a4
    have hv:v≠x:=by grind
    grind
  ·intro u hu
   dsimp only
   rcases hu with rfl|hu
   ·refine⟨by simp[st.f1 u],np u (st.f1 u),fun v _ hk=>np v ?_⟩
    unfold kid at hk
    simp only[upd]at hk
    have hv:v≠u:=by grind
    exact f2 _ _ (st.db v u (st.pr v u (by grind))).1
   ·have h9:=pa.k3 u hu
    have hn:¬g.fr x u:=fun e=>by have:=(hph u e).1;omega
    have hux:u≠x:=by rintro rfl;exact hn (st.f1 _)
    refine⟨by rw[if_neg hn];exact h9.1,h9.2.1,fun v hv hk=>h9.2.2 v hv ?_⟩
    unfold kid at *
    simp only[upd]at hk
    grind
  ·intro z c hr
   have h9:=pa.k4 z c hr
   have hn:¬g.fr x z:=fun e=>by have:=(hph z e).1;omega
   dsimp only
   rw[if_neg hn]
   exact h9
theorem kX_upd(q:Nat→Nat→List NMsg)(a b:Nat)(l:List NMsg):kX (upd2 q a b l)=upd2 (kX q) a b (l.filter isRoot):=by
 funext u v;simp only[kX,upd2];split<;>rfl
theorem ev_rootSend{G:Gr}{s:St}{g:Gh}{h:Gs}(hI:Inv G s g h){u c:Nat}(ht:h.tk u)(hb:s.best u=some c)(hs:s.se u c=1):
 Inv G { s with q:=addq s.q u c root} g { h with tk:=fun z=>z≠u∧h.tk z}:=by
 obtain⟨q0,st,rp,ts,bs,pa⟩:=hI
 obtain⟨k1,k2,k3,k4,k5,k6⟩:=bs.k1 u ht
 obtain⟨p1,p2,p3⟩:=pa.k3 u ht
 have hadj:=(st.sa u c (by omega)).1
 have hL:1≤g.L u:=by
  by_cases e:g.L u=0
  ·by_cases e2:s.se c u=1
   ·have:=(st.db u c ⟨hs,e2⟩).1
    have:=st.f5 u c e this
    subst this
    exact(G.irr _ hadj).elim
   ·have:=(st.hf u c ⟨hs,e2⟩).1;omega
  ·omega
 obtain⟨k7,k8⟩:=k5 hL
 obtain⟨v,d1,d2,d3⟩:=bs.bb u hL k4 (by omega) k8
 have hv:v=c:=by rw[hb]at d1;cases d1;rfl
 subst hv
 have hk:kid g u v∧s.lev v=g.L v∧s.fnd v=false∧s.bw v=s.bw u:=by
  rcases d3 with d3|d3|d3
  ·exact(p2 d3).elim
  ·omega
  ·exact d3
 obtain⟨m1,m2,m3,m4⟩:=hk
 have f:=(st.db v u (st.pr v u m1.1)).1
 have f4:=st.f4 v u f
 have e1:kX (addq s.q u v root)=upd2 (kX s.q) u v (kX s.q u v++[root]):=by
  unfold addq;rw[kX_upd];congr 1;simp[kX,isRoot]
 have c0:(kX s.q u v).countP isRoot=0:=List.countP_eq_zero.2 fun m hm=>by
  cases m<;>simp[isRoot]
  exact k6 v hm
 refine⟨q0_add q0 hadj k1,?_,?_,?_,?_,?_⟩
 ·rw[kS_add rfl];exact st
 ·rw[kR_add rfl];exact rp
 ·rw[kT_add rfl];exact ts
 ·rw[e1]
  refine⟨bs.bb,?_,?_,bs.ov⟩
  ·intro z hz
   have h9:=bs.k1 z hz.2
   refine⟨h9.1,h9.2.1,h9.2.2.1,h9.2.2.2.1,h9.2.2.2.2.1,fun v' hm=>?_⟩
   simp only[upd2]at hm
   have:=h9.2.2.2.2.2 v'
   grind
  ·intro z c hm
   simp only[upd2]at hm⊢
   by_cases e:z=u∧c=v
   ·obtain⟨rfl,rfl⟩:=e
    refine⟨k2,k3,hb,m1,m2,by omega,by omega,?_⟩
    simp only[and_self,if_true,List.countP_append,c0]
    rfl
   ·rw[if_neg e]at hm
    rw[if_neg e]
    exact bs.k2 z c hm
 ·rw[e1]
  refine⟨pa.p1,pa.u1,fun z hz=>pa.k3 z hz.2,?_⟩
  intro z c hm
  simp only[upd2]at hm
  by_cases e:z=u∧c=v
  ·obtain⟨rfl,rfl⟩:=e
   exact⟨k2,p3 c hb m1,m4.symm⟩
  ·rw[if_neg e]at hm
   exact pa.k4 z c hm
theorem ev_rootRecv{G:Gr}{s:St}{g:Gh}{h:Gs}(hI:Inv G s g h){y c:Nat}{A B:List NMsg}(hq:s.q y c=A++root::B):
 Inv G { s with q:=upd2 s.q y c (A++B)} { g with par:=upd (upd g.par y (some c)) c none,dep:=fun z=>if z=c then 0 else g.dep z+1} { h with tk:=fun z=>z=c∨h.tk z,ps:=fun z=>z=y∨h.ps z}:=by
 obtain⟨q0,st,rp,ts,bs,pa⟩:=hI
 have hm:root∈kX s.q y c:=by simp only[kX,hq];simp[isRoot]
 obtain⟨k1,k2,k3,k4,k5,k6,k7,k8⟩:=bs.k2 y c hm
 obtain⟨p1,p2,p3⟩:=pa.k4 y c hm
 have e1:kX (upd2 s.q y c (A++B))=upd2 (kX s.q) y c ((A++B).filter isRoot):=kX_upd _ _ _ _
 have c0:((A++B).filter isRoot).countP isRoot=0:=by
  simp only[kX,hq,List.filter_append,List.countP_append,List.filter_cons,isRoot,if_true,List.countP_cons]at k8
  simp only[List.filter_append,List.countP_append]
  omega
 have nr:root∉(A++B).filter isRoot:=fun hm=>by have:=cnt0 c0 _ hm;simp[isRoot]at this
 have hd:=st.pr c y k4.1
 have fcy:=(st.db c y hd).1
 have f4:=st.f4 c y fcy
 have f2:=st.f2
 have f3:=st.f3
 have hyc:y≠c:=by rintro rfl;exact k4.2 k4.1
 have hpc:=k4.1
 have ph1:∀z,g.fr y z→g.ph z=1:=fun z hz=>by have:=st.f4 y z hz;omega
 have nocore:∀a b,core g a b→a≠y∧a≠c∧b≠y∧b≠c:=fun a b hc=>by
  have h0:=(st.co a b hc).1
  have h1:=(st.co b a ⟨hc.2,hc.1⟩).1
  refine⟨?_,?_,?_,?_⟩<;>rintro rfl<;>omega
 have hupc:=st.up k4 k5
 refine⟨q0_rem q0 hq,?_,?_,?_,?_,?_⟩
 ·rw[kS_rem hq rfl]
  refine⟨st.qa,st.sa,?_,st.f1,st.f2,st.f3,st.f4,st.f5,st.l1,st.l2,st.se2,st.se3,?_,?_,?_,?_,st.c1,?_,?_,?_,?_,?_,?_,?_,st.nm1,st.nm2,st.nm3,st.de,st.sz,st.mst,st.oc⟩
  ·intro u hu
   have:=st.asl u hu
   simp only[upd];grind
  ·intro u v hd
   have:=st.db u v hd
   simp only[upd];grind
  ·intro u v hp
   simp only[upd]at hp
   have:=st.pr u v
   unfold dbl at *
   grind
  ·intro u v hh
   have:=st.hf u v hh
   have:u≠y:=by rintro rfl;omega
   simp only[upd];grind
  ·intro u v l hm
   have h9:=st.cn u v l hm
   refine⟨h9.1,fun e=>?_,h9.2.2⟩
   have h8:=h9.2.1 e
   have:=nocore u v h8.1
   unfold core at *
   simp only[upd];grind
  ·intro u v hc
   unfold core at hc
   simp only[upd]at hc
   have hc':core g u v:=by unfold core;grind
   exact st.co u v hc'
  ·intro u v a b hc1 hc2 hf
   unfold core at hc1 hc2
   simp only[upd]at hc1 hc2
   exact st.cu u v a b (by unfold core;grind) (by unfold core;grind) hf
  ·intro a b hk
   unfold kid at hk
   simp only[upd]at hk
   by_cases e:b=y
   ·subst e
    have ha:a=c:=by grind
    subst ha
    obtain⟨i1,i2⟩:=st.ch b a k4
    rw[hupc.1]at i2⊢
    rw[i1]
    refine⟨rfl,?_⟩
    have:(s.lev a,s.nam a)=(s.lev b,s.nam b):=i2
    show (s.lev b,s.nam b)=(s.lev a,s.nam a)
    exact this.symm
   ·exact st.ch a b ⟨by grind,by grind⟩
  ·intro a b l n f hm2
   have:=st.i1 a b l n f hm2
   have:b≠c:=fun e=>st.noIni k5 (by rw[e]at hm2;exact hm2)
   simp only[upd];grind
  ·intro u v a1 a2 a3
   simp only[upd]at a1 a2
   have r1:=st.rt u v
   have r2:=st.rt u y
   have r3:=st.rt v y
   grind
  ·intro u hu
   have:=st.p0 u hu
   have:u≠c:=by rintro rfl;have:=ph1 u (f2 _ _ fcy);dsimp only at hu;omega
   simp only[upd];grind
  ·intro a b hk
   unfold kid at hk
   simp only[upd]at hk
   dsimp only
   have hb:b≠c:=by grind
   rw[if_neg hb]
   by_cases e:a=c
   ·simp[e]
   ·rw[if_neg e]
    have:=st.dp a b ⟨by grind,by grind⟩
    omega
 ·rw[kR_rem hq rfl]
  have kk:∀a b,kid { g with par:=upd (upd g.par y (some c)) c none,dep:=fun z=>if z=c then 0 else g.dep z+1} a b→g.ph a=0→kid g a b:=by
   intro a b hk hp
   unfold kid at *
   simp only[upd]at hk
   have:a≠c:=by rintro rfl;have:=ph1 a (f2 _ _ fcy);omega
   have:a≠y:=by rintro rfl;omega
   grind
  have kk2:∀a b,kid g a b→g.ph a=0→kid { g with par:=upd (upd g.par y (some c)) c none,dep:=fun z=>if z=c then 0 else g.dep z+1} a b:=by
   intro a b hk hp
   have f:=(st.db b a (st.pr b a hk.1)).1
   have f4:=st.f4 b a f
   unfold kid at *
   simp only[upd]
   have:a≠c:=by rintro rfl;have:=ph1 a (f2 _ _ fcy);omega
   have:a≠y:=by rintro rfl;omega
   have:b≠c:=by rintro rfl;have:=ph1 b (f2 _ _ fcy);omega
   have:b≠y:=by rintro rfl;omega
   grind
  refine⟨rp.s1,rp.s2,fun a b a1 a2 a3=>rp.s3 a b a1 (kk a b a2 a1) a3,fun a b a1 a2=>rp.s14 a b a1 (kk a b a2 a1),rp.s4,?_,rp.s6,rp.s9,?_,?_,?_,rp.r2,fun a b a1 a2=>rp.hd a b a1 (kk a b a2 (rp.s1 a a1).1),?_,rp.bm,fun u v hc=>rp.s15 u v (by unfold core at *;simp only[upd]at hc;grind)⟩
  ·intro a b l n hm
   have h9:=rp.s5 a b l n hm
   refine⟨h9.1,h9.2.1,h9.2.2.1,fun hk=>h9.2.2.2 ?_⟩
   have:g.par b=some a:=(st.i1 a b l n true (ini_RS.1 hm)).1
   have f:=(st.db b a (st.pr b a this)).1
   have f4:=st.f4 b a f
   exact kk a b hk (by omega)
  ·intro u a1 a2
   have:=rp.si u a1 a2
   have:u≠c:=by rintro rfl;have:=ph1 u (f2 _ _ fcy);dsimp only at a1;omega
   have:u≠y:=by rintro rfl;dsimp only at a1;omega
   simp only[upd];grind
  ·intro u v hc a2 a3
   unfold core at hc
   simp only[upd]at hc
   exact rp.s13 u v (by unfold core;grind) a2 a3
  ·intro a b w hm
   rcases rp.r1 a b w hm with⟨d1,d2,d3,d4,d5,d6,d7,d8⟩|⟨d1,d2,d3,d4,d5,d6,d7⟩
   ·left
    have f:=(st.db b a (st.pr b a d2)).1
    have f4:=st.f4 b a f
    have:b≠c:=by rintro rfl;have:=ph1 b (f2 _ _ fcy);omega
    have:b≠y:=by rintro rfl;omega
    refine⟨d1,by simp only[upd];grind,d3,d4,d5,d6,fun hk=>d7 (kk a b hk (by omega)),d8⟩
   ·right
    refine⟨?_,d2,d3,d4,d5,d6,d7⟩
    have hac:a≠c:=by
     rintro rfl
     have:b=y:=by have:=d1.1;rw[hpc]at this;cases this;rfl
     subst this
     have:=d6 k5
     omega
    have hay:a≠y:=by rintro rfl;have:=d1.1;rw[k2]at this;cases this
    unfold kid at *
    simp only[upd];grind
  ·intro a ha
   have hp:=(rp.s1 a ha).1
   obtain⟨l,l1,l2,l3⟩:=rp.ct a ha
   refine⟨l,l1,l2,fun z=>?_⟩
   rw[l3 z]
   have:kid { g with par:=upd (upd g.par y (some c)) c none,dep:=fun z=>if z=c then 0 else g.dep z+1} a z↔kid g a z:=⟨fun hk=>kk a z hk hp,fun hk=>kk2 a z hk hp⟩
   rw[this]
 ·rw[kT_rem hq rfl];exact⟨ts.t0,ts.t1,ts.t2,ts.t3,ts.t4,ts.t5,ts.t6,ts.t7⟩
 ·rw[e1]
  refine⟨?_,?_,?_,bs.ov⟩
  ·intro z a1 a2 a3 a4
   obtain⟨v',d1,d2,d3⟩:=bs.bb z a1 a2 a3 a4
   refine⟨v',d1,d2,?_⟩
   by_cases e:z=y
   ·exact Or.inl (Or.inl e)
   ·rcases d3 with d3|d3|d3
    ·exact Or.inl (Or.inr d3)
    ·exact Or.inr (Or.inl d3)
    ·right;right
     refine⟨?_,d3.2⟩
     have hk:=d3.1
     unfold kid at *
     have:v'≠c:=by rintro rfl;rw[hpc]at hk;grind
     have:v'≠y:=by rintro rfl;rw[k2]at hk;grind
     simp only[upd];grind
  ·intro u hu
   rcases hu with rfl|hu
   ·refine⟨(st.sa u y (by unfold dbl at hd;omega)).2,by dsimp only;omega,by simp[upd],k5,fun _=>⟨k6,k7⟩,fun v hm=>?_⟩
    simp only[upd2]at hm
    have:=(bs.k2 u v)
    grind
   ·have h9:=bs.k1 u hu
    have:u≠y:=by rintro rfl;exact(h9.2.2.2.2.2 c) hm
    have:u≠c:=by rintro rfl;rw[hpc]at h9;grind
    refine⟨h9.1,h9.2.1,by simp only[upd];grind,h9.2.2.2.1,h9.2.2.2.2.1,fun v hm2=>?_⟩
    simp only[upd2]at hm2
    have:=h9.2.2.2.2.2 v
    grind
  ·intro z c' hr
   simp only[upd2]at hr
   by_cases e:z=y∧c'=c
   ·rw[if_pos e]at hr;exact(nr hr).elim
   ·rw[if_neg e]at hr
    have h9:=bs.k2 z c' hr
    have hz:z≠y:=by rintro rfl;rw[k3]at h9;grind
    have hzc:z≠c:=by rintro rfl;rw[hpc]at h9;grind
    have hc1:c'≠c:=by rintro rfl;have:=h9.2.2.2.1.1;rw[hpc]at this;grind
    have hc2:c'≠y:=by rintro rfl;have:=h9.2.2.2.1.1;rw[k2]at this;cases this
    unfold kid at *
    simp only[upd,upd2,if_neg hz,if_neg hzc,if_neg hc1,if_neg hc2]
    grind
 ·rw[e1]
  refine⟨?_,?_,?_,?_⟩
  ·intro z hz;have:=pa.p1 z;grind
  ·intro z v a1 a2 a3 a4
   unfold kid at a4
   simp only[upd]at a3 a4
   have:=pa.u1 z v
   unfold kid at this
   grind
  ·intro u hu
   rcases hu with rfl|hu
   ·refine⟨by dsimp only;omega,by grind,fun v hb hk=>?_⟩
    obtain⟨v2,d1,d2,d3⟩:=bs.bb u (by
     have:=st.f5 u y
     by_cases e:g.L u=0
     ·have:=this e fcy;exact(hyc this.symm).elim
     ·omega) k5 (by omega) k7
    have hv:v=v2:=by rw[hb]at d1;cases d1;rfl
    subst hv
    have hvy:v≠y:=by
     rintro rfl
     unfold dbl at hd
     rcases d3 with d3|d3|d3
     ·exact p2 d3
     ·omega
     ·have:=d3.1.1;rw[k2]at this;cases this
    have hk2:kid g u v:=by
     unfold kid at *
     simp only[upd]at hk
     have:v≠u:=by rintro rfl;exact G.irr _ d2
     refine⟨by grind,by rw[hpc];grind⟩
    have:=pa.u1 u v p2 (by omega) (by rw[hpc];simp) hk2
    grind
   ·have h9:=pa.k3 u hu
    have h8:=bs.k1 u hu
    have hy:u≠y:=by rintro rfl;exact(h8.2.2.2.2.2 c) hm
    have hc:u≠c:=by rintro rfl;rw[hpc]at h8;grind
    refine⟨h9.1,by grind,fun v hv hk=>?_⟩
    have hvy:v≠y:=by
     unfold kid at hk
     simp only[upd]at hk
     grind
    have:=h9.2.2 v hv (by unfold kid at *;simp only[upd]at hk;grind)
    grind
  ·intro z c' hr
   simp only[upd2]at hr
   by_cases e:z=y∧c'=c
   ·rw[if_pos e]at hr;exact(nr hr).elim
   ·rw[if_neg e]at hr
    have h9:=pa.k4 z c' hr
    have h8:=bs.k2 z c' hr
    have hc2:c'≠y:=by rintro rfl;have:=h8.2.2.2.1.1;rw[k2]at this;cases this
    exact⟨h9.1,by grind,h9.2.2⟩
theorem kS_upd(q:Nat→Nat→List NMsg)(a b:Nat)(l:List NMsg):kS (upd2 q a b l)=upd2 (kS q) a b (l.filter (fun m=>isCon m||isIni m)):=by
 funext u v;simp only[kS,upd2];split<;>rfl
theorem kS_addT{q:Nat→Nat→List NMsg}{a b:Nat}{m:NMsg}(hp:(isCon m||isIni m)=true):kS (addq q a b m)=upd2 (kS q) a b (kS q a b++[m]):=by
 unfold addq;rw[kS_upd];congr 1;simp[kS,hp]
theorem Str.cutEdge{G:Gr}{aw:Nat→Bool}{lev nam:Nat→Nat}{se:Nat→Nat→Nat}{k:Nat→Nat→List NMsg}{g:Gh}(h:Str G aw lev nam se k g){u v:Nat}(ha:G.adj u v)(hp:g.ph u≠0)(hw:G.w u v=g.W u)(hf:¬g.fr u v):G.mst u v:=by
 refine G.cut (g.fr u) u v ha (h.f1 u) hf ?_
 intro x y hxy hx hy
 have:=h.de u x y hp hx hxy (fun e=>hy (h.f3 _ _ _ hx e))
 omega
open Classical in
theorem ev_conn{G:Gr}{s:St}{g:Gh}{h:Gs}(hI:Inv G s g h){u v:Nat}(ht:h.tk u)(ha:G.adj u v)(h0:s.se u v=0)(h1:s.se v u≠1)(hw:G.w u v=g.W u)(hf:¬g.fr u v)(hl:g.L u≤s.lev v):
 Inv G { s with se:=upd2 s.se u v 1,q:=addq s.q u v (connect (s.lev u))} { g with ph:=fun z=>if g.fr u z then 2 else g.ph z} { h with tk:=fun z=>z≠u∧h.tk z,ps:=fun z=>h.ps z∧¬g.fr u z}:=by
 have hrp:=root_ph hI
 obtain⟨q0,st,rp,ts,bs,pa⟩:=hI
 obtain⟨k1,k2,k3,k4,k5,k6⟩:=bs.k1 u ht
 have hm:=st.cutEdge ha (by omega) hw hf
 have ph1:∀z,g.fr u z→g.ph z=1:=fun z hz=>by have:=st.f4 u z hz;omega
 have f2:=st.f2
 have f3:=st.f3
 have huv:u≠v:=by rintro rfl;exact G.irr _ ha
 have nc:∀l,connect l∉kS s.q u v:=fun l hm=>by have:=(st.cn u v l hm).1;omega
 have ni:∀l n f,initiate l n f∉kS s.q u v:=fun l n f hm=>by
  have hp:=(st.i1 u v l n f hm).1
  exact hf (f2 _ _ (st.db v u (st.pr v u hp)).1)
 have nfu:s.fnd u=false:=by
  cases e:s.fnd u
  ·rfl
  ·have:=(rp.s1 u e).1;omega
 have hd:∀a b,dbl (upd2 s.se u v 1) a b↔dbl s.se a b:=by intro a b;simp only[dbl,upd2];grind
 have hmono:∀a b,s.se a b=1→upd2 s.se u v 1 a b=1:=by intro a b;simp only[upd2];grind
 have roots:∀z,g.par z=none→g.fr u z→z=u:=fun z hz e=>(st.rt u z k3 hz e).symm
 refine⟨q0_add q0 ha k1,?_,?_,?_,?_,?_⟩
 ·rw[kS_addT rfl]
  have ei:∀a b,inits (upd2 (kS s.q) u v (kS s.q u v++[connect (s.lev u)]) a b)=inits (kS s.q a b):=by
   intro a b;simp only[upd2];split
   ·rename_i e;rw[e.1,e.2,inits_app];simp[inits]
   ·rfl
  have em:∀a b l n f,initiate l n f∈upd2 (kS s.q) u v (kS s.q u v++[connect (s.lev u)]) a b↔initiate l n f∈kS s.q a b:=by
   intro a b l n f;rw[←mem_inits,ei,mem_inits]
  have ec:∀a b l,connect l∈upd2 (kS s.q) u v (kS s.q u v++[connect (s.lev u)]) a b↔(connect l∈kS s.q a b∨(a=u∧b=v∧l=s.lev u)):=by
   intro a b l;simp only[upd2];split
   ·rename_i e;rw[e.1,e.2];simp
   ·rename_i e;grind
  refine⟨?_,?_,?_,st.f1,st.f2,st.f3,?_,st.f5,st.l1,st.l2,?_,?_,?_,?_,?_,?_,?_,?_,st.cu,?_,?_,st.rt,?_,st.dp,?_,?_,?_,?_,st.sz,?_,?_⟩
  ·intro a b m hm;simp only[upd2]at hm;have:=st.qa a b m;grind
  ·intro a b;simp only[upd2];have:=st.sa a b;grind
  ·intro z hz
   have:=st.asl z hz
   have:¬g.fr u z:=fun e=>by have:=ph1 z e;omega
   dsimp only;grind
  ·intro a b hab;have:=st.f4 a b hab;dsimp only;grind
  ·intro a b;simp only[upd2];have:=st.se2 a b;grind
  ·intro a b;simp only[upd2];have:=st.se3 a b;grind
  ·intro a b;rw[hd];exact st.db a b
  ·intro a b hp;rw[hd];exact st.pr a b hp
  ·intro a b hh
   by_cases e:a=u∧b=v
   ·obtain⟨rfl,rfl⟩:=e
    refine⟨by simp[st.f1 a],k3,hf,?_,hw,hl,k4⟩
    rw[ec];right;exact⟨rfl,rfl,k4.symm⟩
   ·have hh':half s.se a b:=by unfold half at *;simp only[upd2]at hh;grind
    have h9:=st.hf a b hh'
    have:¬g.fr u a:=fun e=>by have:=ph1 a e;omega
    refine⟨by dsimp only;grind,h9.2.1,h9.2.2.1,?_,h9.2.2.2.2⟩
    rw[ec];exact Or.inl h9.2.2.2.1
  ·intro a b l hm
   rw[ec]at hm
   rcases hm with hm|⟨rfl,rfl,rfl⟩
   ·have h9:=st.cn a b l hm
    refine⟨hmono _ _ h9.1,?_,?_⟩
    ·intro e
     simp only[upd2]at e
     refine h9.2.1 ?_
     by_cases e2:b=u∧a=v
     ·obtain⟨rfl,rfl⟩:=e2;exact(h1 h9.1).elim
     ·rw[if_neg e2]at e;exact e
    ·intro e
     exact h9.2.2 (fun e2=>e (hmono _ _ e2))
   ·refine⟨by simp[upd2],fun e=>?_,fun _=>k4⟩
    simp only[upd2]at e
    rw[if_neg (by grind)]at e
    exact(h1 e).elim
  ·intro a b;simp only[upd2];split
   ·rw[List.countP_append]
    have:(kS s.q u v).countP isCon=0:=List.countP_eq_zero.2 fun m hm=>by cases m<;>simp[isCon];exact nc _ hm
    rw[this];simp[isCon]
   ·exact st.c1 a b
  ·intro a b hc
   have h9:=st.co a b hc
   have hn:¬g.fr u a:=fun e=>by have:=ph1 a e;omega
   rw[ei]
   have nn:¬(b=u∧a=v):=by
    rintro⟨rfl,rfl⟩
    exact hf (st.db _ _ (st.pr _ _ hc.2)).1
   refine⟨by dsimp only;rw[if_neg hn];exact h9.1,h9.2.1,?_⟩
   simp only[ec]
   rcases h9.2.2 with h8|h8|h8
   ·exact Or.inl ⟨h8.1,h8.2.1,by grind⟩
   ·exact Or.inr (Or.inl ⟨h8.1,h8.2.1,by grind⟩)
   ·exact Or.inr (Or.inr ⟨h8.1,h8.2.1,Or.inl h8.2.2⟩)
  ·intro a b hk;rw[ei,ei];exact st.ch a b hk
  ·intro a b l n f hm;rw[em]at hm;exact st.i1 a b l n f hm
  ·intro z hz
   dsimp only at hz
   refine st.p0 z ?_
   grind
  ·intro z hz;simp only[hd];exact st.nm1 z hz
  ·intro a b l n f hm;rw[em]at hm;simp only[hd];exact st.nm2 a b l n f hm
  ·intro z hz;simp only[hd];exact st.nm3 z hz
  ·intro a z b a1 a2 a3 a4
   dsimp only at a1⊢
   refine st.de a z b ?_ a2 a3 a4
   intro e
   by_cases e2:g.fr u a
   ·have:=ph1 a e2;omega
   ·rw[if_neg e2]at a1;exact a1 e
  ·intro a b e
   simp only[upd2]at e
   by_cases e2:a=u∧b=v
   ·obtain⟨rfl,rfl⟩:=e2;exact Or.inl hm
   ·rw[if_neg e2]at e;exact st.mst a b e
  ·intro a b A B l n f hAB l'
   simp only[upd2]at hAB
   by_cases e:a=u∧b=v
   ·rw[if_pos e]at hAB
    exfalso
    have:initiate l n f∈kS s.q u v++[connect (s.lev u)]:=by rw[hAB];simp
    simp at this
    exact ni _ _ _ this
   ·rw[if_neg e]at hAB
    exact st.oc a b A B l n f hAB l'
 ·rw[kR_add rfl]
  refine⟨?_,?_,?_,?_,?_,?_,rp.s6,?_,?_,rp.s13,?_,rp.r2,rp.hd,rp.ct,rp.bm,rp.s15⟩
  ·intro z hz;have:=rp.s1 z hz;have:=ph1 z;dsimp only;grind
  ·intro z a1;have:=rp.s2 z;dsimp only at a1⊢;grind
  ·intro a b a1 a2 a3;exact rp.s3 a b (by dsimp only at a1;grind) a2 a3
  ·intro a b a1 a2 a3 a4;exact rp.s14 a b (by dsimp only at a1;grind) a2 a3 a4
  ·intro a b l n hm a1;have:=rp.s4 a b l n hm;dsimp only at a1⊢;grind
  ·intro a b l n hm
   have h9:=rp.s5 a b l n hm
   have:=ph1 b
   exact⟨by dsimp only;grind,h9.2.1,h9.2.2.1,h9.2.2.2⟩
  ·intro a b a1;have:=rp.s9 a b;dsimp only at a1⊢;grind
  ·intro a a1;have:=rp.si a;dsimp only at a1⊢;grind
  ·intro a b w hm
   rcases rp.r1 a b w hm with⟨d1,d2,d3,d4,d5,d6,d7,d8⟩|⟨d1,d2,d3,d4,d5,d6,d7⟩
   ·left
    have:=ph1 b
    refine⟨by dsimp only;grind,d2,d3,d4,d5,d6,d7,d8⟩
   ·right
    refine⟨d1,d2,d3,d4,d5,fun e=>?_,d7⟩
    have:=d6 e
    dsimp only;grind
 ·rw[kT_add rfl]
  have htu:=(ts.t0 u nfu).1
  refine⟨ts.t0,?_,?_,ts.t3,?_,ts.t5,?_,ts.t7⟩
  ·intro y x hx
   have:=ts.t1 y x hx
   have:=hmono y x
   have:=hmono x y
   have h9:¬(y=u∧x=v)→upd2 s.se u v 1 y x=s.se y x:=fun e=>by simp only[upd2,if_neg e]
   have h8:∀z,G.adj y z→upd2 s.se u v 1 y z=0→s.se y z=0:=fun z _=>by simp only[upd2];grind
   grind
  ·intro y x a1 a2 a3 a4 a5;simp only[upd2]at a5;have:=ts.t2 y x;grind
  ·intro y x l n hm;have:=ts.t4 y x l n hm;simp only[upd2];grind
  ·intro y x hm;have:=ts.t6 y x hm;simp only[upd2];grind
 ·rw[kX_add rfl]
  refine⟨?_,?_,?_,bs.ov⟩
  ·intro z a1 a2 a3 a4
   dsimp only at a3
   have hn:¬g.fr u z:=by grind
   have hzu:z≠u:=by rintro rfl;exact hn (st.f1 _)
   rw[if_neg hn]at a3
   obtain⟨v',d1,d2,d3⟩:=bs.bb z a1 a2 a3 a4
   refine⟨v',d1,d2,?_⟩
   rcases d3 with d3|d3|d3
   ·exact Or.inl ⟨d3,hn⟩
   ·refine Or.inr (Or.inl ⟨?_,d3.2⟩)
    simp only[upd2];grind
   ·exact Or.inr (Or.inr d3)
  ·intro z hz
   have h9:=bs.k1 z hz.2
   have hn:¬g.fr u z:=fun e=>hz.1 (roots z h9.2.2.1 e)
   exact⟨h9.1,by dsimp only;rw[if_neg hn];exact h9.2.1,h9.2.2⟩
  ·intro z c hr
   have h9:=bs.k2 z c hr
   have hn:¬g.fr u z:=fun e=>by
    have:=roots z h9.2.1 e
    subst this
    exact k6 c hr
   exact⟨by dsimp only;rw[if_neg hn];exact h9.1,h9.2⟩
 ·rw[kX_add rfl]
  refine⟨?_,?_,?_,?_⟩
  ·intro z hz;have:=pa.p1 z hz.1;dsimp only;grind
  ·intro z b a1 a2 a3 a4
   dsimp only at a2
   have hn:¬g.fr u z:=by grind
   rw[if_neg hn]at a2
   have:=pa.u1 z b (by grind) a2 a3 a4
   grind
  ·intro z hz
   have h9:=pa.k3 z hz.2
   have h8:=bs.k1 z hz.2
   have hn:¬g.fr u z:=fun e=>hz.1 (roots z h8.2.2.1 e)
   refine⟨by dsimp only;rw[if_neg hn];exact h9.1,by grind,fun b b1 b2=>?_⟩
   have:=h9.2.2 b b1 b2
   grind
  ·intro z c hr
   have h9:=pa.k4 z c hr
   have h8:=bs.k2 z c hr
   have hn:¬g.fr u z:=fun e=>by
    have:=roots z h8.2.1 e
    subst this
    exact k6 c hr
   exact⟨by dsimp only;rw[if_neg hn];exact h9.1,by grind,h9.2.2⟩
end Go.Proofs.YtlfijfodklhplaaGreat.Ghs
