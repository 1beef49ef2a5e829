import Derived.Test.YtlfijfodklhplaaGreatTn36
set_option linter.unusedVariables false
set_option linter.unusedSimpArgs false
namespace Go.Proofs.YtlfijfodklhplaaGreat.Ghs
open Go.RowKit
open NMsg
theorem ev_wake{G:Gr}{s:St}{g:Gh}{h:Gs}(hI:Inv G s g h){u:Nat}(ha:s.aw u=false)(W':Nat)(hW:∀v,G.adj u v→W'≤G.w u v):
 Inv G { s with aw:=upd s.aw u true} { g with ph:=upd g.ph u 1,W:=upd g.W u W'} { h with tk:=fun z=>z=u∨h.tk z}:=by
 have hrp:=root_ph hI
 obtain⟨q0,st,rp,ts,bs,pa⟩:=hI
 obtain⟨a1,a2,a3,a4,a5⟩:=st.asl u ha
 have hone:∀z,g.fr u z→z=u:=fun z hz=>(st.f5 u z a2 hz).symm
 have hone2:∀z,g.fr z u→z=u:=fun z hz=>hone z (st.f2 _ _ hz)
 have hse:∀v,s.se u v=0:=fun v=>by
  apply Classical.byContradiction
  intro e
  have:=(st.sa u v e).2
  rw[ha]at this;cases this
 have mono:∀z,s.aw z=true→upd s.aw u true z=true:=fun z hz=>by simp only[upd];grind
 have np:∀v,g.par v≠some u:=fun v hp=>by
  have:=(st.pr v u hp).2
  have:=hse v
  omega
 refine⟨fun a b m hm=>⟨(q0 a b m hm).1,mono a (q0 a b m hm).2⟩,?_,?_,⟨ts.t0,ts.t1,ts.t2,ts.t3,ts.t4,ts.t5,ts.t6,ts.t7⟩,?_,?_⟩
 ·refine⟨fun a b m hm=>⟨(st.qa a b m hm).1,mono a (st.qa a b m hm).2⟩,fun a b e=>⟨(st.sa a b e).1,mono a (st.sa a b e).2⟩,?_,st.f1,st.f2,st.f3,?_,st.f5,st.l1,st.l2,st.se2,st.se3,st.db,st.pr,?_,st.cn,st.c1,?_,st.cu,st.ch,st.i1,st.rt,?_,st.dp,st.nm1,st.nm2,st.nm3,?_,st.sz,st.mst,st.oc⟩
  ·intro z hz
   simp only[upd]at hz⊢
   have:=st.asl z
   grind
  ·intro a b hab
   have:=st.f4 a b hab
   have:=hone b
   have:=hone2 a
   simp only[upd]
   by_cases e:a=u
   ·subst e;have:=hone b hab;subst this;simp
   ·by_cases e2:b=u
    ·subst e2;exact(e (hone2 a hab)).elim
    ·simp[e,e2];grind
  ·intro a b hh
   have h9:=st.hf a b hh
   have:a≠u:=by rintro rfl;have h1:=hh.1;dsimp only at h1;have:=hse b;omega
   simp only[upd,if_neg this];exact h9
  ·intro a b hc
   have h9:=st.co a b hc
   have:a≠u:=by rintro rfl;omega
   simp only[upd,if_neg this];exact h9
  ·intro z hz
   have:z≠u:=by rintro rfl;simp[upd]at hz
   simp only[upd,if_neg this]at hz
   exact st.p0 z hz
  ·intro a z b b1 b2 b3 b4
   by_cases e:a=u
   ·subst e
    have:=hone z b2
    subst this
    simp only[upd,if_true]
    exact hW b b3
   ·simp only[upd,if_neg e]at b1⊢
    exact st.de a z b b1 b2 b3 b4
 ·have hp0:∀z,upd g.ph u 1 z=0↔g.ph z=0:=fun z=>by simp only[upd];grind
  refine⟨?_,?_,?_,?_,?_,?_,rp.s6,?_,?_,rp.s13,?_,rp.r2,rp.hd,rp.ct,rp.bm,rp.s15⟩
  ·intro z hz;exact⟨(hp0 z).2 (rp.s1 z hz).1,(rp.s1 z hz).2⟩
  ·intro z b1;exact rp.s2 z ((hp0 z).1 b1)
  ·intro a b b1;exact rp.s3 a b ((hp0 a).1 b1)
  ·intro a b b1;exact rp.s14 a b ((hp0 a).1 b1)
  ·intro a b l n hm b1;exact rp.s4 a b l n hm ((hp0 b).1 b1)
  ·intro a b l n hm;have h9:=rp.s5 a b l n hm;exact⟨(hp0 b).2 h9.1,h9.2⟩
  ·intro a b b1;exact rp.s9 a b ((hp0 a).1 b1)
  ·intro a b1;exact rp.si a ((hp0 a).1 b1)
  ·intro a b w hm
   rcases rp.r1 a b w hm with⟨d1,d2⟩|⟨d1,d2,d3,d4,d5,d6,d7⟩
   ·exact Or.inl ⟨(hp0 b).2 d1,d2⟩
   ·exact Or.inr ⟨d1,d2,d3,d4,d5,fun e=>⟨(d6 e).1,(d6 e).2.1,fun e2=>(d6 e).2.2 ((hp0 a).1 e2)⟩,d7⟩
 ·refine⟨?_,?_,?_,bs.ov⟩
  ·intro z b1 b2 b3 b4
   have:z≠u:=by rintro rfl;dsimp only at b1;omega
   simp only[upd,if_neg this]at b3
   exact bs.bb z b1 b2 b3 b4
  ·intro z hz
   rcases hz with rfl|hz
   ·refine⟨by simp[upd],by simp[upd],a3,by dsimp only;omega,fun e=>by dsimp only at e;omega,fun v hm=>?_⟩
    have hm2:root∈s.q z v:=by unfold kX at hm;exact(List.mem_filter.1 hm).1
    have:=(q0 z v root hm2).2
    rw[ha]at this;cases this
   ·have h9:=bs.k1 z hz
    have:z≠u:=by rintro rfl;omega
    refine⟨mono z h9.1,by simp only[upd,if_neg this];exact h9.2.1,h9.2.2.1,h9.2.2.2.1,?_,h9.2.2.2.2.2⟩
    simp only[upd,if_neg this];exact h9.2.2.2.2.1
  ·intro z c hr
   have h9:=bs.k2 z c hr
   have h8:=hrp z c hr
   have:z≠u:=by rintro rfl;omega
   have h7:c≠u:=by rintro rfl;omega
   simp only[upd,if_neg this,if_neg h7];exact h9
 ·refine⟨?_,?_,?_,?_⟩
  ·intro z hz
   have:=pa.p1 z hz
   simp only[upd];grind
  ·intro z b b1 b2 b3 b4
   have:z≠u:=by rintro rfl;exact b3 a3
   simp only[upd,if_neg this]at b2
   exact pa.u1 z b b1 b2 b3 b4
  ·intro z hz
   rcases hz with rfl|hz
   ·refine⟨by simp[upd],fun e=>by have:=pa.p1 z e;omega,fun v _ hk=>(np v hk.1).elim⟩
   ·have h9:=pa.k3 z hz
    have:z≠u:=by rintro rfl;omega
    simp only[upd,if_neg this];exact h9
  ·intro z c hr
   have h9:=pa.k4 z c hr
   have:z≠u:=by rintro rfl;omega
   simp only[upd,if_neg this];exact h9
theorem ev_lone{G:Gr}{s:St}{g:Gh}{h:Gs}(hI:Inv G s g h){u:Nat}(hL:g.L u=0)(hn:∀v,¬G.adj u v):Inv G { s with over:=upd s.over u true} g h:=by
 obtain⟨q0,st,rp,ts,bs,pa⟩:=hI
 refine⟨q0,st,rp,ts,⟨bs.bb,bs.k1,bs.k2,?_⟩,pa⟩
 intro z hz a b b1 b2
 by_cases e:z=u
 ·subst e
  have:=st.f5 z a hL b1
  subst this
  exact(hn b b2).elim
 ·simp only[upd,if_neg e]at hz
  exact bs.ov z hz a b b1 b2
theorem kS_out{q:Nat→Nat→List NMsg}{a b l:Nat}{A B:List NMsg}(hq:q a b=A++connect l::B):∃X,kS (upd2 q a b (A++B))=upd2 (kS q) a b X∧inits X=inits (kS q a b)∧connect l∈kS q a b∧(kS q a b).countP isCon=X.countP isCon+1∧(∀x,x∈X→x∈kS q a b)∧∀A B l n f,X=A++initiate l n f::B→∃A' B',kS q a b=A'++initiate l n f::B'∧∀m,m∈B→m∈B':=by
 refine⟨A.filter (fun m=>isCon m||isIni m)++B.filter (fun m=>isCon m||isIni m),?_,?_,?_,?_,?_,?_⟩
 ·rw[kS_upd,List.filter_append]
 ·simp only[kS,hq,List.filter_append,List.filter_cons,isCon,Bool.true_or,if_true,inits_app];rfl
 ·simp only[kS,hq];simp[isCon]
 ·simp only[kS,hq,List.filter_append,List.countP_append,List.filter_cons,List.countP_cons,isCon,Bool.true_or,if_true]
  omega
 ·intro x hx;simp only[kS,hq];simp at hx⊢;grind
 ·intro C D l' n f hX
  have e:kS q a b=A.filter (fun m=>isCon m||isIni m)++connect l::B.filter (fun m=>isCon m||isIni m):=by
   simp only[kS,hq,List.filter_append,List.filter_cons,isCon,Bool.true_or,if_true]
  generalize A.filter (fun m=>isCon m||isIni m)=P at hX e
  generalize B.filter (fun m=>isCon m||isIni m)=Q at hX e
  rcases List.append_eq_append_iff.1 hX with⟨c,d1,d2⟩|⟨c,d1,d2⟩
  ·refine⟨P++connect l::c,D,?_,fun m hm=>hm⟩
   rw[e,d2];simp
  ·cases c with
   |nil=>
    refine⟨P++[connect l],D,?_,fun m hm=>hm⟩
    rw[e]
    simp at d2
    simp[←d2]
   |cons m t=>
    simp at d2
    refine⟨C,t++connect l::Q,?_,fun m hm=>?_⟩
    ·rw[e,d1,←d2.1];simp
    ·rw[d2.2]at hm;simp at hm⊢;grind
theorem ev_core{G:Gr}{s:St}{g:Gh}{h:Gs}(hI:Inv G s g h){u v l:Nat}{A B:List NMsg}(hq:s.q u v=A++connect l::B)(hs:s.se v u=1):
 Inv G { s with q:=addq (upd2 s.q u v (A++B)) v u (initiate (s.lev v+1) (G.w v u) true)} g h:=by
 obtain⟨X,x1,x2,x3,x4,x5,x6⟩:=kS_out hq
 obtain⟨q0,st,rp,ts,bs,pa⟩:=hI
 obtain⟨c1,c2,c3⟩:=st.cn u v l x3
 obtain⟨d1,d2,d3,d4⟩:=c2 hs
 have hadj:=(st.qa u v _ x3).1
 have huv:u≠v:=by rintro rfl;exact G.irr _ hadj
 have hav:=(st.sa v u (by omega)).2
 have hc:=st.co v u ⟨d1.2,d1.1⟩
 have hf:=(st.db u v ⟨c1,hs⟩).1
 have f4:=st.f4 u v hf
 have e3:s.lev u+1=g.L u∧inits (kS s.q v u)=[]:=by grind
 have hN:g.N u=G.w v u:=by rw[f4.2.1];exact hc.2.1
 have X0:∀l,connect l∉X:=fun l hm=>by
  have h1:=st.c1 u v
  have:=cnt0 (show X.countP isCon=0 by omega) _ hm
  simp[isCon]at this
 have ekS:kS (addq (upd2 s.q u v (A++B)) v u (initiate (s.lev v+1) (G.w v u) true))=upd2 (upd2 (kS s.q) u v X) v u (kS s.q v u++[initiate (s.lev v+1) (G.w v u) true]):=by
  rw[kS_addT rfl,x1];congr 1;simp[upd2,huv.symm]
 have ekR:kR (addq (upd2 s.q u v (A++B)) v u (initiate (s.lev v+1) (G.w v u) true))=upd2 (kR s.q) v u (kR s.q v u++[initiate (s.lev v+1) (G.w v u) true]):=by
  rw[kR_addT rfl,kR_rem hq rfl]
 have hlv:s.lev v+1=g.L v:=by omega
 refine⟨q0_add (q0_rem q0 hq) (G.sym _ _ hadj) hav,?_,?_,?_,?_,?_⟩
 ·rw[ekS]
  have ei:∀a b,inits (upd2 (upd2 (kS s.q) u v X) v u (kS s.q v u++[initiate (s.lev v+1) (G.w v u) true]) a b)=if a=v∧b=u then [(s.lev v+1,G.w v u,true)]else inits (kS s.q a b):=by
   intro a b
   simp only[upd2]
   split
   ·rw[inits_app,e3.2];rfl
   ·split
    ·rename_i e;rw[e.1,e.2,x2]
    ·rfl
  have em:∀a b l' n f,initiate l' n f∈upd2 (upd2 (kS s.q) u v X) v u (kS s.q v u++[initiate (s.lev v+1) (G.w v u) true]) a b→(a=v∧b=u∧l'=s.lev v+1∧n=G.w v u∧f=true)∨initiate l' n f∈kS s.q a b:=by
   intro a b l' n f hm
   rw[←mem_inits,ei]at hm
   split at hm
   ·rename_i e;simp at hm;grind
   ·exact Or.inr ((mem_inits _).1 hm)
  have ec:∀a b l',connect l'∈upd2 (upd2 (kS s.q) u v X) v u (kS s.q v u++[initiate (s.lev v+1) (G.w v u) true]) a b↔connect l'∈kS s.q a b∧¬(a=u∧b=v):=by
   intro a b l'
   simp only[upd2]
   split
   ·rename_i e;simp[e.1,e.2,huv.symm]
   ·split
    ·rename_i e;have:=X0 l';grind
    ·grind
  refine⟨?_,st.sa,st.asl,st.f1,st.f2,st.f3,st.f4,st.f5,st.l1,st.l2,st.se2,st.se3,st.db,st.pr,?_,?_,?_,?_,st.cu,?_,?_,st.rt,st.p0,st.dp,st.nm1,?_,st.nm3,st.de,st.sz,st.mst,?_⟩
  ·intro a b m hm
   simp only[upd2]at hm
   have:=st.qa a b m
   have:=G.sym u v hadj
   grind
  ·intro a b hh
   have h9:=st.hf a b hh
   refine⟨h9.1,h9.2.1,h9.2.2.1,?_,h9.2.2.2.2⟩
   rw[ec]
   refine⟨h9.2.2.2.1,?_⟩
   rintro⟨rfl,rfl⟩
   unfold half at hh;omega
  ·intro a b l' hm
   rw[ec]at hm
   exact st.cn a b l' hm.1
  ·intro a b
   simp only[upd2]
   split
   ·rename_i e;rw[List.countP_append];have:=st.c1 v u;simpa [isCon]using this
   ·split
    ·have:=st.c1 u v;omega
    ·exact st.c1 a b
  ·intro a b hcr
   have h9:=st.co a b hcr
   refine⟨h9.1,h9.2.1,?_⟩
   rw[ei]
   simp only[ec]
   by_cases e:a=v∧b=u
   ·obtain⟨rfl,rfl⟩:=e
    right;left
    refine⟨e3.1,?_,fun l' hm=>hm.2 ⟨rfl,rfl⟩⟩
    rw[if_pos ⟨rfl,rfl⟩,hN]
    congr 2
    omega
   ·rw[if_neg e]
    rcases h9.2.2 with h8|h8|h8
    ·exact Or.inl ⟨h8.1,h8.2.1,fun l' hm=>h8.2.2 l' hm.1⟩
    ·exact Or.inr (Or.inl ⟨h8.1,h8.2.1,fun l' hm=>h8.2.2 l' hm.1⟩)
    ·right;right
     refine⟨h8.1,h8.2.1,h8.2.2,?_⟩
     rintro⟨rfl,rfl⟩
     exact e ⟨rfl,rfl⟩
  ·intro a b hk
   have h9:=st.ch a b hk
   have n1:¬(a=v∧b=u):=by rintro⟨rfl,rfl⟩;exact hk.2 d1.2
   have n2:¬(b=v∧a=u):=by rintro⟨rfl,rfl⟩;exact hk.2 d1.1
   rw[ei,ei,if_neg n1,if_neg n2]
   exact h9
  ·intro a b l' n f hm
   rcases em a b l' n f hm with⟨rfl,rfl,rfl,rfl,rfl⟩|hm
   ·exact⟨d1.1,by omega,fun _=>hN.symm⟩
   ·exact st.i1 a b l' n f hm
  ·intro a b l' n f hm
   rcases em a b l' n f hm with⟨rfl,rfl,rfl,rfl,rfl⟩|hm
   ·exact⟨a,b,G.sym _ _ hadj,⟨hs,c1⟩,rfl,hf⟩
   ·exact st.nm2 a b l' n f hm
  ·intro a b C D l' n f hAB l2 hm
   simp only[upd2]at hAB
   by_cases e:a=v∧b=u
   ·rw[if_pos e]at hAB
    have hno:∀l n f,initiate l n f∉kS s.q v u:=fun l n f hm=>by
     have:=(mem_inits _).2 hm;rw[e3.2]at this;cases this
    rcases List.append_eq_append_iff.1 hAB with⟨c,w1,w2⟩|⟨c,w1,w2⟩
    ·cases c with
     |nil=>simp at w2;rw[w2.2]at hm;cases hm
     |cons m t=>simp at w2
    ·cases c with
     |nil=>simp at w2;rw[w2.2]at hm;cases hm
     |cons m t=>
      simp at w2
      refine hno l' n f ?_
      rw[w1,←w2.1];simp
   ·rw[if_neg e]at hAB
    by_cases e2:a=u∧b=v
    ·rw[if_pos e2]at hAB
     refine X0 l2 ?_
     rw[hAB];simp[hm]
    ·rw[if_neg e2]at hAB
     exact st.oc a b C D l' n f hAB l2 hm
 ·rw[ekR]
  have em:∀a b l' n f,initiate l' n f∈upd2 (kR s.q) v u (kR s.q v u++[initiate (s.lev v+1) (G.w v u) true]) a b→(a=v∧b=u∧l'=s.lev v+1∧f=true)∨initiate l' n f∈kR s.q a b:=by
   intro a b l' n f hm
   simp only[upd2]at hm
   split at hm
   ·rename_i e;simp at hm;grind
   ·exact Or.inr hm
  have er:∀a b w,report w∈upd2 (kR s.q) v u (kR s.q v u++[initiate (s.lev v+1) (G.w v u) true]) a b↔report w∈kR s.q a b:=by
   intro a b w
   simp only[upd2]
   split
   ·rename_i e;rw[e.1,e.2];simp
   ·rfl
  refine⟨rp.s1,rp.s2,rp.s3,rp.s14,?_,?_,rp.s6,rp.s9,rp.si,rp.s13,?_,?_,?_,?_,rp.bm,rp.s15⟩
  ·intro a b l' n hm b1 b2
   rcases em a b l' n false hm with⟨_,_,_,e⟩|hm
   ·cases e
   ·exact rp.s4 a b l' n hm b1 b2
  ·intro a b l' n hm
   rcases em a b l' n true hm with⟨rfl,rfl,rfl,_⟩|hm
   ·refine⟨?_,by omega,rp.s15 b a d1 (by omega),fun hk=>(hk.2 d1.2).elim⟩
    have:=hc.1;omega
   ·exact rp.s5 a b l' n hm
  ·intro a b w hm
   rw[er]at hm
   rcases rp.r1 a b w hm with⟨w1,w2,w3,w4,w5,w6,w7,w8⟩|⟨w1,w2,w3,w4,w5,w6,w7⟩
   ·left
    refine⟨w1,w2,w3,w4,w5,w6,w7,?_⟩
    have:¬(b=v∧a=u):=by rintro⟨rfl,rfl⟩;omega
    simp only[upd2,if_neg this];exact w8
   ·right
    have:¬(b=v∧a=u):=by rintro⟨rfl,rfl⟩;exact w1.2 d1.2
    refine⟨w1,w2,w3,w4,w5,w6,?_⟩
    simp only[upd2,if_neg this];exact w7
  ·intro a b
   simp only[upd2]
   split
   ·rw[List.countP_append];have:=rp.r2 u v;simpa [isRep]using this
   ·exact rp.r2 a b
  ·intro a b b1 b2 b3 b4
   exact rp.hd a b b1 b2 b3 (fun w hm=>b4 w ((er b a w).2 hm))
  ·intro a ha
   obtain⟨li,l1,l2,l3⟩:=rp.ct a ha
   refine⟨li,l1,l2,fun z=>?_⟩
   rw[l3 z]
   simp only[er]
 ·rw[kT_add rfl,kT_rem hq rfl];exact ts
 ·rw[kX_add rfl,kX_rem hq rfl];exact bs
 ·rw[kX_add rfl,kX_rem hq rfl];exact pa
def initq(q:Nat→Nat→List NMsg)(se:Nat→Nat→Nat)(x y:Nat)(R:List NMsg)(m:NMsg):Nat→Nat→List NMsg:=
 fun a b=>if a=x∧b=y then R else if a=y∧b≠x∧se y b=1 then q y b++[m]else q a b
theorem initq_fil(p:NMsg→Bool){q:Nat→Nat→List NMsg}{se:Nat→Nat→Nat}{x y:Nat}{A B:List NMsg}{m:NMsg}(hq:q x y=A++m::B)(hp:p m=false):(fun a b=>(initq q se x y (A++B) m a b).filter p)=fun a b=>(q a b).filter p:=by
 funext a b
 simp only[initq]
 split
 ·rename_i e;rw[e.1,e.2,hq];simp[hp]
 ·split
  ·rename_i e;rw[e.1];simp[hp]
  ·rfl
theorem chain_snoc{l n:Nat}{f:Bool}(I:List (Nat×Nat×Bool)):∀(p p':Nat×Nat),chain p I p'→p'.1<l→chain p (I++[(l,n,f)]) (l,n):=by
 induction I with
 |nil=>intro p p' h1 h2;simp only[chain]at h1;subst h1;exact⟨h2,rfl⟩
 |cons a t ih=>
  obtain⟨a1,a2,a3⟩:=a
  intro p p' h1 h2
  exact⟨h1.1,ih _ _ h1.2 h2⟩
theorem split_last{X C D:List NMsg}{m r:NMsg}(h:X++[m]=C++r::D):(X=C∧D=[]∧m=r)∨∃D',X=C++r::D'∧D=D'++[m]:=by
 rcases List.append_eq_append_iff.1 h with⟨c,w1,w2⟩|⟨c,w1,w2⟩
 ·cases c with
  |nil=>simp at w1 w2;exact Or.inl ⟨w1.symm,w2.2,w2.1⟩
  |cons a t=>simp at w2
 ·cases c with
  |nil=>simp at w1 w2;exact Or.inl ⟨w1,w2.2,w2.1.symm⟩
  |cons a t=>
   simp at w2
   right
   refine⟨t,by rw[w1,w2.1],w2.2⟩
theorem ev_init{G:Gr}{s:St}{g:Gh}{h:Gs}(hI:Inv G s g h){x y l n:Nat}{f:Bool}{A B:List NMsg}(hq:s.q x y=A++initiate l n f::B)(hA0:inits A=[])(hA1:∀l,connect l∉A)(hA2:∀w,report w∉A)(c':Nat)
 (hc:(f=false∧c'=0)∨(f=true∧∃kl:List Nat,kl.Nodup∧kl.length=c'∧∀z,z∈kl↔(z≠x∧s.se y z=1))):
 s.fnd y=false∧s.lev y<l∧Inv G { s with lev:=upd s.lev y l,nam:=upd s.nam y n,inn:=upd s.inn y (some x),best:=upd s.best y none,bw:=upd s.bw y 1001,fnd:=upd s.fnd y f,cnt:=upd s.cnt y c',q:=initq s.q s.se x y (A++B) (initiate l n f)} g { h with tg:=fun z=>(z=y∧f=true)∨h.tg z}:=by
 have hrp:=root_ph hI
 obtain⟨q0,st,rp,ts,bs,pa⟩:=hI
 have hmS:initiate l n f∈kS s.q x y:=by simp only[kS,hq];simp[isIni]
 have hmR:initiate l n f∈kR s.q x y:=ini_RS.2 hmS
 obtain⟨hpar,hlL,hnN⟩:=st.i1 x y l n f hmS
 have hd:=st.pr y x hpar
 have hadj:=(st.sa y x (by unfold dbl at hd;omega)).1
 have haw:=(st.sa y x (by unfold dbl at hd;omega)).2
 have hxy:x≠y:=by rintro rfl;exact G.irr _ hadj
 have hne:s.lev y≠g.L y:=fun e=>st.noIni e hmS
 have hfy:s.fnd y=false:=by
  cases e:s.fnd y
  ·rfl
  ·exact(hne (rp.s1 y e).2.1).elim
 obtain⟨ht1,ht2⟩:=ts.t0 y hfy
 have eSq:kS s.q x y=A.filter (fun m=>isCon m||isIni m)++initiate l n f::B.filter (fun m=>isCon m||isIni m):=by
  simp only[kS,hq,List.filter_append,List.filter_cons,isIni,Bool.or_true,if_true]
 have eI:inits (kS s.q x y)=(l,n,f)::inits B:=by
  rw[eSq,inits_app,inits_fil _ (by intros;rfl) A,hA0]
  simp only[inits,List.nil_append]
  rw[inits_fil _ (by intros;rfl) B]
 have noconS:∀l',connect l'∉kS s.q x y:=fun l' hm=>by
  rw[eSq]at hm
  rcases List.mem_append.1 hm with hm|hm
  ·exact hA1 l' (List.mem_filter.1 hm).1
  ·simp only[List.mem_cons]at hm
   rcases hm with hm|hm
   ·cases hm
   ·exact st.oc x y _ _ l n f eSq l' hm
 have hcase:(kid g x y∧s.lev y<l∧chain (l,n) (inits B) (s.lev x,s.nam x))∨(core g x y∧s.lev y+1=g.L y∧l=g.L y∧n=g.N y∧f=true∧inits B=[]∧∀l',connect l'∉kS s.q y x):=by
  by_cases e:g.par x=some y
  ·right
   have:=st.co x y ⟨e,hpar⟩
   rw[eI]at this
   refine⟨⟨e,hpar⟩,?_⟩
   rcases this.2.2 with h8|h8|h8
   ·cases h8.2.1
   ·have h9:=h8.2.1
    simp only[List.cons.injEq,Prod.mk.injEq]at h9
    exact⟨h8.1,h9.1.1,h9.1.2.1,h9.1.2.2,h9.2,h8.2.2⟩
   ·cases h8.2.1
  ·left
   have h9:=(st.ch x y ⟨hpar,e⟩).2
   rw[eI]at h9
   exact⟨⟨hpar,e⟩,h9.1,h9.2⟩
 have hlt:s.lev y<l:=by rcases hcase with h9|h9<;>omega
 refine⟨hfy,hlt,?_⟩
 have hfr:g.fr y x:=(st.db y x hd).1
 have f4x:=st.f4 y x hfr
 have kids:∀z,z≠x→s.se y z=1→kid g y z:=fun z hz hs=>by
  have h2:s.se z y=1:=by
   apply Classical.byContradiction
   intro e
   have:=(st.hf y z ⟨hs,e⟩).2.1
   rw[hpar]at this;cases this
  have:=(st.db y z ⟨hs,h2⟩).2
  unfold kid
  rw[hpar]at this⊢
  grind
 have kids2:∀z,kid g y z→z≠x∧s.se y z=1:=fun z hk=>by
  have:=st.pr z y hk.1
  refine⟨?_,this.2⟩
  rintro rfl
  exact hk.2 hpar
 have levz:∀z,kid g y z→s.lev z≠g.L z:=fun z hk e=>hne (st.up hk e).2
 have fz:∀z,kid g y z→g.fr y z:=fun z hk=>st.f2 _ _ (st.db z y (st.pr z y hk.1)).1
 have ekS:∀a b,inits (kS (initq s.q s.se x y (A++B) (initiate l n f)) a b)=if a=x∧b=y then inits B else if a=y∧b≠x∧s.se y b=1 then inits (kS s.q y b)++[(l,n,f)]else inits (kS s.q a b):=by
  intro a b
  simp only[kS,initq]
  rw[inits_fil _ (by intros;rfl)]
  split
  ·rw[inits_app,hA0];rfl
  ·split
   ·rw[inits_app,inits_fil _ (by intros;rfl)];rfl
   ·rw[inits_fil _ (by intros;rfl)]
 have em:∀a b l' n' f',initiate l' n' f'∈kS (initq s.q s.se x y (A++B) (initiate l n f)) a b→initiate l' n' f'∈kS s.q a b∨(a=y∧kid g y b∧l'=l∧n'=n∧f'=f):=by
  intro a b l' n' f' hm
  rw[←mem_inits,ekS]at hm
  split at hm
  ·rename_i e
   left
   rw[e.1,e.2,←mem_inits,eI]
   simp[hm]
  ·split at hm
   ·rename_i e
    rcases List.mem_append.1 hm with hm|hm
    ·left;rw[e.1];exact(mem_inits _).1 hm
    ·right
     simp only[List.mem_singleton,Prod.mk.injEq]at hm
     exact⟨e.1,kids b e.2.1 e.2.2,hm.1,hm.2.1,hm.2.2⟩
   ·left;exact(mem_inits _).1 hm
 have ec:∀a b,(kS (initq s.q s.se x y (A++B) (initiate l n f)) a b).filter isCon=(kS s.q a b).filter isCon:=by
  intro a b
  have:=congrFun (congrFun (initq_fil isCon (se:=s.se) hq rfl) a) b
  simp only[kS,List.filter_filter]at this⊢
  have e1:∀L:List NMsg,L.filter (fun a=>isCon a&&(isCon a||isIni a))=L.filter isCon:=fun L=>by
   congr 1;funext m;cases m<;>rfl
  rw[e1,e1];exact this
 have ecm:∀a b l',connect l'∈kS (initq s.q s.se x y (A++B) (initiate l n f)) a b↔connect l'∈kS s.q a b:=by
  intro a b l'
  have:=ec a b
  constructor
  ·intro hm
   have h2:connect l'∈(kS s.q a b).filter isCon:=by rw[←this];exact List.mem_filter.2 ⟨hm,rfl⟩
   exact(List.mem_filter.1 h2).1
  ·intro hm
   have h2:connect l'∈(kS (initq s.q s.se x y (A++B) (initiate l n f)) a b).filter isCon:=by rw[this];exact List.mem_filter.2 ⟨hm,rfl⟩
   exact(List.mem_filter.1 h2).1
 have ekT:kT (initq s.q s.se x y (A++B) (initiate l n f))=kT s.q:=initq_fil (fun m=>isTest m||isAns m) hq rfl
 have ekX:kX (initq s.q s.se x y (A++B) (initiate l n f))=kX s.q:=initq_fil isRoot hq rfl
 have lmono:∀z,s.lev z≤upd s.lev y l z:=fun z=>by simp only[upd];split;(rename_i e;subst e;omega);exact Nat.le_refl _
 refine⟨?_,?_,?_,?_,?_,?_⟩
 ·intro a b m hm
  simp only[initq]at hm
  have h9:=q0 a b m
  split at hm
  ·rename_i e;rw[e.1,e.2];exact⟨G.sym _ _ hadj,(q0 x y (initiate l n f) (by rw[hq];simp)).2⟩
  ·split at hm
   ·rename_i e
    rw[e.1]
    exact⟨(st.sa y b (by omega)).1,haw⟩
   ·exact h9 hm
 ·dsimp only
  refine⟨?_,st.sa,?_,st.f1,st.f2,st.f3,st.f4,st.f5,?_,?_,st.se2,st.se3,st.db,st.pr,?_,?_,?_,?_,st.cu,?_,?_,st.rt,st.p0,st.dp,?_,?_,st.nm3,st.de,st.sz,st.mst,?_⟩
  ·intro a b m hm
   simp only[kS,initq]at hm
   have hm:=(List.mem_filter.1 hm).1
   have h9:=q0 a b m
   split at hm
   ·rename_i e;rw[e.1,e.2];exact⟨G.sym _ _ hadj,(q0 x y (initiate l n f) (by rw[hq];simp)).2⟩
   ·split at hm
    ·rename_i e
     rw[e.1]
     exact⟨(st.sa y b (by omega)).1,haw⟩
    ·exact h9 hm
  ·intro z hz
   have:z≠y:=by rintro rfl;rw[haw]at hz;cases hz
   simp only[upd,if_neg this]
   exact st.asl z hz
  ·intro z;simp only[upd];have:=st.l1 z;grind
  ·intro z;simp only[upd];have:=st.l2 z;grind
  ·intro a b hh
   have h9:=st.hf a b hh
   have:a≠y:=by rintro rfl;rw[hpar]at h9;grind
   refine⟨h9.1,h9.2.1,h9.2.2.1,(ecm a b _).2 h9.2.2.2.1,h9.2.2.2.2.1,Nat.le_trans h9.2.2.2.2.2.1 (lmono b),?_⟩
   simp only[upd,if_neg this];exact h9.2.2.2.2.2.2
  ·intro a b l' hm
   rw[ecm]at hm
   have h9:=st.cn a b l' hm
   refine⟨h9.1,fun e=>?_,h9.2.2⟩
   have h8:=h9.2.1 e
   have hay:a≠y:=by
    rintro rfl
    have hb:b=x:=by have:=h8.1.1;rw[hpar]at this;cases this;rfl
    subst hb
    rcases hcase with h7|h7
    ·exact h7.1.2 h8.1.2
    ·exact h7.2.2.2.2.2.2 l' hm
   have hby:b≠y:=by
    rintro rfl
    have ha:a=x:=by have:=h8.1.2;rw[hpar]at this;cases this;rfl
    subst ha
    exact noconS l' hm
   simp only[upd,if_neg hay,if_neg hby]
   exact h8
  ·intro a b
   have e1:∀L:List NMsg,L.countP isCon=(L.filter isCon).length:=fun L=>by rw[List.countP_eq_length_filter]
   rw[e1,ec,←e1]
   exact st.c1 a b
  ·intro a b hcr
   have h9:=st.co a b hcr
   refine⟨h9.1,h9.2.1,?_⟩
   rw[ekS]
   simp only[ecm]
   by_cases e:a=x∧b=y
   ·obtain⟨rfl,rfl⟩:=e
    rcases hcase with h7|h7
    ·exact(h7.1.2 hcr.1).elim
    ·left
     rw[if_pos ⟨rfl,rfl⟩]
     simp only[upd,if_true]
     exact⟨h7.2.2.1,h7.2.2.2.2.2.1,h7.2.2.2.2.2.2⟩
   ·rw[if_neg e]
    have e2:¬(a=y∧b≠x∧s.se y b=1):=by
     rintro⟨rfl,e3,_⟩
     have:=hcr.1;rw[hpar]at this;cases this;exact e3 rfl
    rw[if_neg e2]
    have hby:b≠y:=by
     rintro rfl
     have:=hcr.2;rw[hpar]at this;cases this;exact e ⟨rfl,rfl⟩
    simp only[upd,if_neg hby]
    exact h9.2.2
  ·intro a b hk
   have h9:=st.ch a b hk
   rw[ekS,ekS]
   by_cases e:b=y
   ·subst e
    have ha:a=x:=by have:=hk.1;rw[hpar]at this;cases this;rfl
    subst ha
    rw[if_neg (by grind),if_neg (by grind),if_pos ⟨rfl,rfl⟩]
    simp only[upd,if_true,if_neg hxy]
    refine⟨h9.1,?_⟩
    rcases hcase with h7|h7
    ·exact h7.2.2
    ·exact(hk.2 h7.1.1).elim
   ·by_cases e2:a=y
    ·subst e2
     obtain⟨w1,w2⟩:=kids2 b hk
     rw[if_neg (by grind),if_neg (by grind),if_neg (by grind),if_pos ⟨rfl,w1,w2⟩]
     simp only[upd,if_true,if_neg e]
     exact⟨h9.1,chain_snoc _ _ _ h9.2 hlt⟩
    ·rw[if_neg (by grind),if_neg (by grind),if_neg (by grind),if_neg (by grind)]
     simp only[upd,if_neg e,if_neg e2]
     exact h9
  ·intro a b l' n' f' hm
   rcases em a b l' n' f' hm with hm|⟨rfl,hk,rfl,rfl,rfl⟩
   ·exact st.i1 a b l' n' f' hm
   ·have f4:=st.f4 a b (fz b hk)
    refine⟨hk.1,by omega,fun e=>?_⟩
    rw[←f4.2.1];exact hnN (by omega)
  ·intro z hz
   by_cases e:z=y
   ·subst e
    simp only[upd,if_true]
    exact st.nm2 x z l n f hmS
   ·simp only[upd,if_neg e]at hz⊢
    exact st.nm1 z hz
  ·intro a b l' n' f' hm
   rcases em a b l' n' f' hm with hm|⟨rfl,hk,rfl,rfl,rfl⟩
   ·exact st.nm2 a b l' n' f' hm
   ·obtain⟨p,r,w1,w2,w3,w4⟩:=st.nm2 x a l' n' f' hmS
    exact⟨p,r,w1,w2,w3,st.f3 _ _ _ (st.f2 _ _ (fz b hk)) w4⟩
  ·intro a b C D l' n' f' hAB l2 hm
   have hcon:connect l2∈kS (initq s.q s.se x y (A++B) (initiate l n f)) a b:=by rw[hAB];simp[hm]
   rw[ecm]at hcon
   by_cases e:a=x∧b=y
   ·obtain⟨rfl,rfl⟩:=e
    exact noconS l2 hcon
   ·by_cases e2:a=y∧b≠x∧s.se y b=1
    ·have:kS (initq s.q s.se x y (A++B) (initiate l n f)) a b=kS s.q a b++[initiate l n f]:=by
      unfold kS initq
      rw[if_neg e,if_pos e2,e2.1,List.filter_append];rfl
     rw[this]at hAB
     rcases split_last hAB with⟨_,w2,_⟩|⟨D',w1,w2⟩
     ·rw[w2]at hm;cases hm
     ·rw[w2]at hm
      have hm':connect l2∈D':=by simpa using hm
      exact st.oc a b C D' l' n' f' w1 l2 hm'
    ·have:kS (initq s.q s.se x y (A++B) (initiate l n f)) a b=kS s.q a b:=by
      simp only[kS,initq,if_neg e,if_neg e2]
     rw[this]at hAB
     exact st.oc a b C D l' n' f' hAB l2 hm
 ·dsimp only
  have er:∀a b w,report w∈kR (initq s.q s.se x y (A++B) (initiate l n f)) a b↔report w∈kR s.q a b:=by
   intro a b w
   simp only[kR,initq,List.mem_filter]
   split
   ·rename_i e;rw[e.1,e.2,hq];simp
   ·split
    ·rename_i e;rw[e.1];simp
    ·rfl
  have emR:∀a b l' n' f',initiate l' n' f'∈kR (initq s.q s.se x y (A++B) (initiate l n f)) a b→initiate l' n' f'∈kR s.q a b∨(a=y∧kid g y b∧l'=l∧n'=n∧f'=f):=by
   intro a b l' n' f' hm
   rcases em a b l' n' f' (ini_RS.1 hm)with h9|h9
   ·exact Or.inl (ini_RS.2 h9)
   ·exact Or.inr h9
  have hft:f=true→g.ph y=0∧l=g.L y∧¬h.Z y:=fun e=>by
   subst e
   have:=rp.s5 x y l n hmR
   exact⟨this.1,this.2.1,this.2.2.1⟩
  have hff:f=false→g.ph y=0→l=g.L y→h.Z y:=fun e=>by
   subst e
   exact rp.s4 x y l n hmR
  refine⟨?_,?_,rp.s3,?_,?_,?_,?_,rp.s9,?_,?_,?_,?_,?_,?_,?_,?_⟩
  ·intro z hz
   simp only[upd]at hz⊢
   have:=rp.s1 z
   grind
  ·intro z b1 b2 b3
   simp only[upd]at b2 b3
   have:=rp.s2 z b1
   grind
  ·intro a b b1 b2 b3 b4
   simp only[upd]at b4
   have:=rp.s14 a b b1 b2 b3
   grind
  ·intro a b l' n' hm b1 b2
   rcases emR a b l' n' false hm with hm|⟨rfl,hk,rfl,rfl,hf'⟩
   ·exact rp.s4 a b l' n' hm b1 b2
   ·have f4:=st.f4 a b (fz b hk)
    exact(rp.s3 a b (by omega) hk (hff hf'.symm (by omega) (by omega))).1
  ·intro a b l' n' hm
   rcases emR a b l' n' true hm with hm|⟨rfl,hk,rfl,rfl,hf'⟩
   ·have h9:=rp.s5 a b l' n' hm
    refine⟨h9.1,h9.2.1,h9.2.2.1,fun hk=>?_⟩
    have:=h9.2.2.2 hk
    simp only[upd]
    by_cases e:a=y
    ·subst e;rw[hfy]at this;cases this
    ·rw[if_neg e];exact this
   ·have f4:=st.f4 a b (fz b hk)
    have h9:=hft hf'.symm
    refine⟨by omega,by omega,rp.s14 a b h9.1 hk h9.2.2 hfy,fun _=>?_⟩
    simp only[upd,if_true];exact hf'.symm
  ·intro z hz
   simp only[upd]at hz⊢
   have:=rp.s6 z
   grind
  ·intro z b1 b2
   simp only[upd]at b2⊢
   have:=rp.si z b1
   grind
  ·intro a b hcr b2 b3
   simp only[upd]at b2 b3⊢
   by_cases e:a=y
   ·subst e
    rcases hcase with h7|h7
    ·have:=hcr.1;rw[hpar]at this;cases this
     exact(h7.1.2 hcr.2).elim
    ·rw[if_pos rfl,h7.2.2.2.2.1]at b3;cases b3
   ·rw[if_neg e]at b2 b3⊢
    exact rp.s13 a b hcr b2 b3
  ·intro a b w hm
   rw[er]at hm
   by_cases exy:b=x∧a=y
   ·obtain⟨rfl,rfl⟩:=exy
    rcases rp.r1 a b w hm with⟨w1,w2,w3,w4,w5,w6,w7,w8⟩|⟨w1,w2,w3,w4,w5,w6,w7⟩
    ·left
     have hcr:core g b a:=⟨w2,hpar⟩
     simp only[upd,if_neg hxy]
     refine⟨w1,w2,w3,w4,w5,w6,fun hk=>(hk.2 hpar).elim,?_⟩
     intro C D hCD
     have hi:inits (kR (initq s.q s.se b a (A++B) (initiate l n f)) b a)=[]:=by
      rw[inits_RS,ekS,if_pos ⟨rfl,rfl⟩]
      rcases hcase with h7|h7
      ·exact(h7.1.2 hcr.1).elim
      ·exact h7.2.2.2.2.2.1
     rw[hCD,inits_app]at hi
     have:=List.append_eq_nil_iff.1 hi
     simpa [inits]using this.2
    ·exfalso
     have eR:kR s.q b a=A.filter (fun m=>isRep m||isIni m)++initiate l n f::B.filter (fun m=>isRep m||isIni m):=by
      simp only[kR,hq,List.filter_append,List.filter_cons,isIni,Bool.or_true,if_true]
     rw[eR]at hm
     rcases List.mem_append.1 hm with hm|hm
     ·exact hA2 w (List.mem_filter.1 hm).1
     ·simp only[List.mem_cons]at hm
      rcases hm with hm|hm
      ·cases hm
      ·obtain⟨P,Q,hPQ⟩:=List.append_of_mem hm
       have:=w7 (A.filter (fun m=>isRep m||isIni m)++initiate l n f::P) Q (by rw[eR,hPQ];simp)
       rw[inits_app]at this
       have:=(List.append_eq_nil_iff.1 this).2
       simp[inits]at this
   ·by_cases eb:b=y
    ·subst eb
     rcases rp.r1 a b w hm with⟨w1,w2,w3,w4,w5,w6,w7,w8⟩|⟨w1,w2,w3,w4,w5,w6,w7⟩
     ·exact(hne w3).elim
     ·right
      have hab:a≠b:=by rintro rfl;exact w1.2 w1.1
      simp only[upd,if_neg hab,if_true]
      refine⟨w1,w2,w3,w4,w5,fun e=>(levz a w1 e).elim,?_⟩
      intro C D hCD
      obtain⟨v1,v2⟩:=kids2 a w1
      have:kR (initq s.q s.se x b (A++B) (initiate l n f)) b a=kR s.q b a++[initiate l n f]:=by
       unfold kR initq
       rw[if_neg (by grind),if_pos ⟨rfl,v1,v2⟩,List.filter_append];rfl
      rw[this]at hCD
      rcases split_last hCD with⟨_,_,v3⟩|⟨D',v3,_⟩
      ·cases v3
      ·exact w7 C D' v3
    ·have hq':kR (initq s.q s.se x y (A++B) (initiate l n f)) b a=kR s.q b a:=by
      simp only[kR,initq]
      rw[if_neg exy,if_neg (by grind)]
     rw[hq']
     rcases rp.r1 a b w hm with⟨w1,w2,w3,w4,w5,w6,w7,w8⟩|⟨w1,w2,w3,w4,w5,w6,w7⟩
     ·left
      simp only[upd,if_neg eb]
      refine⟨w1,w2,w3,w4,w5,w6,fun hk=>?_,w8⟩
      by_cases ea:a=y
      ·subst ea;have:=w7 hk;rw[hfy]at this;cases this
      ·rw[if_neg ea];exact w7 hk
     ·right
      have ea:a≠y:=by
       rintro rfl
       have:=w1.1;rw[hpar]at this;cases this
       exact exy ⟨rfl,rfl⟩
      simp only[upd,if_neg eb,if_neg ea]
      exact⟨w1,w2,w3,w4,w5,w6,w7⟩
  ·intro a b
   have e1:∀L:List NMsg,L.countP isRep=(L.filter isRep).length:=fun L=>by rw[List.countP_eq_length_filter]
   have h9:=congrFun (congrFun (initq_fil isRep (se:=s.se) hq rfl) b) a
   have e2:∀L:List NMsg,(L.filter (fun m=>isRep m||isIni m)).filter isRep=L.filter isRep:=fun L=>by
    rw[List.filter_filter];congr 1;funext m;cases m<;>rfl
   rw[e1]
   simp only[kR,e2]
   have:=rp.r2 a b
   rw[e1]at this
   simp only[kR,e2]at this
   rw[h9];exact this
  ·intro a b b1 b2 b3 b4
   simp only[upd]at b1⊢
   by_cases e:a=y
   ·subst e
    rw[if_pos rfl]at b1
    have h9:=hft b1
    exact(rp.s14 a b h9.1 b2 h9.2.2 hfy b3).elim
   ·rw[if_neg e]at b1⊢
    exact rp.hd a b b1 b2 b3 (fun w hm=>b4 w ((er b a w).2 hm))
  ·intro a ha
   simp only[upd]at ha⊢
   by_cases e:a=y
   ·subst e
    rw[if_pos rfl]at ha⊢
    rcases hc with⟨e2,_⟩|⟨_,kl,l1,l2,l3⟩
    ·rw[ha]at e2;cases e2
    ·refine⟨kl,l1,l2,fun z=>?_⟩
     rw[l3 z]
     have h9:=hft ha
     constructor
     ·rintro⟨v1,v2⟩
      have hk:=kids z v1 v2
      exact⟨hk,Or.inl (rp.s14 a z h9.1 hk h9.2.2 hfy)⟩
     ·rintro⟨hk,_⟩;exact kids2 z hk
   ·rw[if_neg e]at ha⊢
    obtain⟨li,l1,l2,l3⟩:=rp.ct a ha
    refine⟨li,l1,l2,fun z=>?_⟩
    rw[l3 z]
    simp only[er]
  ·intro z;simp only[upd];have:=rp.bm z;grind
  ·intro a b hcr b2
   simp only[upd]at b2
   by_cases e:a=y
   ·subst e
    rw[if_pos rfl]at b2
    rcases hcase with h7|h7
    ·have:=hcr.1;rw[hpar]at this;cases this
     exact(h7.1.2 hcr.2).elim
    ·exact(b2 h7.2.2.1).elim
   ·rw[if_neg e]at b2
    exact rp.s15 a b hcr b2
 ·rw[ekT]
  dsimp only
  refine⟨?_,ts.t1,?_,?_,?_,?_,ts.t6,ts.t7⟩
  ·intro z hz;simp only[upd]at hz;have:=ts.t0 z;grind
  ·intro z b b1 b2 b3 b4 b5
   simp only[upd]at b1⊢
   have:=ts.t2 z b
   grind
  ·intro z hz;have:=ts.t3 z;grind
  ·intro z b l' n' hm
   have h9:=ts.t4 z b l' n' hm
   simp only[upd]
   have:=lmono b
   grind
  ·intro z b hm
   have h9:=ts.t5 z b hm
   exact⟨h9.1,h9.2.1,Nat.le_trans h9.2.2 (lmono b)⟩
 ·rw[ekX]
  dsimp only
  refine⟨?_,?_,?_,bs.ov⟩
  ·intro z b1 b2 b3 b4
   by_cases e:z=y
   ·subst e;simp[upd]at b4
   ·simp only[upd,if_neg e]at b2 b4
    obtain⟨v',d1,d2,d3⟩:=bs.bb z b1 b2 b3 b4
    refine⟨v',by simp only[upd,if_neg e];exact d1,d2,?_⟩
    rcases d3 with d3|d3|d3
    ·exact Or.inl d3
    ·exact Or.inr (Or.inl ⟨d3.1,by simp only[upd,if_neg e];exact d3.2.1,d3.2.2.1,Nat.le_trans d3.2.2.2 (lmono v')⟩)
    ·right;right
     have:v'≠y:=by rintro rfl;exact hne d3.2.1
     simp only[upd,if_neg e,if_neg this]
     exact d3
  ·intro z hz
   have h9:=bs.k1 z hz
   have:z≠y:=by rintro rfl;rw[hpar]at h9;grind
   simp only[upd,if_neg this]
   exact h9
  ·intro z c hr
   have h9:=bs.k2 z c hr
   have e1:z≠y:=by rintro rfl;rw[hpar]at h9;grind
   have e2:c≠y:=by rintro rfl;exact hne h9.2.2.2.2.1
   simp only[upd,if_neg e1,if_neg e2]
   exact h9
 ·rw[ekX]
  refine⟨pa.p1,pa.u1,?_,?_⟩
  ·intro z hz
   have h9:=pa.k3 z hz
   have h8:=bs.k1 z hz
   have:z≠y:=by rintro rfl;rw[hpar]at h8;grind
   simp only[upd,if_neg this]
   exact h9
  ·intro z c hr
   have h9:=pa.k4 z c hr
   have h8:=bs.k2 z c hr
   have e1:z≠y:=by rintro rfl;rw[hpar]at h8;grind
   have e2:c≠y:=by rintro rfl;exact hne h8.2.2.2.2.1
   simp only[upd,if_neg e1,if_neg e2]
   exact h9
open Classical in
theorem ev_absorb{G:Gr}{s:St}{g:Gh}{h:Gs}(hI:Inv G s g h){u v l:Nat}{A B:List NMsg}(hq:s.q u v=A++connect l::B)(hl:l<s.lev v)(cnt':Nat→Nat)(hcnt:(s.fnd v=true∧cnt'=upd s.cnt v (s.cnt v+1))∨(s.fnd v=false∧cnt'=s.cnt)):
 Inv G { s with se:=upd2 s.se v u 1,cnt:=cnt',q:=addq (upd2 s.q u v (A++B)) v u (initiate (s.lev v) (s.nam v) (s.fnd v))}
  { fr:=fun a b=>g.fr a b∨((g.fr u a∨g.fr v a)∧(g.fr u b∨g.fr v b)),L:=fun z=>if g.fr u z then g.L v else g.L z,N:=fun z=>if g.fr u z then g.N v else g.N z,ph:=fun z=>if g.fr u z then g.ph v else g.ph z,W:=fun z=>if g.fr u z then g.W v else g.W z,par:=upd g.par u (some v),dep:=fun z=>if g.fr u z then g.dep v+1+g.dep z else g.dep z}
  { h with Z:=fun z=>if g.fr u z then h.Z v else h.Z z,be:=fun z=>if g.fr u z then G.w u v else h.be z,ps:=fun z=>h.ps z∧¬g.fr u z}:=by
 obtain⟨X,x1,x2,x3,x4,x5,x6⟩:=kS_out hq
 obtain⟨q0,st,rp,ts,bs,pa⟩:=hI
 obtain⟨c1,c2,c3⟩:=st.cn u v l x3
 have hs:s.se v u≠1:=fun e=>by have:=c2 e;omega
 obtain⟨b1,b2,b3,b4,b5,b6,b7⟩:=st.hf u v ⟨c1,hs⟩
 have hlu:=c3 hs
 have hadj:=(st.qa u v _ x3).1
 have hadj':=G.sym _ _ hadj
 have huv:u≠v:=by rintro rfl;exact G.irr _ hadj
 have hau:=(st.qa u v _ x3).2
 have lv:=st.l1 v
 have hav:s.aw v=true:=by
  cases e:s.aw v
  ·have:=st.asl v e;omega
  ·rfl
 have f1:=st.f1
 have f2:=st.f2
 have f3:=st.f3
 have fH:∀a b,g.fr a b→(g.fr u a↔g.fr u b):=fun a b e=>⟨fun x=>f3 _ _ _ x e,fun x=>f3 _ _ _ x (f2 _ _ e)⟩
 have fK:∀a b,g.fr a b→(g.fr v a↔g.fr v b):=fun a b e=>⟨fun x=>f3 _ _ _ x e,fun x=>f3 _ _ _ x (f2 _ _ e)⟩
 have HK:∀z,g.fr u z→¬g.fr v z:=fun z a b=>b3 (f3 _ _ _ a (f2 _ _ b))
 have hH:∀z,g.fr u z→g.L z=g.L u∧g.ph z=2∧s.lev z≤g.L u∧s.lev z<g.L v∧s.fnd z=false:=fun z hz=>by
  have f4:=st.f4 u z hz
  have:=st.l1 z
  refine⟨f4.1.symm,by omega,by omega,by omega,?_⟩
  cases e:s.fnd z
  ·rfl
  ·have:=rp.s1 z e;omega
 have hK:∀z,g.fr v z→g.L z=g.L v∧g.N z=g.N v∧g.ph z=g.ph v∧g.W z=g.W v:=fun z hz=>by
  have f4:=st.f4 v z hz
  exact⟨f4.1.symm,f4.2.1.symm,f4.2.2.1.symm,f4.2.2.2.symm⟩
 have hvu:¬g.fr u v:=b3
 have rH:∀z,g.fr u z→g.par z=none→z=u:=fun z hz e=>(st.rt u z b2 e hz).symm
 have parf:∀a b,g.par a=some b→g.fr a b:=fun a b e=>(st.db a b (st.pr a b e)).1
 have npvu:g.par v≠some u:=fun e=>hvu (f2 _ _ (parf _ _ e))
 have hp':∀a b,upd g.par u (some v) a=some b↔(g.par a=some b∨(a=u∧b=v)):=fun a b=>by simp only[upd];grind
 have kidf:∀x y,kid g x y→g.fr x y:=fun x y e=>f2 _ _ (parf _ _ e.1)
 have corf:∀x y,core g x y→g.fr x y:=fun x y e=>parf _ _ e.1
 have core0:∀x y,core g x y→¬g.fr u x∧¬g.fr u y:=fun x y e=>by
  have:=(st.co x y e).1
  have h1:=fH x y (corf x y e)
  have h2:=hH x
  grind
 have se0:s.se v u=0:=by
  have:=st.se3 v u
  have:=st.se2 v u
  have:=f2 v u
  grind
 have hse:∀a b,upd2 s.se v u 1 a b=1↔(s.se a b=1∨(a=v∧b=u)):=fun a b=>by simp only[upd2];grind
 have hse0:∀a b,upd2 s.se v u 1 a b=0↔(s.se a b=0∧¬(a=v∧b=u)):=fun a b=>by simp only[upd2];grind
 have hse2:∀a b,upd2 s.se v u 1 a b=2↔s.se a b=2:=fun a b=>by simp only[upd2];grind
 have hd:∀a b,dbl (upd2 s.se v u 1) a b↔(dbl s.se a b∨(a=v∧b=u)∨(a=u∧b=v)):=fun a b=>by simp only[dbl,hse];grind
 have hh:∀a b,half (upd2 s.se v u 1) a b→half s.se a b∧¬g.fr u a:=fun a b e=>by
  have e1:half s.se a b∧¬(a=u∧b=v):=by
   unfold half at *;rw[hse,ne_eq,hse]at e;grind
  refine⟨e1.1,fun e2=>e1.2 ?_⟩
  have h9:=st.hf a b e1.1
  have:=rH a e2 h9.2.1
  subst this
  have h8:=(st.sa a b (by have:=e1.1.1;omega)).1
  have:=G.wd a b a v h8 hadj (by omega)
  refine⟨rfl,?_⟩
  rcases this with x|x
  ·exact x.2
  ·exact(huv x.1).elim
 have X0:∀l,connect l∉X:=fun l hm=>by
  have h1:=st.c1 u v
  have:=cnt0 (show X.countP isCon=0 by omega) _ hm
  simp[isCon]at this
 have c0:∀l,connect l∉kS s.q v u:=fun l hm=>hs (st.cn v u l hm).1
 have i0:inits (kS s.q v u)=[]:=by
  apply List.eq_nil_iff_forall_not_mem.2
  rintro⟨l,n,f⟩ hm
  have:=(st.i1 v u l n f ((mem_inits _).1 hm)).1
  rw[b2]at this;cases this
 have i0':inits (kS s.q u v)=[]:=by
  apply List.eq_nil_iff_forall_not_mem.2
  rintro⟨l,n,f⟩ hm
  exact npvu (st.i1 u v l n f ((mem_inits _).1 hm)).1
 have ekS:kS (addq (upd2 s.q u v (A++B)) v u (initiate (s.lev v) (s.nam v) (s.fnd v)))=upd2 (upd2 (kS s.q) u v X) v u (kS s.q v u++[initiate (s.lev v) (s.nam v) (s.fnd v)]):=by
  rw[kS_addT rfl,x1];congr 1;simp[upd2,huv.symm]
 have ekR:kR (addq (upd2 s.q u v (A++B)) v u (initiate (s.lev v) (s.nam v) (s.fnd v)))=upd2 (kR s.q) v u (kR s.q v u++[initiate (s.lev v) (s.nam v) (s.fnd v)]):=by
  rw[kR_addT rfl,kR_rem hq rfl]
 have l2v:=st.l2 v
 refine⟨q0_add (q0_rem q0 hq) hadj' hav,?_,?_,?_,?_,?_⟩
 ·rw[ekS]
  have ei:∀a b,inits (upd2 (upd2 (kS s.q) u v X) v u (kS s.q v u++[initiate (s.lev v) (s.nam v) (s.fnd v)]) a b)=if a=v∧b=u then [(s.lev v,s.nam v,s.fnd v)]else inits (kS s.q a b):=by
   intro a b
   simp only[upd2]
   split
   ·rw[inits_app,i0];rfl
   ·split
    ·rename_i e;rw[e.1,e.2,x2]
    ·rfl
  have em:∀a b l' n f,initiate l' n f∈upd2 (upd2 (kS s.q) u v X) v u (kS s.q v u++[initiate (s.lev v) (s.nam v) (s.fnd v)]) a b→(a=v∧b=u∧l'=s.lev v∧n=s.nam v∧f=s.fnd v)∨initiate l' n f∈kS s.q a b:=by
   intro a b l' n f hm
   rw[←mem_inits,ei]at hm
   split at hm
   ·rename_i e;simp at hm;grind
   ·exact Or.inr ((mem_inits _).1 hm)
  have ec:∀a b l',connect l'∈upd2 (upd2 (kS s.q) u v X) v u (kS s.q v u++[initiate (s.lev v) (s.nam v) (s.fnd v)]) a b↔connect l'∈kS s.q a b∧¬(a=u∧b=v):=by
   intro a b l'
   simp only[upd2]
   split
   ·rename_i e;simp[e.1,e.2,huv.symm]
   ·split
    ·rename_i e;have:=X0 l';grind
    ·grind
  have corg:∀a b,(upd g.par u (some v) a=some b∧upd g.par u (some v) b=some a)→core g a b:=fun a b e=>by
   rw[hp',hp']at e;unfold core;grind
  have kidg:∀a b,(upd g.par u (some v) b=some a∧upd g.par u (some v) a≠some b)→kid g a b∨(a=v∧b=u):=fun a b e=>by
   rw[ne_eq,hp',hp']at e;unfold kid;grind
  refine⟨?_,?_,?_,?_,?_,?_,?_,?_,?_,?_,?_,?_,?_,?_,?_,?_,?_,?_,?_,?_,?_,?_,?_,?_,?_,?_,?_,?_,?_,?_,?_⟩
  ·-- qa
   intro a b m hm
   simp only[upd2]at hm
   have:=st.qa a b m
   grind
  ·intro a b;simp only[upd2];have:=st.sa a b;grind
  ·-- asl
   intro z hz
   have h9:=st.asl z hz
   have:¬g.fr u z:=fun e=>by
    have:=st.f5 z u h9.2.1 (f2 _ _ e)
    subst this
    dsimp only at hz
    rw[hau]at hz;cases hz
   have:z≠u:=by rintro rfl;exact this (f1 _)
   simp only[upd];grind
  ·intro a;exact Or.inl (f1 a)
  ·intro a b e;have:=f2 a b;dsimp only at e⊢;grind
  ·-- f3
   intro a b c e1 e2
   dsimp only at e1 e2⊢
   have w1:=fH a b
   have w2:=fK a b
   have w3:=fH b c
   have w4:=fK b c
   have w5:=f3 a b c
   grind
  ·-- f4
   intro a b e
   dsimp only at e⊢
   have w1:=fH a b
   have w2:=st.f4 a b
   have w3:=hK a
   have w4:=hK b
   grind
  ·-- f5
   intro a b e1 e2
   dsimp only at e1 e2
   have w1:=st.f5 a b
   have w2:=hK a
   grind
  ·intro z;have:=hH z;have:=st.l1 z;dsimp only;grind
  ·intro z e1 e2
   dsimp only at e1 e2⊢
   have:=hH z;have:=st.l2 z;grind
  ·intro a b e;rw[hse2]at e;exact Or.inl (st.se2 a b e)
  ·intro a b;simp only[upd2];have:=st.se3 a b;grind
  ·-- db
   intro a b e
   rw[hd]at e
   dsimp only
   rw[hp',hp']
   have:=st.db a b
   have:=f1 u
   have:=f1 v
   grind
  ·-- pr
   intro a b e
   rw[hp']at e
   rw[hd]
   have:=st.pr a b
   grind
  ·-- hf
   intro a b e
   obtain⟨e1,e2⟩:=hh a b e
   have h9:=st.hf a b e1
   have w1:=hH b
   have w2:=hK a
   have w3:=f3 a v b
   have w4:=f2 v a
   have n1:a≠u:=by rintro rfl;exact e2 (f1 _)
   refine⟨?_,?_,?_,?_,?_,?_,?_⟩
   ·dsimp only;rw[if_neg e2];exact h9.1
   ·simp only[upd,if_neg n1];exact h9.2.1
   ·dsimp only;grind
   ·dsimp only;rw[ec,if_neg e2];exact⟨h9.2.2.2.1,fun e=>n1 e.1⟩
   ·dsimp only;rw[if_neg e2];exact h9.2.2.2.2.1
   ·dsimp only;rw[if_neg e2];exact h9.2.2.2.2.2.1
   ·dsimp only;rw[if_neg e2];exact h9.2.2.2.2.2.2
  ·-- cn
   intro a b l' hm
   rw[ec]at hm
   have h9:=st.cn a b l' hm.1
   have n1:¬(a=v∧b=u):=by rintro⟨rfl,rfl⟩;exact c0 _ hm.1
   have e1:upd2 s.se v u 1 b a=s.se b a:=by simp only[upd2];grind
   have e2:upd2 s.se v u 1 a b=s.se a b:=by simp only[upd2];grind
   dsimp only
   rw[e1]
   refine⟨by rw[e2];exact h9.1,fun e=>?_,fun e=>?_⟩
   ·have h8:=h9.2.1 e
    have h7:=core0 a b h8.1
    refine⟨⟨(hp' _ _).2 (Or.inl h8.1.1),(hp' _ _).2 (Or.inl h8.1.2)⟩,?_⟩
    rw[if_neg h7.1];exact h8.2
   ·have h8:=h9.2.2 e
    have h7:=(hh a b ⟨by rw[e2];exact h9.1,by rw[e1];exact e⟩).2
    rw[if_neg h7];exact h8
  ·-- c1
   intro a b
   simp only[upd2]
   split
   ·rw[List.countP_append];have:=st.c1 v u;simpa [isCon]using this
   ·split
    ·have:=st.c1 u v;omega
    ·exact st.c1 a b
  ·-- co
   intro a b e
   have hc:=corg a b e
   have h9:=st.co a b hc
   have h7:=core0 a b hc
   have n1:¬(a=v∧b=u):=by rintro⟨rfl,rfl⟩;exact h7.2 (f1 _)
   have n2:¬(b=u∧a=v):=fun e=>n1 ⟨e.2,e.1⟩
   have n3:¬(b=v∧a=u):=by rintro⟨rfl,rfl⟩;exact h7.1 (f1 _)
   dsimp only
   rw[ei,if_neg n1,if_neg h7.1,if_neg h7.1,if_neg h7.2,if_neg h7.2]
   simp only[ec]
   refine⟨h9.1,h9.2.1,?_⟩
   rcases h9.2.2 with h8|h8|h8
   ·exact Or.inl ⟨h8.1,h8.2.1,fun l' hm=>h8.2.2 l' hm.1⟩
   ·exact Or.inr (Or.inl ⟨h8.1,h8.2.1,fun l' hm=>h8.2.2 l' hm.1⟩)
   ·exact Or.inr (Or.inr ⟨h8.1,h8.2.1,h8.2.2,by grind⟩)
  ·-- cu
   intro a b x y e1 e2 e3
   have hc1:=corg a b e1
   have hc2:=corg x y e2
   have h7:=core0 a b hc1
   have h8:=core0 x y hc2
   refine st.cu a b x y hc1 hc2 ?_
   have:=f3 a v x
   have:=f2 v a
   dsimp only at e3
   grind
  ·-- ch
   intro x y e
   rw[ei,ei]
   rcases kidg x y e with hk|⟨rfl,rfl⟩
   ·have h9:=st.ch x y hk
    have n1:¬(x=v∧y=u):=by rintro⟨rfl,rfl⟩;have:=hk.1;rw[b2]at this;cases this
    have n2:¬(y=v∧x=u):=by rintro⟨rfl,rfl⟩;exact npvu hk.1
    rw[if_neg n1,if_neg n2];exact h9
   ·rw[if_neg (by grind),if_pos ⟨rfl,rfl⟩]
    refine⟨i0',?_⟩
    simp only[chain]
    exact⟨by omega,trivial⟩
  ·-- i1
   intro x y l' n f hm
   dsimp only
   rw[hp']
   rcases em x y l' n f hm with⟨rfl,rfl,rfl,rfl,rfl⟩|hm
   ·rw[if_pos (f1 _),if_pos (f1 _)]
    refine⟨Or.inr ⟨rfl,rfl⟩,lv,fun e=>l2v e (by omega)⟩
   ·have h9:=st.i1 x y l' n f hm
    have:=hH y
    refine⟨Or.inl h9.1,?_,?_⟩
    ·grind
    ·grind
  ·-- rt
   intro a b e1 e2 e3
   have n1:a≠u∧g.par a=none:=by simp only[upd]at e1;grind
   have n2:b≠u∧g.par b=none:=by simp only[upd]at e2;grind
   refine st.rt a b n1.2 n2.2 ?_
   have:=rH a
   have:=rH b
   have:=f3 a v b
   have:=f2 v a
   dsimp only at e3
   grind
  ·-- p0
   intro z e
   dsimp only at e⊢
   have h9:=st.p0 z
   have h8:=rH z
   simp only[upd]
   grind
  ·-- dp
   intro x y e
   dsimp only
   rcases kidg x y e with hk|⟨rfl,rfl⟩
   ·have h9:=st.dp x y hk
    have:=fH x y (kidf x y hk)
    grind
   ·rw[if_neg hvu,if_pos (f1 _)];omega
  ·-- nm1
   intro z e
   obtain⟨a,b,d1,d2,d3,d4⟩:=st.nm1 z e
   exact⟨a,b,d1,(hd _ _).2 (Or.inl d2),d3,Or.inl d4⟩
  ·-- nm2
   intro x y l' n f hm
   rcases em x y l' n f hm with⟨rfl,rfl,rfl,rfl,rfl⟩|hm
   ·obtain⟨a,b,d1,d2,d3,d4⟩:=st.nm1 x (by omega)
    exact⟨a,b,d1,(hd _ _).2 (Or.inl d2),d3,Or.inr ⟨Or.inl (f1 _),Or.inr d4⟩⟩
   ·obtain⟨a,b,d1,d2,d3,d4⟩:=st.nm2 x y l' n f hm
    exact⟨a,b,d1,(hd _ _).2 (Or.inl d2),d3,Or.inl d4⟩
  ·-- nm3
   intro z e
   dsimp only at e⊢
   by_cases hz:g.fr u z
   ·obtain⟨a,b,d1,d2,d3,d4⟩:=st.nm3 v (by omega)
    rw[if_pos hz]
    exact⟨a,b,d1,(hd _ _).2 (Or.inl d2),d3,Or.inr ⟨Or.inl hz,Or.inr d4⟩⟩
   ·rw[if_neg hz]at e⊢
    obtain⟨a,b,d1,d2,d3,d4⟩:=st.nm3 z e
    exact⟨a,b,d1,(hd _ _).2 (Or.inl d2),d3,Or.inl d4⟩
  ·-- de
   intro a z b e1 e2 e3 e4
   dsimp only at e1 e2 e4⊢
   have w1:=st.de a z b
   have w2:=st.de v z b
   have w3:=st.de u z b (by omega)
   have w4:=st.de v v u
   have w5:=G.ws u v
   have w6:=hK a
   have w7:=fH a z
   have w8:=f1 v
   have w9:=f2 v u
   grind
  ·-- sz
   intro z e
   dsimp only
   by_cases hz:g.fr u z
   ·obtain⟨li,d1,d2,d3⟩:=st.sz v (G.lt _ _ hadj')
    rw[if_pos hz]
    exact⟨li,d1,d2,fun x hx=>⟨Or.inr ⟨Or.inl hz,Or.inr (d3 x hx).1⟩,(d3 x hx).2⟩⟩
   ·obtain⟨li,d1,d2,d3⟩:=st.sz z e
    rw[if_neg hz]
    exact⟨li,d1,d2,fun x hx=>⟨Or.inl (d3 x hx).1,(d3 x hx).2⟩⟩
  ·-- mst
   intro a b e
   rw[hse]at e
   rcases e with e|⟨rfl,rfl⟩
   ·exact st.mst a b e
   ·exact(st.mst _ _ c1).symm
  ·-- oc
   intro a b C D l' n f hAB l2 hm
   have:connect l2∈upd2 (upd2 (kS s.q) u v X) v u (kS s.q v u++[initiate (s.lev v) (s.nam v) (s.fnd v)]) a b:=by rw[hAB];simp[hm]
   rw[ec]at this
   have n1:¬(a=v∧b=u):=by rintro⟨rfl,rfl⟩;exact c0 _ this.1
   simp only[upd2,if_neg n1,if_neg this.2]at hAB
   exact st.oc a b C D l' n f hAB l2 hm
 ·rw[ekR]
  have kidg:∀a b,(upd g.par u (some v) b=some a∧upd g.par u (some v) a≠some b)↔(kid g a b∨(a=v∧b=u)):=fun a b=>by
   rw[ne_eq,hp',hp'];unfold kid;grind
  have corg:∀a b,(upd g.par u (some v) a=some b∧upd g.par u (some v) b=some a)→core g a b:=fun a b e=>by
   rw[hp',hp']at e;unfold core;grind
  have em:∀a b l' n f,initiate l' n f∈upd2 (kR s.q) v u (kR s.q v u++[initiate (s.lev v) (s.nam v) (s.fnd v)]) a b→(a=v∧b=u∧l'=s.lev v∧f=s.fnd v)∨initiate l' n f∈kR s.q a b:=by
   intro a b l' n f hm
   simp only[upd2]at hm
   split at hm
   ·rename_i e;simp at hm;grind
   ·exact Or.inr hm
  have er:∀a b w,report w∈upd2 (kR s.q) v u (kR s.q v u++[initiate (s.lev v) (s.nam v) (s.fnd v)]) a b↔report w∈kR s.q a b:=by
   intro a b w
   simp only[upd2]
   split
   ·rename_i e;rw[e.1,e.2];simp
   ·rfl
  have nkvu:¬kid g v u:=fun e=>by have:=e.1;rw[b2]at this;cases this
  refine⟨?_,?_,?_,?_,?_,?_,?_,?_,?_,?_,?_,?_,?_,?_,rp.bm,?_⟩
  ·intro z e
   have:=rp.s1 z e
   have:=hH z
   dsimp only at e⊢
   grind
  ·intro z e1 e2 e3
   have:=rp.s2 z
   have:=hH z
   dsimp only at e1 e2 e3⊢
   grind
  ·-- s3
   intro x y e1 e2 e3
   rcases (kidg x y).1 e2 with hk|⟨rfl,rfl⟩
   ·have:=rp.s3 x y
    have:=fH x y (kidf x y hk)
    dsimp only at e1 e3⊢
    grind
   ·dsimp only at e1 e3⊢
    have w1:=rp.s9 x y
    have w2:=f1 y
    have w3:=f2 x y
    have w4:=G.ws x y
    grind
  ·-- s14
   intro x y e1 e2 e3 e4
   rcases (kidg x y).1 e2 with hk|⟨rfl,rfl⟩
   ·have:=rp.s14 x y
    have:=fH x y (kidf x y hk)
    dsimp only at e1 e3 e4⊢
    grind
   ·dsimp only at e1 e3 e4⊢
    have w2:=f1 y
    grind
  ·-- s4
   intro x y l' n hm e1 e2
   dsimp only at e1 e2⊢
   rcases em x y l' n false hm with⟨rfl,rfl,rfl,w⟩|hm
   ·have w2:=f1 y
    have:=rp.s2 x
    grind
   ·have:=rp.s4 x y l' n hm
    have:=st.i1 x y l' n false (ini_RS.1 hm)
    have:=hH y
    grind
  ·-- s5
   intro x y l' n hm
   rcases em x y l' n true hm with⟨rfl,rfl,rfl,w⟩|hm
   ·have:=rp.s1 x w.symm
    dsimp only
    rw[if_pos (f1 _),if_pos (f1 _),if_pos (f1 _)]
    exact⟨this.1,this.2.1,this.2.2,fun _=>w.symm⟩
   ·have h9:=rp.s5 x y l' n hm
    have h8:¬g.fr u y:=fun e=>by have:=hH y e;omega
    refine⟨by dsimp only;rw[if_neg h8];exact h9.1,by dsimp only;rw[if_neg h8];exact h9.2.1,by dsimp only;rw[if_neg h8];exact h9.2.2.1,fun e=>?_⟩
    rcases (kidg x y).1 e with hk|⟨rfl,rfl⟩
    ·exact h9.2.2.2 hk
    ·exact(h8 (f1 _)).elim
  ·-- s6
   intro z e
   have:=rp.s6 z
   dsimp only at e⊢
   rcases hcnt with⟨w1,rfl⟩|⟨w1,rfl⟩
   ·simp only[upd];grind
   ·grind
  ·-- s9
   intro a b e1 e2 e3 e4
   dsimp only at e1 e2 e4⊢
   have:=rp.s9 a b
   have:=st.de u a b (by omega)
   grind
  ·-- si
   intro z e1 e2
   dsimp only at e1 e2⊢
   have:=rp.si z
   have:=hH z
   have:=f1 u
   simp only[upd];grind
  ·-- s13
   intro a b e1 e2 e3
   have hc:=corg a b e1
   have h7:=core0 a b hc
   have:=rp.s13 a b hc
   dsimp only at e2 e3⊢
   grind
  ·-- r1
   intro x y w hm
   rw[er]at hm
   rcases rp.r1 x y w hm with⟨w1,w2,w3,w4,w5,w6,w7,w8⟩|⟨w1,w2,w3,w4,w5,w6,w7⟩
   ·left
    have h8:¬g.fr u y:=fun e=>by have:=hH y e;omega
    have n1:¬(y=v∧x=u):=by rintro⟨rfl,rfl⟩;exact npvu w2
    refine⟨by dsimp only;rw[if_neg h8];exact w1,(hp' _ _).2 (Or.inl w2),by dsimp only;rw[if_neg h8];exact w3,w4,w5,by dsimp only;rw[if_neg h8];exact w6,fun e=>?_,?_⟩
    ·rcases (kidg x y).1 e with hk|⟨rfl,rfl⟩
     ·exact w7 hk
     ·exact(h8 (f1 _)).elim
    ·simp only[upd2,if_neg n1];exact w8
   ·right
    have n1:¬(y=v∧x=u):=by rintro⟨rfl,rfl⟩;exact nkvu w1
    refine⟨(kidg y x).2 (Or.inl w1),w2,w3,w4,w5,fun e=>?_,?_⟩
    ·dsimp only at e⊢
     have:=hH x
     have:=fH y x (kidf y x w1)
     grind
    ·simp only[upd2,if_neg n1];exact w7
  ·-- r2
   intro a b
   simp only[upd2]
   split
   ·rw[List.countP_append];have:=rp.r2 u v;simpa [isRep]using this
   ·exact rp.r2 a b
  ·-- hd
   intro x y e1 e2 e3 e4
   have e5:∀w,report w∉kR s.q y x:=fun w hm=>e4 w ((er y x w).2 hm)
   dsimp only at e1 e3⊢
   rcases (kidg x y).1 e2 with hk|⟨rfl,rfl⟩
   ·have:=rp.hd x y e1 hk
    have:=fH x y (kidf x y hk)
    have:=hH x
    grind
   ·have:=rp.s1 x e1
    have:=f1 y
    grind
  ·-- ct
   intro x e
   dsimp only at e
   obtain⟨li,l1,l2,l3⟩:=rp.ct x e
   have hx:¬g.fr u x:=fun e2=>by have:=hH x e2;rw[e]at this;simp at this
   have hZ:∀y,kid g x y→¬g.fr u y:=fun y hk e2=>hx ((fH x y (kidf x y hk)).2 e2)
   by_cases hxv:x=v
   ·subst hxv
    have hc:cnt'=upd s.cnt x (s.cnt x+1):=by grind
    refine⟨u::li,?_,?_,fun y=>?_⟩
    ·refine List.nodup_cons.2 ⟨fun hm=>nkvu ((l3 u).1 hm).1,l1⟩
    ·simp[hc,upd,l2]
    ·rw[List.mem_cons,l3]
     simp only[er]
     have w1:=kidg x y
     have w2:=hZ y
     have w3:=f1 u
     have w4:=rp.s1 x e
     have w5:kid { fr:=fun a b=>g.fr a b∨((g.fr u a∨g.fr x a)∧(g.fr u b∨g.fr x b)),L:=fun z=>if g.fr u z then g.L x else g.L z,N:=fun z=>if g.fr u z then g.N x else g.N z,ph:=fun z=>if g.fr u z then g.ph x else g.ph z,W:=fun z=>if g.fr u z then g.W x else g.W z,par:=upd g.par u (some x),dep:=fun z=>if g.fr u z then g.dep x+1+g.dep z else g.dep z} x y↔(kid g x y∨(x=x∧y=u)):=w1
     rw[w5]
     constructor
     ·rintro (rfl|⟨y1,y2⟩)
      ·refine⟨Or.inr ⟨rfl,rfl⟩,Or.inl ?_⟩
       rw[if_pos w3];exact w4.2.2
      ·refine⟨Or.inl y1,?_⟩
       rw[if_neg (w2 y1)];exact y2
     ·rintro⟨y1|⟨_,rfl⟩,y2⟩
      ·rw[if_neg (w2 y1)]at y2
       exact Or.inr ⟨y1,y2⟩
      ·exact Or.inl rfl
   ·have hc:cnt' x=s.cnt x:=by
     rcases hcnt with⟨_,rfl⟩|⟨_,rfl⟩
     ·simp only[upd,if_neg hxv]
     ·rfl
    refine⟨li,l1,by rw[l2];exact hc.symm,fun y=>?_⟩
    rw[l3]
    simp only[er]
    have w1:=kidg x y
    have w2:=hZ y
    constructor
    ·rintro⟨y1,y2⟩
     refine⟨w1.2 (Or.inl y1),?_⟩
     rw[if_neg (w2 y1)];exact y2
    ·rintro⟨y1,y2⟩
     rcases w1.1 y1 with y1|⟨y1,_⟩
     ·rw[if_neg (w2 y1)]at y2
      exact⟨y1,y2⟩
     ·exact(hxv y1).elim
  ·-- s15
   intro a b e1 e2
   have hc:=corg a b e1
   have h7:=core0 a b hc
   have:=rp.s15 a b hc
   dsimp only at e2⊢
   grind
 ·rw[kT_add rfl,kT_rem hq rfl]
  have htu:=(ts.t0 u (hH u (f1 u)).2.2.2.2).1
  refine⟨ts.t0,?_,?_,ts.t3,?_,?_,?_,ts.t7⟩
  ·intro y x hx
   dsimp only at hx⊢
   have w1:=ts.t1 y x hx
   refine⟨w1.1,?_,fun z z1 z2=>w1.2.2 z z1 ((hse0 _ _).1 z2).1⟩
   rw[hse0,hse,hse]
   grind
  ·intro y x e1 e2 e3 e4 e5
   dsimp only at e5
   rw[hse0]at e5
   exact ts.t2 y x e1 e2 e3 e4 e5.1
  ·intro y x l' n hm
   have w1:=ts.t4 y x l' n hm
   dsimp only
   rcases w1 with w1|w1
   ·exact Or.inl w1
   ·refine Or.inr ⟨w1.1,w1.2.1,Or.inl w1.2.2.1,w1.2.2.2.1,w1.2.2.2.2.1,?_⟩
    rw[ne_eq,hse0];exact fun e=>w1.2.2.2.2.2 e.1
  ·intro y x hm
   have w1:=ts.t5 y x hm
   have w2:s.fnd y=true:=by
    cases e:s.fnd y
    ·have:=(ts.t0 y e).1;rw[w1.1]at this;cases this
    ·rfl
   have hy:¬g.fr u y:=fun e2=>by have:=hH y e2;rw[w2]at this;simp at this
   have w3:=hH x
   have w4:=hK y
   have w5:=f3 y v x
   have w6:=f2 v y
   dsimp only
   grind
  ·intro y x hm
   have w1:=ts.t6 y x hm
   dsimp only
   refine⟨w1.1,Or.inl w1.2.1,?_⟩
   rw[ne_eq,hse0];exact fun e=>w1.2.2 e.1
 ·rw[kX_add rfl,kX_rem hq rfl]
  have kidg:∀a b,(upd g.par u (some v) b=some a∧upd g.par u (some v) a≠some b)↔(kid g a b∨(a=v∧b=u)):=fun a b=>by
   rw[ne_eq,hp',hp'];unfold kid;grind
  refine⟨?_,?_,?_,?_⟩
  ·intro y e1 e2 e3 e4
   dsimp only at e1 e2 e3 e4⊢
   have hy:¬g.fr u y:=fun e=>by have:=hH y e;rw[if_pos e]at e2;omega
   rw[if_neg hy]at e1 e2 e3
   obtain⟨v',d1,d2,d3⟩:=bs.bb y e1 e2 e3 e4
   refine⟨v',d1,d2,?_⟩
   rcases d3 with d3|d3|d3
   ·exact Or.inl ⟨d3,hy⟩
   ·refine Or.inr (Or.inl ?_)
    rw[hse0,if_neg hy]
    have w3:=hH v'
    have w4:=hK y
    have w5:=f3 y v v'
    have w6:=f2 v y
    have w7:=f1 u
    have w8:=f1 v
    grind
   ·refine Or.inr (Or.inr ⟨(kidg y v').2 (Or.inl d3.1),?_,d3.2.2⟩)
    have:=fH y v' (kidf _ _ d3.1)
    rw[if_neg (fun e=>hy (this.2 e))];exact d3.2.1
  ·intro z hz
   have w:=bs.k1 z hz
   have hy:¬g.fr u z:=fun e=>by have:=hH z e;omega
   have n1:z≠u:=by rintro rfl;exact hy (f1 _)
   dsimp only
   rw[if_neg hy,if_neg hy,if_neg hy,upd_ne _ _ n1]
   exact w
  ·intro y c hr
   have w:=bs.k2 y c hr
   have hy:¬g.fr u y:=fun e=>by have:=hH y e;omega
   have hc:¬g.fr u c:=fun e=>hy ((fH y c (kidf _ _ w.2.2.2.1)).2 e)
   have n1:y≠u:=by rintro rfl;exact hy (f1 _)
   dsimp only
   rw[if_neg hy,if_neg hc,if_neg hc,upd_ne _ _ n1]
   exact⟨w.1,w.2.1,w.2.2.1,(kidg y c).2 (Or.inl w.2.2.2.1),w.2.2.2.2⟩
  ·intro z hz a b e1 e2
   have w:=bs.ov z hz
   dsimp only at e1⊢
   have w1:=w a b
   have w2:=w u v
   have w3:=w v u
   have w4:=f2 u z
   have w5:=f2 v z
   have w6:=f2 v u
   grind
 ·rw[kX_add rfl,kX_rem hq rfl]
  have kidg:∀a b,(upd g.par u (some v) b=some a∧upd g.par u (some v) a≠some b)↔(kid g a b∨(a=v∧b=u)):=fun a b=>by
   rw[ne_eq,hp',hp'];unfold kid;grind
  refine⟨?_,?_,?_,?_⟩
  ·intro z hz
   have:=pa.p1 z hz.1
   dsimp only;rw[if_neg hz.2];exact this
  ·intro z x e1 e2 e3 e4
   dsimp only at e1 e2 e3⊢
   rcases (kidg z x).1 e4 with hk|⟨rfl,rfl⟩
   ·have w1:=fH z x (kidf z x hk)
    have w2:=pa.u1 z x
    have w3:=f1 u
    have w4:z≠u→g.par z≠none:=fun n1=>by rw[upd_ne _ _ n1]at e3;exact e3
    grind
   ·exact fun e=>e.2 (f1 _)
  ·intro z hz
   have w:=pa.k3 z hz
   have hy:¬g.fr u z:=fun e=>by have:=hH z e;omega
   dsimp only
   rw[if_neg hy]
   refine⟨w.1,fun e=>w.2.1 e.1,fun x e1 e2=>?_⟩
   rcases (kidg z x).1 e2 with hk|⟨rfl,rfl⟩
   ·exact fun e=>w.2.2 x e1 hk e.1
   ·exact fun e=>e.2 (f1 _)
  ·intro y c hr
   have w:=pa.k4 y c hr
   have hy:¬g.fr u y:=fun e=>by have:=hH y e;omega
   dsimp only
   rw[if_neg hy]
   exact⟨w.1,fun e=>w.2.1 e.1,w.2.2⟩
end Go.Proofs.YtlfijfodklhplaaGreat.Ghs
