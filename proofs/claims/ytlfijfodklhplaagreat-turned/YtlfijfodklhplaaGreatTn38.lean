import Derived.Test.YtlfijfodklhplaaGreatTn37
set_option linter.unusedVariables false
set_option linter.unusedSimpArgs false
namespace Go.Proofs.YtlfijfodklhplaaGreat.Ghs
open Go.RowKit
open NMsg
open Classical in
theorem ev_merge{G:Gr}{s:St}{g:Gh}{h:Gs}(hI:Inv G s g h){u v:Nat}(ht:h.tk u)(ha:G.adj u v)(h0:s.se u v=0)(h1:s.se v u=1)(hw:G.w u v=g.W u)(hf:¬g.fr u v)(hl:g.L u≤s.lev v):
 Inv G { s with se:=upd2 s.se u v 1,q:=addq s.q u v (connect (s.lev u))}
  { fr:=fun a b=>g.fr a b∨((g.fr u a∨g.fr v a)∧(g.fr u b∨g.fr v b)),L:=fun z=>if g.fr u z∨g.fr v z then g.L u+1 else g.L z,N:=fun z=>if g.fr u z∨g.fr v z then G.w u v else g.N z,ph:=fun z=>if g.fr u z∨g.fr v z then 0 else g.ph z,W:=fun z=>if g.fr u z∨g.fr v z then 0 else g.W z,par:=upd (upd g.par u (some v)) v (some u),dep:=g.dep}
  { h with Z:=fun z=>h.Z z∧¬(g.fr u z∨g.fr v z),be:=fun z=>if g.fr u z∨g.fr v z then 0 else h.be z,tk:=fun z=>z≠u∧h.tk z,ps:=fun z=>h.ps z∧¬(g.fr u z∨g.fr v z)}:=by
 obtain⟨q0,st,rp,ts,bs,pa⟩:=hI
 obtain⟨k1,k2,k3,k4,k5,k6⟩:=bs.k1 u ht
 have hmst:=st.cutEdge ha (by omega) hw hf
 obtain⟨b1,b2,b3,b4,b5,b6,b7⟩:=st.hf v u ⟨h1,by omega⟩
 have hLv:g.L v=g.L u:=by omega
 have hlu:s.lev u=g.L u:=by omega
 have hlv:s.lev v=g.L u:=by omega
 have hav:=(st.sa v u (by omega)).2
 have ha':=G.sym _ _ ha
 have huv:u≠v:=by rintro rfl;exact G.irr _ ha
 have hws:=G.ws u v
 have f1:=st.f1
 have f2:=st.f2
 have f3:=st.f3
 have hM:∃M:Nat→Prop,∀z,M z↔(g.fr u z∨g.fr v z):=⟨_,fun z=>Iff.rfl⟩
 obtain⟨M,hM⟩:=hM
 have eM:(fun z=>g.fr u z∨g.fr v z)=M:=funext fun z=>propext (hM z).symm
 have Mu:M u:=(hM u).2 (Or.inl (f1 u))
 have Mv:M v:=(hM v).2 (Or.inr (f1 v))
 have fM:∀a b,g.fr a b→(M a↔M b):=fun a b e=>by
  rw[hM,hM]
  exact⟨fun x=>x.elim (fun x=>Or.inl (f3 _ _ _ x e)) (fun x=>Or.inr (f3 _ _ _ x e)),fun x=>x.elim (fun x=>Or.inl (f3 _ _ _ x (f2 _ _ e))) (fun x=>Or.inr (f3 _ _ _ x (f2 _ _ e)))⟩
 have hMz:∀z,M z→g.L z=g.L u∧g.ph z≠0∧s.lev z≤g.L u∧s.fnd z=false:=fun z hz=>by
  have w:g.L z=g.L u∧g.ph z≠0:=by
   rcases (hM z).1 hz with e|e
   ·have:=st.f4 u z e;omega
   ·have:=st.f4 v z e;omega
  have:=st.l1 z
  refine⟨w.1,w.2,by omega,?_⟩
  cases e:s.fnd z
  ·rfl
  ·have:=rp.s1 z e;omega
 have rM:∀z,M z→g.par z=none→z=u∨z=v:=fun z hz e=>by
  rcases (hM z).1 hz with e2|e2
  ·exact Or.inl (st.rt u z k3 e e2).symm
  ·exact Or.inr (st.rt v z b2 e e2).symm
 have ph1:∀z,M z→g.ph z=1→g.par z=none→z=u:=fun z hz e1 e=>by
  rcases rM z hz e with rfl|rfl
  ·rfl
  ·omega
 have parf:∀a b,g.par a=some b→g.fr a b:=fun a b e=>(st.db a b (st.pr a b e)).1
 have hp':∀a b,upd (upd g.par u (some v)) v (some u) a=some b↔(g.par a=some b∨(a=u∧b=v)∨(a=v∧b=u)):=fun a b=>by simp only[upd];grind
 have hpn:∀a,upd (upd g.par u (some v)) v (some u) a=none↔(g.par a=none∧a≠u∧a≠v):=fun a=>by simp only[upd];grind
 have kidf:∀x y,kid g x y→g.fr x y:=fun x y e=>f2 _ _ (parf _ _ e.1)
 have corf:∀x y,core g x y→g.fr x y:=fun x y e=>parf _ _ e.1
 have core0:∀x y,core g x y→¬M x∧¬M y:=fun x y e=>by
  have:=(st.co x y e).1
  have h1:=fM x y (corf x y e)
  have h2:=hMz x
  grind
 have kidg:∀a b,(upd (upd g.par u (some v)) v (some u) b=some a∧upd (upd g.par u (some v)) v (some u) a≠some b)↔kid g a b:=fun a b=>by
  rw[ne_eq,hp',hp'];unfold kid;grind
 have corg:∀a b,(upd (upd g.par u (some v)) v (some u) a=some b∧upd (upd g.par u (some v)) v (some u) b=some a)↔(core g a b∨(a=u∧b=v)∨(a=v∧b=u)):=fun a b=>by
  rw[hp',hp'];unfold core;grind
 have hse:∀a b,upd2 s.se u v 1 a b=1↔(s.se a b=1∨(a=u∧b=v)):=fun a b=>by simp only[upd2];grind
 have hse0:∀a b,upd2 s.se u v 1 a b=0↔(s.se a b=0∧¬(a=u∧b=v)):=fun a b=>by simp only[upd2];grind
 have hse2:∀a b,upd2 s.se u v 1 a b=2↔s.se a b=2:=fun a b=>by simp only[upd2];grind
 have hd:∀a b,dbl (upd2 s.se u v 1) a b↔(dbl s.se a b∨(a=v∧b=u)∨(a=u∧b=v)):=fun a b=>by simp only[dbl,hse];grind
 have hh:∀a b,half (upd2 s.se u v 1) a b→half s.se a b∧¬M a:=fun a b e=>by
  have e1:half s.se a b∧¬(a=v∧b=u):=by
   unfold half at *;rw[hse,ne_eq,hse]at e;grind
  refine⟨e1.1,fun e2=>e1.2 ?_⟩
  have h9:=st.hf a b e1.1
  rcases rM a e2 h9.2.1 with rfl|rfl
  ·omega
  ·have h8:=(st.sa a b (by have:=e1.1.1;omega)).1
   have:=G.wd a b a u h8 ha' (by omega)
   refine⟨rfl,?_⟩
   rcases this with x|x
   ·exact x.2
   ·exact(huv x.1.symm).elim
 have nc:∀l,connect l∉kS s.q u v:=fun l hm=>by have:=(st.cn u v l hm).1;omega
 have ni:∀l n f,initiate l n f∉kS s.q u v:=fun l n f hm=>by
  have hp:=(st.i1 u v l n f hm).1
  rw[b2]at hp;cases hp
 have ni':∀l n f,initiate l n f∉kS s.q v u:=fun l n f hm=>by
  have hp:=(st.i1 v u l n f hm).1
  rw[k3]at hp;cases hp
 have i0:inits (kS s.q u v)=[]:=by
  apply List.eq_nil_iff_forall_not_mem.2
  rintro⟨l,n,f⟩ hm
  exact ni _ _ _ ((mem_inits _).1 hm)
 have i0':inits (kS s.q v u)=[]:=by
  apply List.eq_nil_iff_forall_not_mem.2
  rintro⟨l,n,f⟩ hm
  exact ni' _ _ _ ((mem_inits _).1 hm)
 have fr':∀a b,¬M a→((g.fr a b∨((g.fr u a∨g.fr v a)∧(g.fr u b∨g.fr v b)))↔g.fr a b):=fun a b e=>by
  rw[hM]at e
  exact⟨fun x=>x.elim id (fun x=>(e x.1).elim),Or.inl⟩
 refine⟨q0_add q0 ha k1,?_,?_,?_,?_,?_⟩
 ·rw[kS_addT rfl]
  have ei:∀a b,inits (upd2 (kS s.q) u v (kS s.q u v++[connect (s.lev u)]) a b)=inits (kS s.q a b):=by
   intro a b;simp only[upd2];split
   ·rename_i e;rw[e.1,e.2,inits_app];simp[inits]
   ·rfl
  have em:∀a b l n f,initiate l n f∈upd2 (kS s.q) u v (kS s.q u v++[connect (s.lev u)]) a b↔initiate l n f∈kS s.q a b:=by
   intro a b l n f;rw[←mem_inits,ei,mem_inits]
  have ec:∀a b l,connect l∈upd2 (kS s.q) u v (kS s.q u v++[connect (s.lev u)]) a b↔(connect l∈kS s.q a b∨(a=u∧b=v∧l=s.lev u)):=by
   intro a b l;simp only[upd2];split
   ·rename_i e;rw[e.1,e.2];simp
   ·rename_i e;grind
  refine⟨?_,?_,?_,?_,?_,?_,?_,?_,?_,?_,?_,?_,?_,?_,?_,?_,?_,?_,?_,?_,?_,?_,?_,?_,?_,?_,?_,?_,?_,?_,?_⟩
  ·intro a b m hm;simp only[upd2]at hm;have:=st.qa a b m;grind
  ·intro a b;simp only[upd2];have:=st.sa a b;grind
  ·-- asl
   intro z hz
   dsimp only at hz
   have h9:=st.asl z hz
   have nM:¬M z:=fun e=>by
    rcases (hM z).1 e with e|e
    ·have:=st.f5 z u h9.2.1 (f2 _ _ e)
     subst this
     rw[k1]at hz;cases hz
    ·have:=st.f5 z v h9.2.1 (f2 _ _ e)
     subst this
     rw[hav]at hz;cases hz
   have n1:z≠u:=by rintro rfl;exact nM Mu
   have n2:z≠v:=by rintro rfl;exact nM Mv
   simp only[←hM,if_neg nM,upd,if_neg n1,if_neg n2]
   exact h9
  ·intro a;exact Or.inl (f1 a)
  ·intro a b e;have:=f2 a b;dsimp only at e⊢;grind
  ·-- f3
   intro a b c e1 e2
   dsimp only at e1 e2⊢
   simp only[←hM]at e1 e2⊢
   have w1:=fM a b
   have w3:=fM b c
   have w5:=f3 a b c
   grind
  ·-- f4
   intro a b e
   dsimp only at e⊢
   simp only[←hM]at e⊢
   have w1:=fM a b
   have w2:=st.f4 a b
   grind
  ·-- f5
   intro a b e1 e2
   dsimp only at e1 e2
   simp only[←hM]at e1 e2
   have w1:=st.f5 a b
   grind
  ·intro z;have:=hMz z;have:=st.l1 z;dsimp only;simp only[←hM];grind
  ·intro z e1 e2
   dsimp only at e1 e2⊢
   simp only[←hM]at e1 e2⊢
   have:=hMz z;have:=st.l2 z;grind
  ·intro a b e;rw[hse2]at e;exact Or.inl (st.se2 a b e)
  ·intro a b;simp only[upd2];have:=st.se3 a b;grind
  ·-- db
   intro a b e
   rw[hd]at e
   dsimp only
   rw[hp',hp']
   simp only[←hM]
   have:=st.db a b
   grind
  ·-- pr
   intro a b e
   rw[hp']at e
   rw[hd]
   have:=st.pr a b
   grind
  ·-- hf
   intro a b e
   obtain⟨e1,e2⟩:=hh a b e
   have h9:=st.hf a b e1
   have n1:a≠u:=by rintro rfl;exact e2 Mu
   have n2:a≠v:=by rintro rfl;exact e2 Mv
   dsimp only
   rw[ec,fr' a b e2]
   simp only[←hM,if_neg e2,upd,if_neg n1,if_neg n2]
   exact⟨h9.1,h9.2.1,h9.2.2.1,Or.inl h9.2.2.2.1,h9.2.2.2.2⟩
  ·-- cn
   intro a b l' hm
   rw[ec]at hm
   dsimp only
   simp only[←hM]
   rcases hm with hm|⟨rfl,rfl,rfl⟩
   ·have h9:=st.cn a b l' hm
    by_cases e:a=v∧b=u
    ·obtain⟨rfl,rfl⟩:=e
     have h8:=h9.2.2 (by omega)
     refine⟨(hse _ _).2 (Or.inl h9.1),fun _=>⟨(corg _ _).2 (Or.inr (Or.inr ⟨rfl,rfl⟩)),?_,by omega,by omega⟩,fun e=>?_⟩
     ·rw[if_pos Mv];omega
     ·exact(e ((hse _ _).2 (Or.inr ⟨rfl,rfl⟩))).elim
    ·have n1:¬(a=u∧b=v):=by rintro⟨rfl,rfl⟩;exact nc _ hm
     have e1:upd2 s.se u v 1 b a=s.se b a:=by simp only[upd2];grind
     have e2:upd2 s.se u v 1 a b=s.se a b:=by simp only[upd2];grind
     rw[e1,e2]
     refine⟨h9.1,fun e=>?_,fun e=>?_⟩
     ·have h8:=h9.2.1 e
      have h7:=core0 a b h8.1
      rw[if_neg h7.1]
      exact⟨(corg _ _).2 (Or.inl h8.1),h8.2⟩
     ·have h8:=h9.2.2 e
      have h7:=(hh a b ⟨by rw[e2];exact h9.1,by rw[e1];exact e⟩).2
      rw[if_neg h7];exact h8
   ·refine⟨(hse _ _).2 (Or.inr ⟨rfl,rfl⟩),fun _=>⟨(corg _ _).2 (Or.inr (Or.inl ⟨rfl,rfl⟩)),?_,rfl,by omega⟩,fun e=>?_⟩
    ·rw[if_pos Mu];omega
    ·exact(e ((hse _ _).2 (Or.inl h1))).elim
  ·-- c1
   intro a b;simp only[upd2];split
   ·rw[List.countP_append]
    have:(kS s.q u v).countP isCon=0:=List.countP_eq_zero.2 fun m hm=>by cases m<;>simp[isCon];exact nc _ hm
    rw[this];simp[isCon]
   ·exact st.c1 a b
  ·-- co
   intro a b e
   dsimp only
   rw[ei]
   simp only[←hM,ec]
   rcases (corg a b).1 e with hc|⟨rfl,rfl⟩|⟨rfl,rfl⟩
   ·have h9:=st.co a b hc
    have h7:=core0 a b hc
    have n3:¬(b=u∧a=v):=by rintro⟨rfl,rfl⟩;exact h7.1 Mv
    rw[if_neg h7.1,if_neg h7.1,if_neg h7.2,if_neg h7.2]
    refine⟨h9.1,h9.2.1,?_⟩
    rcases h9.2.2 with h8|h8|h8
    ·exact Or.inl ⟨h8.1,h8.2.1,by grind⟩
    ·exact Or.inr (Or.inl ⟨h8.1,h8.2.1,by grind⟩)
    ·exact Or.inr (Or.inr ⟨h8.1,h8.2.1,Or.inl h8.2.2⟩)
   ·rw[if_pos Mu,if_pos Mu,if_pos Mv]
    refine⟨rfl,rfl,Or.inr (Or.inr ⟨by omega,i0,Or.inl ?_⟩)⟩
    rw[b7];exact b4
   ·rw[if_pos Mv,if_pos Mv,if_pos Mu]
    refine⟨rfl,hws,Or.inr (Or.inr ⟨by omega,i0',Or.inr ⟨rfl,rfl,rfl⟩⟩)⟩
  ·-- cu
   intro a b x y e1 e2 e3
   dsimp only at e3
   simp only[←hM]at e3
   have w1:=core0 a b
   have w2:=core0 x y
   have w3:=st.cu a b x y
   have w4:=fM a x
   rcases (corg a b).1 e1 with hc|hc|hc<;>rcases (corg x y).1 e2 with hc2|hc2|hc2<;>grind
  ·-- ch
   intro x y e
   rw[ei,ei]
   exact st.ch x y ((kidg x y).1 e)
  ·-- i1
   intro x y l' n f hm
   rw[em]at hm
   dsimp only
   rw[hp']
   simp only[←hM]
   have h9:=st.i1 x y l' n f hm
   have:=hMz y
   refine⟨Or.inl h9.1,?_,?_⟩<;>grind
  ·-- rt
   intro a b e1 e2 e3
   rw[hpn]at e1 e2
   refine st.rt a b e1.1 e2.1 ?_
   dsimp only at e3
   simp only[←hM]at e3
   have:=rM a
   grind
  ·-- p0
   intro z e
   dsimp only at e⊢
   rw[ne_eq,hpn]
   simp only[←hM]at e⊢
   have h9:=st.p0 z
   have h8:=rM z
   grind
  ·intro x y e;exact st.dp x y ((kidg x y).1 e)
  ·-- nm1
   intro z e
   obtain⟨a,b,d1,d2,d3,d4⟩:=st.nm1 z e
   exact⟨a,b,d1,(hd _ _).2 (Or.inl d2),d3,Or.inl d4⟩
  ·-- nm2
   intro x y l' n f hm
   rw[em]at hm
   obtain⟨a,b,d1,d2,d3,d4⟩:=st.nm2 x y l' n f hm
   exact⟨a,b,d1,(hd _ _).2 (Or.inl d2),d3,Or.inl d4⟩
  ·-- nm3
   intro z e
   dsimp only at e⊢
   by_cases hz:M z
   ·have hz':=(hM z).1 hz
    rw[if_pos hz']
    exact⟨u,v,ha,(hd _ _).2 (Or.inr (Or.inr ⟨rfl,rfl⟩)),rfl,Or.inr ⟨hz',Or.inl (f1 _)⟩⟩
   ·have hz':=fun e=>hz ((hM z).2 e)
    rw[if_neg hz']at e⊢
    obtain⟨a,b,d1,d2,d3,d4⟩:=st.nm3 z e
    exact⟨a,b,d1,(hd _ _).2 (Or.inl d2),d3,Or.inl d4⟩
  ·-- de
   intro a z b e1 e2 e3 e4
   dsimp only at e1 e2 e4⊢
   simp only[←hM]at e1 e2 e4⊢
   have w1:=st.de a z b
   grind
  ·-- sz
   intro z e
   dsimp only
   by_cases hz:M z
   ·have hz':=(hM z).1 hz
    obtain⟨li,d1,d2,d3⟩:=st.sz v (G.lt _ _ ha')
    obtain⟨lj,e1,e2,e3⟩:=st.sz u (G.lt _ _ ha)
    rw[if_pos hz']
    refine⟨lj++li,List.nodup_append.2 ⟨e1,d1,?_⟩,?_,fun x hx=>?_⟩
    ·rintro x hx y hy rfl
     exact hf (f3 _ _ _ (e3 x hx).1 (f2 _ _ (d3 x hy).1))
    ·rw[List.length_append,e2,d2,hLv,Nat.pow_succ];omega
    ·rcases List.mem_append.1 hx with hx|hx
     ·exact⟨Or.inr ⟨hz',Or.inl (e3 x hx).1⟩,(e3 x hx).2⟩
     ·exact⟨Or.inr ⟨hz',Or.inr (d3 x hx).1⟩,(d3 x hx).2⟩
   ·have hz':=fun e=>hz ((hM z).2 e)
    obtain⟨li,d1,d2,d3⟩:=st.sz z e
    rw[if_neg hz']
    exact⟨li,d1,d2,fun x hx=>⟨Or.inl (d3 x hx).1,(d3 x hx).2⟩⟩
  ·-- mst
   intro a b e
   rw[hse]at e
   rcases e with e|⟨rfl,rfl⟩
   ·exact st.mst a b e
   ·exact Or.inl hmst
  ·-- oc
   intro a b A B l n f hAB l'
   simp only[upd2]at hAB
   by_cases e:a=u∧b=v
   ·rw[if_pos e]at hAB
    exfalso
    have:initiate l n f∈kS s.q u v++[connect (s.lev u)]:=by rw[hAB];simp
    simp at this
    exact ni _ _ _ this
   ·rw[if_neg e]at hAB
    exact st.oc a b A B l n f hAB l'
 ·rw[kR_add rfl]
  refine⟨?_,?_,?_,?_,?_,?_,rp.s6,?_,?_,?_,?_,rp.r2,?_,?_,rp.bm,?_⟩
  ·intro z e
   have:=rp.s1 z e
   have:=hMz z
   dsimp only at e⊢
   simp only[←hM]
   grind
  ·intro z e1 e2 e3
   have:=rp.s2 z
   have:=hMz z
   dsimp only at e1 e2 e3⊢
   simp only[←hM]at e1 e2⊢
   grind
  ·-- s3
   intro x y e1 e2 e3
   have hk:=(kidg x y).1 e2
   have:=rp.s3 x y
   have:=fM x y (kidf x y hk)
   dsimp only at e1 e3⊢
   simp only[←hM]at e1 e3⊢
   grind
  ·-- s14
   intro x y e1 e2 e3 e4
   have hk:=(kidg x y).1 e2
   have:=rp.s14 x y
   have:=fM x y (kidf x y hk)
   dsimp only at e1 e3 e4⊢
   simp only[←hM]at e1 e3⊢
   grind
  ·-- s4
   intro x y l' n hm e1 e2
   dsimp only at e1 e2⊢
   simp only[←hM]at e1 e2⊢
   have:=rp.s4 x y l' n hm
   have:=st.i1 x y l' n false (ini_RS.1 hm)
   have:=hMz y
   grind
  ·-- s5
   intro x y l' n hm
   have h9:=rp.s5 x y l' n hm
   have h8:¬M y:=fun e=>by have:=hMz y e;omega
   dsimp only
   simp only[←hM,if_neg h8]
   exact⟨h9.1,h9.2.1,fun e=>h9.2.2.1 e.1,fun e=>h9.2.2.2 ((kidg x y).1 e)⟩
  ·-- s9
   intro a b e1 e2 e3 e4
   dsimp only at e1 e2 e4⊢
   simp only[←hM]at e1 e2 e4⊢
   have:=rp.s9 a b
   grind
  ·-- si
   intro z e1 e2
   dsimp only at e1 e2⊢
   simp only[←hM]at e1 e2
   have:=rp.si z
   have:=hMz z
   simp only[upd];grind
  ·-- s13
   intro a b e1 e2 e3
   dsimp only at e2 e3⊢
   simp only[←hM]at e2⊢
   have nM:¬M a:=fun e=>by have:=hMz a e;rw[if_pos e]at e2;omega
   have hc:core g a b:=by
    rcases (corg a b).1 e1 with hc|⟨rfl,rfl⟩|⟨rfl,rfl⟩
    ·exact hc
    ·exact(nM Mu).elim
    ·exact(nM Mv).elim
   rw[if_neg nM]at e2⊢
   exact rp.s13 a b hc e2 e3
  ·-- r1
   intro x y w hm
   rcases rp.r1 x y w hm with⟨w1,w2,w3,w4,w5,w6,w7,w8⟩|⟨w1,w2,w3,w4,w5,w6,w7⟩
   ·left
    have h8:¬M y:=fun e=>by have:=hMz y e;omega
    dsimp only
    simp only[←hM,if_neg h8]
    exact⟨w1,(hp' _ _).2 (Or.inl w2),w3,w4,w5,w6,fun e=>w7 ((kidg x y).1 e),w8⟩
   ·right
    refine⟨(kidg y x).2 w1,w2,w3,w4,w5,fun e=>?_,w7⟩
    dsimp only at e⊢
    simp only[←hM]at e⊢
    have:=hMz x
    have:=fM y x (kidf y x w1)
    grind
  ·-- hd
   intro x y e1 e2 e3 e4
   have hk:=(kidg x y).1 e2
   dsimp only at e1 e3⊢
   simp only[←hM]at e3⊢
   rw[if_neg e3.2]
   exact rp.hd x y e1 hk e3.1 e4
  ·-- ct
   intro x e
   dsimp only at e
   obtain⟨li,l1,l2,l3⟩:=rp.ct x e
   have hx:¬M x:=fun e2=>by have:=hMz x e2;rw[e]at this;simp at this
   refine⟨li,l1,l2,fun y=>?_⟩
   rw[l3]
   have w1:=kidg x y
   constructor
   ·rintro⟨y1,y2⟩
    refine⟨w1.2 y1,y2.imp_left fun z1 z2=>z1 z2.1⟩
   ·rintro⟨y1,y2⟩
    have y3:=w1.1 y1
    refine⟨y3,y2.imp_left fun z1 z2=>z1 ⟨z2,fun z3=>hx ((fM x y (kidf _ _ y3)).2 ((hM y).2 z3))⟩⟩
  ·-- s15
   intro a b e1 e2 e3
   dsimp only at e2 e3
   simp only[←hM]at e2 e3
   rcases (corg a b).1 e1 with hc|⟨rfl,rfl⟩|⟨rfl,rfl⟩
   ·rw[if_neg e3.2]at e2
    exact rp.s15 a b hc e2 e3.1
   ·exact e3.2 Mu
   ·exact e3.2 Mv
 ·rw[kT_add rfl]
  have htu:=(ts.t0 u (hMz u Mu).2.2.2).1
  have htv:=(ts.t0 v (hMz v Mv).2.2.2).1
  refine⟨ts.t0,?_,?_,ts.t3,?_,?_,?_,ts.t7⟩
  ·intro y x hx
   dsimp only at hx⊢
   have w1:=ts.t1 y x hx
   refine⟨w1.1,?_,fun z z1 z2=>w1.2.2 z z1 ((hse0 _ _).1 z2).1⟩
   rw[hse0,hse,hse]
   grind
  ·intro y x e1 e2 e3 e4 e5
   dsimp only at e5
   rw[hse0]at e5
   exact ts.t2 y x e1 e2 e3 e4 e5.1
  ·intro y x l' n hm
   have w1:=ts.t4 y x l' n hm
   dsimp only
   rcases w1 with w1|w1
   ·exact Or.inl w1
   ·refine Or.inr ⟨w1.1,w1.2.1,Or.inl w1.2.2.1,w1.2.2.2.1,w1.2.2.2.2.1,?_⟩
    rw[ne_eq,hse0];exact fun e=>w1.2.2.2.2.2 e.1
  ·intro y x hm
   have w1:=ts.t5 y x hm
   have w2:s.fnd y=true:=by
    cases e:s.fnd y
    ·have:=(ts.t0 y e).1;rw[w1.1]at this;cases this
    ·rfl
   have hy:¬M y:=fun e2=>by have:=hMz y e2;rw[w2]at this;simp at this
   dsimp only
   rw[fr' y x hy]
   simp only[←hM,if_neg hy]
   exact w1
  ·intro y x hm
   have w1:=ts.t6 y x hm
   dsimp only
   refine⟨w1.1,Or.inl w1.2.1,?_⟩
   rw[ne_eq,hse0];exact fun e=>w1.2.2 e.1
 ·rw[kX_add rfl]
  refine⟨?_,?_,?_,?_⟩
  ·intro y e1 e2 e3 e4
   dsimp only at e1 e2 e3 e4⊢
   simp only[←hM]at e1 e2 e3
   have hy:¬M y:=fun e=>by have:=hMz y e;rw[if_pos e]at e2;omega
   rw[if_neg hy]at e1 e2 e3
   obtain⟨v',d1,d2,d3⟩:=bs.bb y e1 e2 e3 e4
   refine⟨v',d1,d2,?_⟩
   rw[hse0,fr' y v' hy]
   simp only[←hM,if_neg hy]
   rcases d3 with d3|d3|d3
   ·exact Or.inl ⟨d3,hy⟩
   ·exact Or.inr (Or.inl ⟨⟨d3.1,fun e=>hy (e.1▸Mu)⟩,d3.2⟩)
   ·refine Or.inr (Or.inr ⟨(kidg y v').2 d3.1,?_,d3.2.2⟩)
    have:=fM y v' (kidf _ _ d3.1)
    rw[if_neg (fun e=>hy (this.2 e))];exact d3.2.1
  ·intro z hz
   have w:=bs.k1 z hz.2
   have hy:¬M z:=fun e=>hz.1 (ph1 z e w.2.1 w.2.2.1)
   have n1:z≠v:=by rintro rfl;exact hy Mv
   dsimp only
   rw[hpn]
   simp only[←hM,if_neg hy]
   exact⟨w.1,w.2.1,⟨w.2.2.1,hz.1,n1⟩,w.2.2.2⟩
  ·intro y c hr
   have w:=bs.k2 y c hr
   have hy:¬M y:=fun e=>by
    have:=ph1 y e w.1 w.2.1
    subst this
    exact k6 c hr
   have hc:¬M c:=fun e=>hy ((fM y c (kidf _ _ w.2.2.2.1)).2 e)
   have n1:y≠v:=by rintro rfl;exact hy Mv
   have n2:y≠u:=by rintro rfl;exact hy Mu
   dsimp only
   rw[hpn]
   simp only[←hM,if_neg hy,if_neg hc]
   exact⟨w.1,⟨w.2.1,n2,n1⟩,w.2.2.1,(kidg y c).2 w.2.2.2.1,w.2.2.2.2⟩
  ·intro z hz a b e1 e2
   have w:=bs.ov z hz
   dsimp only at e1⊢
   have w1:=w a b
   have w2:=w u v
   have w3:=w v u
   have w4:=f2 u z
   have w5:=f2 v z
   have w6:=f2 v u
   grind
 ·rw[kX_add rfl]
  refine⟨?_,?_,?_,?_⟩
  ·intro z hz
   have:=pa.p1 z hz.1
   dsimp only;rw[if_neg hz.2];exact this
  ·intro z x e1 e2 e3 e4
   dsimp only at e1 e2 e3⊢
   have hk:=(kidg z x).1 e4
   rw[ne_eq,hpn]at e3
   simp only[←hM]at e1 e2⊢
   have w1:=fM z x (kidf z x hk)
   have w2:=pa.u1 z x
   grind
  ·intro z hz
   have w:=pa.k3 z hz.2
   have h8:=bs.k1 z hz.2
   have hy:¬M z:=fun e=>hz.1 (ph1 z e h8.2.1 h8.2.2.1)
   dsimp only
   simp only[←hM,if_neg hy]
   refine⟨w.1,fun e=>w.2.1 e.1,fun x e1 e2 e=>w.2.2 x e1 ((kidg z x).1 e2) e.1⟩
  ·intro y c hr
   have w:=pa.k4 y c hr
   have h8:=bs.k2 y c hr
   have hy:¬M y:=fun e=>by
    have:=ph1 y e h8.1 h8.2.1
    subst this
    exact k6 c hr
   dsimp only
   simp only[←hM,if_neg hy]
   exact⟨w.1,fun e=>w.2.1 e.1,w.2.2⟩
def g0:Gh:={ fr:=fun a b=>a=b,L:=fun _=>0,N:=fun _=>0,ph:=fun _=>2,W:=fun _=>0,par:=fun _=>none,dep:=fun _=>0}
def h0:Gs:={ Z:=fun _=>False,be:=fun _=>0,tg:=fun _=>False,tk:=fun _=>False,ps:=fun _=>False}
theorem inv_start(G:Gr){s:St}(h2:∀u,s.lev u=0)(h3:∀u,s.fnd u=false)(h4:∀u v,s.se u v=0)(h5:∀u,s.tst u=none)(h6:∀u,s.cnt u=0)(h7:∀u,s.over u=false)(h8:∀u v,s.q u v=[])(h9:∀u,s.bw u≤1001):Inv G s g0 h0:=by
 have eS:∀u v,kS s.q u v=[]:=fun u v=>by simp[kS,h8]
 have eR:∀u v,kR s.q u v=[]:=fun u v=>by simp[kR,h8]
 have eT:∀u v,kT s.q u v=[]:=fun u v=>by simp[kT,h8]
 have eX:∀u v,kX s.q u v=[]:=fun u v=>by simp[kX,h8]
 have nk:∀x y,¬kid g0 x y:=fun x y e=>by have:=e.1;cases this
 have nc:∀x y,¬core g0 x y:=fun x y e=>by have:=e.1;cases this
 have nm:∀m,m∉([]:List NMsg):=fun m=>by simp
 refine⟨?_,?_,?_,?_,?_,?_⟩
 ·intro u v m hm;rw[h8]at hm;cases hm
 ·refine⟨?_,?_,?_,?_,?_,?_,?_,?_,?_,?_,?_,?_,?_,?_,?_,?_,?_,?_,?_,?_,?_,?_,?_,?_,?_,?_,?_,?_,?_,?_,?_⟩
  ·intro u v m hm;rw[eS]at hm;cases hm
  ·intro u v hm;exact(hm (h4 u v)).elim
  ·intro u _;exact⟨h2 u,rfl,rfl,rfl,rfl⟩
  ·intro u;rfl
  ·intro u v e;exact e.symm
  ·intro u v x e1 e2;exact Eq.trans e1 e2
  ·intro u v e;exact⟨rfl,rfl,rfl,rfl⟩
  ·intro u v _ e;exact e
  ·intro u;rw[h2];exact Nat.le_refl _
  ·intro u _ e;exact absurd e (by simp[g0])
  ·intro u v e;rw[h4]at e;omega
  ·intro u v;rw[h4];omega
  ·intro u v e;have:=e.1;rw[h4]at this;omega
  ·intro u v e;cases e
  ·intro u v e;have:=e.1;rw[h4]at this;omega
  ·intro u v l hm;rw[eS]at hm;cases hm
  ·intro u v;rw[eS];simp
  ·intro u v e;exact(nc _ _ e).elim
  ·intro u v x y e;exact(nc _ _ e).elim
  ·intro x y e;exact(nk _ _ e).elim
  ·intro x y l n f hm;rw[eS]at hm;cases hm
  ·intro u v _ _ e;exact e
  ·intro u e;simp[g0]at e
  ·intro x y e;exact(nk _ _ e).elim
  ·intro v e;rw[h2]at e;omega
  ·intro x y l n f hm;rw[eS]at hm;cases hm
  ·intro v e;simp[g0]at e
  ·intro u z v _ _ _ _;exact Nat.zero_le _
  ·intro u hu;exact⟨[u],by simp,by simp[g0],by simp[g0,hu]⟩
  ·intro u v e;rw[h4]at e;omega
  ·intro u v A B l n f hm;rw[eS]at hm;simp at hm
 ·refine⟨?_,?_,?_,?_,?_,?_,?_,?_,?_,?_,?_,?_,?_,?_,?_,?_⟩
  ·intro u e;rw[h3]at e;cases e
  ·intro u e;simp[g0]at e
  ·intro x y e;simp[g0]at e
  ·intro x y e;simp[g0]at e
  ·intro x y l n hm;rw[eR]at hm;cases hm
  ·intro x y l n hm;rw[eR]at hm;cases hm
  ·intro u _;exact h6 u
  ·intro u v e;simp[g0]at e
  ·intro u e;simp[g0]at e
  ·intro u v e;exact(nc _ _ e).elim
  ·intro x y w hm;rw[eR]at hm;cases hm
  ·intro x y;rw[eR];simp
  ·intro x y e;rw[h3]at e;cases e
  ·intro x e;rw[h3]at e;cases e
  ·exact h9
  ·intro u v e;exact(nc _ _ e).elim
 ·refine⟨?_,?_,?_,?_,?_,?_,?_,?_⟩
  ·intro y _;exact⟨h5 y,fun e=>e⟩
  ·intro y v e;rw[h5]at e;cases e
  ·intro y x e;rw[h3]at e;cases e
  ·intro y e;cases e
  ·intro y v l n hm;rw[eT]at hm;cases hm
  ·intro y v hm;rw[eT]at hm;cases hm
  ·intro y v hm;rw[eT]at hm;cases hm
  ·intro y v e;rw[h5]at e;cases e
 ·refine⟨?_,?_,?_,?_⟩
  ·intro y e;simp[g0]at e
  ·intro u e;cases e
  ·intro y c hm;rw[eX]at hm;cases hm
  ·intro u e;rw[h7]at e;cases e
 ·refine⟨?_,?_,?_,?_⟩
  ·intro z e;cases e
  ·intro z v _ e;simp[g0]at e
  ·intro u e;cases e
  ·intro y c hm;rw[eX]at hm;cases hm
theorem nodup_len:∀(n:Nat) (l:List Nat),l.Nodup→(∀x∈l,x<n)→l.length≤n
 |0,l,_,h=>by
  cases l with
  |nil=>simp
  |cons a t=>exact absurd (h a (by simp)) (by omega)
 |n+1,l,hd,h=>by
  have h1:=nodup_len n (l.erase n) (hd.erase n) (fun x hx=>by
   have:=h x (List.mem_of_mem_erase hx)
   have:x≠n:=fun e=>by subst e;exact(List.Nodup.not_mem_erase hd) hx
   omega)
  rw[List.length_erase]at h1
  split at h1<;>omega
theorem Inv.low{G:Gr}{s:St}{g:Gh}{h:Gs}(hI:Inv G s g h){u:Nat}(hu:u<G.n):2 ^ g.L u≤G.n:=by
 obtain⟨l,l1,l2,l3⟩:=hI.st.sz u hu
 rw[←l2]
 exact nodup_len _ l l1 (fun x hx=>(l3 x hx).2)
structure Top(G:Gr) where
 nb:Nat→Nat→Nat
 dg:Nat→Nat
 adj:∀u j,j<dg u→G.adj u (nb u j)
 inj:∀u j k,j<dg u→k<dg u→nb u j=nb u k→j=k
 sur:∀u v,G.adj u v→∃j,j<dg u∧nb u j=v
 inc:∀u j k,j<k→k<dg u→G.w u (nb u j)≤G.w u (nb u k)
def sentTo(n:Nod)(j:Nat):List NMsg:=(n.sent.filter (fun c=>c.1==j)).map (fun c=>typed c.2)
structure NR(G:Gr)(T:Top G)(s:St)(u:Nat)(n:Nod):Prop where
 aw:s.aw u=true↔n.state≠0
 lev:s.lev u=n.level
 nam:s.nam u=n.name
 fnd:s.fnd u=true↔n.state=1
 len:n.edges.length=T.dg u
 se:∀j,j<T.dg u→s.se u (T.nb u j)=n.st j
 wt:∀j,j<T.dg u→n.wt j=G.w u (T.nb u j)
 inn:s.inn u=n.inn.map (T.nb u)
 innl:∀j,n.inn=some j→j<T.dg u
 best:s.best u=n.best.map (T.nb u)
 bestl:∀j,n.best=some j→j<T.dg u
 tst:s.tst u=n.tested.map (T.nb u)
 tstl:∀j,n.tested=some j→j<T.dg u
 bw:s.bw u=n.bw
 cnt:n.count=(s.cnt u:Int)
 over:s.over u=n.over
 bw1:1≤n.bw
structure Rel(G:Gr)(T:Top G)(nodes:Nat→Nod)(P:Nat→Nat→List NMsg)(s:St):Prop where
 nr:∀u,NR G T s u (nodes u)
 q:∀u j,j<T.dg u→s.q u (T.nb u j)=P u (T.nb u j)++sentTo (nodes u) j
 rp:∀u v w,report w∈s.q u v→1≤w
theorem typed_plain{m:NMsg}(h:∀w,m=report w→1≤w):typed m.plain=m:=by
 cases m<;>simp[NMsg.plain,typed]
 rename_i w
 have:=h w rfl
 by_cases e:w=1001
 ·simp[e]
 ·simp[e];omega
theorem sentTo_send{n:Nod}{j:Nat}{m:NMsg}(h:∀w,m=report w→1≤w)(k:Nat):sentTo (n.send j m) k=sentTo n k++(if j=k then [m]else []):=by
 simp only[sentTo,Nod.send,List.filter_append,List.map_append]
 congr 1
 by_cases e:j=k
 ·simp[e,typed_plain h]
 ·simp[e]
theorem st_set{n:Nod}{j x:Nat}(hj:j<n.edges.length)(k:Nat):(n.setSt j x).st k=if k=j then x else n.st k:=by
 simp only[Nod.st,Nod.setSt,List.getElem?_set]
 by_cases e:j=k
 ·subst e;simp[hj]
 ·simp[e,Ne.symm e]
theorem wt_set{n:Nod}{j x:Nat}(k:Nat):(n.setSt j x).wt k=n.wt k:=by
 simp only[Nod.wt,Nod.setSt,List.getElem?_set]
 by_cases e:j=k
 ·subst e
  by_cases h:j<n.edges.length
  ·simp[h]
  ·simp[h]
 ·simp[e]
theorem Rel.mod{G:Gr}{T:Top G}{nodes:Nat→Nod}{u:Nat}{n n':Nod}{P:Nat→Nat→List NMsg}{s s':St}(h:Rel G T (upd nodes u n) P s)
 (ho:∀x,x≠u→s'.aw x=s.aw x∧s'.lev x=s.lev x∧s'.nam x=s.nam x∧s'.fnd x=s.fnd x∧s'.se x=s.se x∧s'.inn x=s.inn x∧s'.best x=s.best x∧s'.bw x=s.bw x∧s'.tst x=s.tst x∧s'.cnt x=s.cnt x∧s'.over x=s.over x∧s'.q x=s.q x)
 (hn:NR G T s' u n') (hq:∀j,j<T.dg u→s'.q u (T.nb u j)=P u (T.nb u j)++sentTo n' j) (hr:∀u v w,report w∈s'.q u v→1≤w):Rel G T (upd nodes u n') P s':=by
 refine⟨fun x=>?_,fun x j hj=>?_,hr⟩
 ·by_cases e:x=u
  ·subst e;rw[upd_at];exact hn
  ·have h0:=h.nr x
   rw[upd_ne _ _ e]at h0⊢
   obtain⟨o1,o2,o3,o4,o5,o6,o7,o8,o9,o10,o11,o12⟩:=ho x e
   exact⟨by rw[o1];exact h0.aw,by rw[o2];exact h0.lev,by rw[o3];exact h0.nam,by rw[o4];exact h0.fnd,h0.len,by rw[o5];exact h0.se,h0.wt,by rw[o6];exact h0.inn,h0.innl,by rw[o7];exact h0.best,h0.bestl,by rw[o9];exact h0.tst,h0.tstl,by rw[o8];exact h0.bw,by rw[o10];exact h0.cnt,by rw[o11];exact h0.over,h0.bw1⟩
 ·by_cases e:x=u
  ·subst e;rw[upd_at];exact hq j hj
  ·have h0:=h.q x j hj
   rw[upd_ne _ _ e]at h0⊢
   obtain⟨o1,o2,o3,o4,o5,o6,o7,o8,o9,o10,o11,o12⟩:=ho x e
   rw[o12];exact h0
theorem Rel.send{G:Gr}{T:Top G}{nodes:Nat→Nod}{u:Nat}{n:Nod}{P:Nat→Nat→List NMsg}{s:St}(h:Rel G T (upd nodes u n) P s){j:Nat}(hj:j<T.dg u){m:NMsg}(hm:∀w,m=report w→1≤w):
 Rel G T (upd nodes u (n.send j m)) P { s with q:=addq s.q u (T.nb u j) m}:=by
 have h0:=h.nr u
 have hq:=h.q u
 rw[upd_at]at h0 hq
 refine h.mod (fun x hx=>⟨rfl,rfl,rfl,rfl,rfl,rfl,rfl,rfl,rfl,rfl,rfl,?_⟩) ⟨h0.aw,h0.lev,h0.nam,h0.fnd,h0.len,h0.se,h0.wt,h0.inn,h0.innl,h0.best,h0.bestl,h0.tst,h0.tstl,h0.bw,h0.cnt,h0.over,h0.bw1⟩ (fun k hk=>?_) ?_
 ·funext v;simp[addq,upd2,hx]
 ·simp only[addq,upd2]
  rw[sentTo_send hm]
  by_cases e:j=k
  ·subst e;simp[hq j hj]
  ·have:T.nb u k≠T.nb u j:=fun e2=>e (T.inj u _ _ hj hk e2.symm)
   simp[this,e,hq k hk]
 ·intro a b w hw
  simp only[addq,upd2]at hw
  split at hw
  ·simp at hw
   rcases hw with hw|hw
   ·exact h.rp _ _ _ hw
   ·exact hm w hw.symm
  ·exact h.rp _ _ _ hw
theorem Rel.setSt{G:Gr}{T:Top G}{nodes:Nat→Nod}{u:Nat}{n:Nod}{P:Nat→Nat→List NMsg}{s:St}(h:Rel G T (upd nodes u n) P s){j:Nat}(hj:j<T.dg u)(x:Nat):
 Rel G T (upd nodes u (n.setSt j x)) P { s with se:=upd2 s.se u (T.nb u j) x}:=by
 have h0:=h.nr u
 have hq:=h.q u
 rw[upd_at]at h0 hq
 refine h.mod (fun z hz=>⟨rfl,rfl,rfl,rfl,?_,rfl,rfl,rfl,rfl,rfl,rfl,rfl⟩) ⟨h0.aw,h0.lev,h0.nam,h0.fnd,by simp[Nod.setSt,h0.len],?_,?_,h0.inn,h0.innl,h0.best,h0.bestl,h0.tst,h0.tstl,h0.bw,h0.cnt,h0.over,h0.bw1⟩ hq h.rp
 ·funext v;simp[upd2,hz]
 ·intro k hk
  simp only[upd2]
  rw[st_set (by rw[h0.len];exact hj)]
  by_cases e:k=j
  ·subst e;simp
  ·have:T.nb u k≠T.nb u j:=fun e2=>e (T.inj u _ _ hk hj e2)
   simp[this,e,h0.se k hk]
 ·intro k hk;rw[wt_set];exact h0.wt k hk
theorem Rel.out{G:Gr}{T:Top G}{nodes:Nat→Nod}{P:Nat→Nat→List NMsg}{s:St}(h:Rel G T nodes P s){y x:Nat}{A B:List NMsg}{m:NMsg}(ha:G.adj y x)(hP:P y x=A++m::B):
 ∃C,s.q y x=A++m::C∧Rel G T nodes (upd2 P y x (A++B)) { s with q:=upd2 s.q y x (A++C)}:=by
 obtain⟨j,hj,rfl⟩:=T.sur y x ha
 refine⟨B++sentTo (nodes y) j,?_,?_,?_,?_⟩
 ·rw[h.q y j hj,hP];simp
 ·intro u
  have h0:=h.nr u
  exact⟨h0.aw,h0.lev,h0.nam,h0.fnd,h0.len,h0.se,h0.wt,h0.inn,h0.innl,h0.best,h0.bestl,h0.tst,h0.tstl,h0.bw,h0.cnt,h0.over,h0.bw1⟩
 ·intro u k hk
  simp only[upd2]
  split
  ·rename_i e
   obtain⟨rfl,e⟩:=e
   have:=T.inj u _ _ hk hj e
   subst this
   simp
  ·exact h.q u k hk
 ·intro u v w hw
  simp only[upd2]at hw
  split at hw
  ·refine h.rp y (T.nb y j) w ?_
   rw[h.q y j hj,hP]
   simp at hw⊢
   rcases hw with hw|hw|hw
   ·exact Or.inl hw
   ·exact Or.inr (Or.inr (Or.inl hw))
   ·exact Or.inr (Or.inr (Or.inr hw))
  ·exact h.rp _ _ _ hw
theorem upd_self{α:Type}(f:Nat→α)(a:Nat):upd f a (f a)=f:=by
 funext x;simp only[upd];split
 ·rename_i e;rw[e]
 ·rfl
theorem lightFrom_some:∀(l:List (Nat×Nat)) (k j:Nat),Nod.lightFrom l k=some j→k≤j∧∃e,l[j - k]? =some e∧e.2=0∧∀i,i<j - k→∀e,l[i]? =some e→e.2≠0
 |[],k,j,h=>by simp[Nod.lightFrom]at h
 |e::r,k,j,h=>by
  simp only[Nod.lightFrom]at h
  split at h
  ·rename_i e0
   simp at h;subst h
   exact⟨Nat.le_refl _,e,by simp,e0,fun i hi=>by omega⟩
  ·rename_i e0
   obtain⟨h1,e',h2,h3,h4⟩:=lightFrom_some r (k+1) j h
   refine⟨by omega,e',?_,h3,?_⟩
   ·rw[show j - k=(j - (k+1))+1 by omega,List.getElem?_cons_succ];exact h2
   ·intro i hi e2 he
    cases i with
    |zero=>simp at he;subst he;exact e0
    |succ i=>rw[List.getElem?_cons_succ]at he;exact h4 i (by omega) e2 he
theorem lightFrom_none:∀(l:List (Nat×Nat)) (k:Nat),Nod.lightFrom l k=none→∀(i:Nat) (e:Nat×Nat),l[i]? =some e→e.2≠0
 |[],k,h,i,e,he=>by simp at he
 |a::r,k,h,i,e,he=>by
  simp only[Nod.lightFrom]at h
  split at h
  ·cases h
  ·rename_i e0
   cases i with
   |zero=>simp at he;subst he;exact e0
   |succ i=>rw[List.getElem?_cons_succ]at he;exact lightFrom_none r (k+1) h i e he
theorem NR.light_some{G:Gr}{T:Top G}{s:St}{u:Nat}{n:Nod}(h:NR G T s u n){j:Nat}(hl:n.light=some j):j<T.dg u∧s.se u (T.nb u j)=0∧∀x,G.adj u x→s.se u x=0→G.w u (T.nb u j)≤G.w u x:=by
 obtain⟨_,e,h1,h2,h3⟩:=lightFrom_some _ _ _ hl
 simp only[Nat.sub_zero]at h1 h3
 have hj:j<T.dg u:=by rw[←h.len];exact(List.getElem?_eq_some_iff.1 h1).1
 refine⟨hj,by rw[h.se j hj];simp[Nod.st,h1,h2],fun x hx h0=>?_⟩
 obtain⟨k,hk,rfl⟩:=T.sur u x hx
 rw[h.se k hk]at h0
 by_cases e1:k<j
 ·have hk':k<n.edges.length:=by rw[h.len];exact hk
  have:=h3 k e1 _ (List.getElem?_eq_getElem hk')
  simp[Nod.st,List.getElem?_eq_getElem hk']at h0
  exact(this h0).elim
 ·by_cases e2:j=k
  ·subst e2;exact Nat.le_refl _
  ·exact T.inc u j k (by omega) hk
theorem NR.light_none{G:Gr}{T:Top G}{s:St}{u:Nat}{n:Nod}(h:NR G T s u n)(hl:n.light=none):∀x,G.adj u x→s.se u x≠0:=fun x hx h0=>by
 obtain⟨k,hk,rfl⟩:=T.sur u x hx
 rw[h.se k hk]at h0
 have hk':k<n.edges.length:=by rw[h.len];exact hk
 have:=lightFrom_none _ _ hl k _ (List.getElem?_eq_getElem hk')
 simp[Nod.st,List.getElem?_eq_getElem hk']at h0
 exact this h0
def Good(G:Gr)(T:Top G)(nodes:Nat→Nod)(P:Nat→Nat→List NMsg):Prop:=∃s g h,Rel G T nodes P s∧Inv G s g h∧(∀u,¬h.tk u)∧(∀u,¬h.tg u)
theorem Inv.inn_some{G:Gr}{s:St}{g:Gh}{h:Gs}(hI:Inv G s g h){u:Nat}(hf:s.fnd u=true):∃x,s.inn u=some x:=by
 have h1:=hI.rp.s1 u hf
 have h2:=hI.rp.si u h1.1 h1.2.1
 have h3:=hI.st.p0 u h1.1
 cases e:g.par u
 ·exact(h3.2 e).elim
 ·exact⟨_,by rw[h2,e]⟩
theorem tests_none(n:Nod):({ n with tested:=none}:Nod).tests=n.tests:=rfl
theorem sim_hear{G:Gr}{T:Top G}{nodes:Nat→Nod}{u:Nat}{n:Nod}{P:Nat→Nat→List NMsg}{s:St}(hR:Rel G T (upd nodes u n) P s){j w:Nat}(hj:j<T.dg u)(hw:1≤w):
 ∃bw' best',((w<s.bw u∧bw'=w∧best'=some (T.nb u j))∨(¬w<s.bw u∧bw'=s.bw u∧best'=s.best u))∧Rel G T (upd nodes u (n.hear j w)) P { s with bw:=upd s.bw u bw',best:=upd s.best u best'}:=by
 have h0:=hR.nr u
 rw[upd_at]at h0
 unfold Nod.hear
 split
 ·rename_i hl
  refine⟨w,some (T.nb u j),Or.inl ⟨by rw[h0.bw];exact hl,rfl,rfl⟩,?_⟩
  refine hR.mod (fun z hz=>⟨rfl,rfl,rfl,rfl,rfl,rfl,by simp[upd,hz],by simp[upd,hz],rfl,rfl,rfl,rfl⟩) ⟨h0.aw,h0.lev,h0.nam,h0.fnd,h0.len,h0.se,h0.wt,h0.inn,h0.innl,by simp[upd],?_,h0.tst,h0.tstl,by simp[upd],h0.cnt,h0.over,hw⟩ (fun k hk=>?_) hR.rp
  ·intro k e;cases e;exact hj
  ·have:=hR.q u k hk;rw[upd_at]at this;exact this
 ·rename_i hl
  refine⟨s.bw u,s.best u,Or.inr ⟨by rw[h0.bw];exact hl,rfl,rfl⟩,?_⟩
  rw[upd_self,upd_self];exact hR
theorem sim_reject{G:Gr}{T:Top G}{nodes:Nat→Nod}{u:Nat}{n:Nod}{P:Nat→Nat→List NMsg}{s:St}(hR:Rel G T (upd nodes u n) P s){j:Nat}(hj:j<T.dg u):
 ∃se',((s.se u (T.nb u j)=0∧se'=upd2 s.se u (T.nb u j) 2)∨(s.se u (T.nb u j)≠0∧se'=s.se))∧Rel G T (upd nodes u (n.reject j)) P { s with se:=se'}:=by
 have h0:=hR.nr u
 rw[upd_at]at h0
 unfold Nod.reject
 split
 ·rename_i e
  exact⟨_,Or.inl ⟨by rw[h0.se j hj];exact e,rfl⟩,hR.setSt hj 2⟩
 ·rename_i e
  exact⟨_,Or.inr ⟨by rw[h0.se j hj];exact e,rfl⟩,hR⟩
theorem sim_untest{G:Gr}{T:Top G}{nodes:Nat→Nod}{u:Nat}{n:Nod}{P:Nat→Nat→List NMsg}{s:St}(hR:Rel G T (upd nodes u n) P s):Rel G T (upd nodes u { n with tested:=none}) P { s with tst:=upd s.tst u none}:=by
 have h0:=hR.nr u
 rw[upd_at]at h0
 refine hR.mod (fun z hz=>⟨rfl,rfl,rfl,rfl,rfl,rfl,rfl,rfl,by simp[upd,hz],rfl,rfl,rfl⟩) ⟨h0.aw,h0.lev,h0.nam,h0.fnd,h0.len,h0.se,h0.wt,h0.inn,h0.innl,h0.best,h0.bestl,by simp[upd],(fun k e=>by cases e),h0.bw,h0.cnt,h0.over,h0.bw1⟩ (fun k hk=>?_) hR.rp
 have:=hR.q u k hk;rw[upd_at]at this;exact this
end Go.Proofs.YtlfijfodklhplaaGreat.Ghs
