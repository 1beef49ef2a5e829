import Derived.Test.YtlfijfodklhplaaGreatTn44
set_option linter.unusedVariables false
set_option linter.unusedSimpArgs false
namespace Go.Proofs.YtlfijfodklhplaaGreat.Ghs
open Go.RowKit
open NMsg
theorem mB_eq{G:Gr}{s s':St}(h:∀u v,s'.se u v=1↔s.se u v=1):mB G s'=mB G s:=Nat.le_antisymm (mB_le (fun u v=>(h u v).1)) (mB_le (fun u v=>(h u v).2))
theorem cnt_accept{G:Gr}{s:St}{g:Gh}{h:Gs}(hI:Inv G s g h){k:Nat}(hC:Cnt G k s h){v y:Nat}{A B:List NMsg}(hq:s.q v y=A++accept::B)(bw':Nat)(best':Option Nat):
 Cnt G k { s with tst:=upd s.tst y none,bw:=upd s.bw y bw',best:=upd s.best y best',q:=upd2 s.q v y (A++B)} h:=by
 obtain⟨c,hc,hk⟩:=hC
 obtain⟨l1,l2⟩:=q_lt hI hq
 refine⟨c,?_,hk⟩
 have r:=fun p=>mQ_rem G p l1 l2 hq _ rfl { s with tst:=upd s.tst y none,bw:=upd s.bw y bw',best:=upd s.best y best',q:=upd2 s.q v y (A++B)} rfl
 have r1:=r isIni
 have r2:=r isTest
 have r3:=r isRoot
 simp[isIni,isTest,isRoot]at r1 r2 r3
 have d:mD G s≤mD G { s with tst:=upd s.tst y none,bw:=upd s.bw y bw',best:=upd s.best y best',q:=upd2 s.q v y (A++B)}:=mD_le (fun u w _ _ e1 e2=>⟨e1,by
  simp only[upd];split
  ·simp
  ·exact e2⟩)
 refine⟨?_,hc.nr,hc.nc,?_,?_,?_,fun a b hm=>hc.ny a b (mem_sub hq hm)⟩
 ·rw[r1];exact hc.ni
 ·exact Nat.le_trans hc.nt (Nat.add_le_add_left d _)
 ·rw[r2];exact hc.na
 ·rw[r3];exact hc.nx
theorem mD_rej{s s':St}{y v:Nat}(hse:(s.se y v=0∧s'.se=upd2 s.se y v 2)∨(s.se y v≠0∧s'.se=s.se)):(∀a b,s.se a b≠0→s'.se a b≠0)∧(∀a b,s'.se a b=1↔s.se a b=1)∧s'.se y v≠0:=by
 rcases hse with⟨h0,e⟩|⟨h0,e⟩
 ·rw[e]
  refine⟨fun a b h=>?_,fun a b=>?_,by simp[upd2]⟩
  ·simp only[upd2];split
   ·omega
   ·exact h
  ·simp only[upd2];split
   ·rename_i c;rw[c.1,c.2];omega
   ·exact Iff.rfl
 ·rw[e];exact⟨fun a b h=>h,fun a b=>Iff.rfl,h0⟩
theorem cnt_reject{G:Gr}{s:St}{g:Gh}{h:Gs}(hI:Inv G s g h){k:Nat}(hC:Cnt G k s h){v y:Nat}{A B:List NMsg}(hq:s.q v y=A++reject::B)(se':Nat→Nat→Nat)(hse:(s.se y v=0∧se'=upd2 s.se y v 2)∨(s.se y v≠0∧se'=s.se)):
 Cnt G k { s with tst:=upd s.tst y none,se:=se',q:=upd2 s.q v y (A++B)} { h with tg:=fun x=>x=y∨h.tg x}:=by
 obtain⟨c,hc,hk⟩:=hC
 obtain⟨l1,l2⟩:=q_lt hI hq
 refine⟨c,?_,hk⟩
 obtain⟨s1,hs1⟩:∃s1:St,s1={ s with tst:=upd s.tst y none,se:=se',q:=upd2 s.q v y (A++B)}:=⟨_,rfl⟩
 have r:=fun p=>mQ_rem G p l1 l2 hq _ rfl s1 (by rw[hs1])
 have r1:=r isIni
 have r2:=r isTest
 have r3:=r isRoot
 simp[isIni,isTest,isRoot]at r1 r2 r3
 obtain⟨x1,x2,x3⟩:=mD_rej (s:=s) (s':=s1) (y:=y) (v:=v) (by rw[hs1];exact hse)
 have hm:reject∈kT s.q v y:=by simp only[kT,hq];simp[isAns]
 have ht:=(hI.ts.t6 y v hm).1
 have d:mD G s+1≤mD G s1:=mD_lt (fun u w _ _ e1 e2=>⟨x1 u w e1,by
  rw[hs1];simp only[upd];split
  ·simp
  ·exact e2⟩) l2 l1 ht ⟨x3,by rw[hs1];simp[upd]⟩
 have b:mB G s1=mB G s:=mB_eq x2
 have gq:=mG_add G h { h with tg:=fun x=>x=y∨h.tg x} y (fun x e=>e)
 have e1:mL G s1=mL G s:=by rw[hs1];rfl
 have e2:mF G s1=mF G s:=by rw[hs1];rfl
 have e3:mP G { h with tg:=fun x=>x=y∨h.tg x}=mP G h:=rfl
 have e4:∀a b,root∈s1.q a b→root∈s.q a b:=fun a b hm=>by rw[hs1]at hm;exact mem_sub hq hm
 rw[←hs1]
 have a1:=hc.ni;have a2:=hc.nr;have a3:=hc.nc;have a4:=hc.nt;have a5:=hc.na;have a6:=hc.nx
 exact⟨by omega,by omega,by omega,by omega,by omega,by omega,fun a b hm=>hc.ny a b (e4 a b hm)⟩
theorem cnt_tests{G:Gr}{s:St}{g:Gh}{h:Gs}(hI:Inv G s g h){k:Nat}(hC:Cnt G k s h){y z:Nat}(htg:h.tg y)(ha:G.adj y z)(h0:s.se y z=0):
 Cnt G (k+1) { s with tst:=upd s.tst y (some z),q:=addq s.q y z (test (s.lev y) (s.nam y))} { h with tg:=fun x=>x≠y∧h.tg x}:=by
 obtain⟨c,hc,hk⟩:=hC
 obtain⟨l1,l2⟩:=adj_lt2 ha
 obtain⟨s1,hs1⟩:∃s1:St,s1={ s with tst:=upd s.tst y (some z),q:=addq s.q y z (test (s.lev y) (s.nam y))}:=⟨_,rfl⟩
 have r:=fun p=>mQ_add G p l1 l2 (m:=test (s.lev y) (s.nam y)) s s1 rfl (by rw[hs1])
 have r1:=r isIni
 have r2:=r isTest
 have r3:=r isRoot
 simp[isIni,isTest,isRoot]at r1 r2 r3
 have d:mD G s≤mD G s1:=mD_le (fun u w _ _ e1 e2=>⟨by rw[hs1];exact e1,by
  rw[hs1];simp only[upd];split
  ·rename_i e;intro e3;rw[e,←Option.some.inj e3]at e1;exact e1 h0
  ·exact e2⟩)
 have gq:=mG_sub G h { h with tg:=fun x=>x≠y∧h.tg x} y l1 htg (fun x e=>e)
 have e1:mL G s1=mL G s:=by rw[hs1];rfl
 have e2:mF G s1=mF G s:=by rw[hs1];rfl
 have b:mB G s1=mB G s:=by rw[hs1];rfl
 have e3:mP G { h with tg:=fun x=>x≠y∧h.tg x}=mP G h:=rfl
 have e4:∀a b,root∈s1.q a b→root∈s.q a b:=fun a b hm=>by rw[hs1]at hm;exact mem_addq_ne (fun e=>by cases e) hm
 rw[←hs1]
 have a1:=hc.ni;have a2:=hc.nr;have a3:=hc.nc;have a4:=hc.nt;have a5:=hc.na;have a6:=hc.nx
 exact⟨{ c with t:=c.t+1},⟨by dsimp only;omega,by dsimp only;omega,by dsimp only;omega,by dsimp only;omega,by dsimp only;omega,by dsimp only;omega,fun a b hm=>hc.ny a b (e4 a b hm)⟩,by simp only[Cn.sum]at hk⊢;omega⟩
theorem cnt_tests0{G:Gr}{s:St}{h:Gs}{k:Nat}(hC:Cnt G k s h){y:Nat}:Cnt G k s { h with tg:=fun x=>x≠y∧h.tg x}:=by
 obtain⟨c,hc,hk⟩:=hC
 have gq:=mG_le G h { h with tg:=fun x=>x≠y∧h.tg x} (fun x e=>e.2)
 have a4:=hc.nt
 exact⟨c,⟨hc.ni,hc.nr,hc.nc,by omega,hc.na,hc.nx,hc.ny⟩,hk⟩
theorem cnt_test2{G:Gr}{s:St}{g:Gh}{h:Gs}(hI:Inv G s g h){k:Nat}(hC:Cnt G k s h){v y l n:Nat}{A B:List NMsg}(hq:s.q y v=A++test l n::B)(se':Nat→Nat→Nat)(hse:(s.se v y=0∧se'=upd2 s.se v y 2)∨se'=s.se)(m:NMsg)(hm:m=accept∨m=reject):
 Cnt G (k+1) { s with se:=se',q:=addq (upd2 s.q y v (A++B)) v y m} h:=by
 obtain⟨c,hc,hk⟩:=hC
 obtain⟨l1,l2⟩:=q_lt hI hq
 obtain⟨s0,hs0⟩:∃s0:St,s0={ s with q:=upd2 s.q y v (A++B)}:=⟨_,rfl⟩
 obtain⟨s1,hs1⟩:∃s1:St,s1={ s with se:=se',q:=addq (upd2 s.q y v (A++B)) v y m}:=⟨_,rfl⟩
 have r:=fun p=>mQ_rem G p l1 l2 hq _ rfl s0 (by rw[hs0])
 have r':=fun p=>mQ_add G p l2 l1 (m:=m) s0 s1 rfl (by rw[hs1,hs0])
 have r1:=r isIni;have r1':=r' isIni
 have r2:=r isTest;have r2':=r' isTest
 have r3:=r isRoot;have r3':=r' isRoot
 have n1:isIni m=false∧isTest m=false∧isRoot m=false:=by rcases hm with rfl|rfl<;>exact⟨rfl,rfl,rfl⟩
 rw[n1.1]at r1'
 rw[n1.2.1]at r2'
 rw[n1.2.2]at r3'
 simp at r1' r2' r3'
 simp[isIni,isTest,isRoot]at r1 r2 r3
 have x1:(∀a b,s.se a b≠0→s1.se a b≠0)∧(∀a b,s1.se a b=1↔s.se a b=1):=by
  rcases hse with hse|hse
  ·have:=mD_rej (s:=s) (s':=s1) (y:=v) (v:=y) (Or.inl (by rw[hs1];exact hse))
   exact⟨this.1,this.2.1⟩
  ·rw[hs1];dsimp only;rw[hse];exact⟨fun a b h=>h,fun a b=>Iff.rfl⟩
 have d:mD G s≤mD G s1:=mD_le (fun u w _ _ e1 e2=>⟨x1.1 u w e1,by rw[hs1];exact e2⟩)
 have b:mB G s1=mB G s:=mB_eq x1.2
 have e1:mL G s1=mL G s:=by rw[hs1];rfl
 have e2:mF G s1=mF G s:=by rw[hs1];rfl
 have e4:∀a b,root∈s1.q a b→root∈s.q a b:=fun a b hx=>by
  rw[hs1]at hx
  exact mem_sub hq (mem_addq_ne (fun e=>by rcases hm with rfl|rfl<;>cases e) hx)
 rw[←hs1]
 have a1:=hc.ni;have a2:=hc.nr;have a3:=hc.nc;have a4:=hc.nt;have a5:=hc.na;have a6:=hc.nx
 exact⟨{ c with a:=c.a+1},⟨by dsimp only;omega,by dsimp only;omega,by dsimp only;omega,by dsimp only;omega,by dsimp only;omega,by dsimp only;omega,fun a b hm=>hc.ny a b (e4 a b hm)⟩,by simp only[Cn.sum]at hk⊢;omega⟩
theorem cnt_testX{G:Gr}{s:St}{g:Gh}{h:Gs}(hI:Inv G s g h){k:Nat}(hC:Cnt G k s h){v y l n:Nat}{A B:List NMsg}(hq:s.q y v=A++test l n::B)(ht:s.tst v=some y)(se':Nat→Nat→Nat)(hse:(s.se v y=0∧se'=upd2 s.se v y 2)∨(s.se v y≠0∧se'=s.se)):
 Cnt G k { s with se:=se',tst:=upd s.tst v none,q:=upd2 s.q y v (A++B)} { h with tg:=fun x=>x=v∨h.tg x}:=by
 obtain⟨c,hc,hk⟩:=hC
 obtain⟨l1,l2⟩:=q_lt hI hq
 refine⟨c,?_,hk⟩
 obtain⟨s1,hs1⟩:∃s1:St,s1={ s with se:=se',tst:=upd s.tst v none,q:=upd2 s.q y v (A++B)}:=⟨_,rfl⟩
 have r:=fun p=>mQ_rem G p l1 l2 hq _ rfl s1 (by rw[hs1])
 have r1:=r isIni
 have r2:=r isTest
 have r3:=r isRoot
 simp[isIni,isTest,isRoot]at r1 r2 r3
 obtain⟨x1,x2,x3⟩:=mD_rej (s:=s) (s':=s1) (y:=v) (v:=y) (by rw[hs1];exact hse)
 have d:mD G s+1≤mD G s1:=mD_lt (fun u w _ _ e1 e2=>⟨x1 u w e1,by
  rw[hs1];simp only[upd];split
  ·simp
  ·exact e2⟩) l2 l1 ht ⟨x3,by rw[hs1];simp[upd]⟩
 have b:mB G s1=mB G s:=mB_eq x2
 have gq:=mG_add G h { h with tg:=fun x=>x=v∨h.tg x} v (fun x e=>e)
 have e1:mL G s1=mL G s:=by rw[hs1];rfl
 have e2:mF G s1=mF G s:=by rw[hs1];rfl
 have e3:mP G { h with tg:=fun x=>x=v∨h.tg x}=mP G h:=rfl
 have e4:∀a b,root∈s1.q a b→root∈s.q a b:=fun a b hm=>by rw[hs1]at hm;exact mem_sub hq hm
 rw[←hs1]
 have a1:=hc.ni;have a2:=hc.nr;have a3:=hc.nc;have a4:=hc.nt;have a5:=hc.na;have a6:=hc.nx
 exact⟨by omega,by omega,by omega,by omega,by omega,by omega,fun a b hm=>hc.ny a b (e4 a b hm)⟩
theorem cnt_plain{G:Gr}{s s':St}{h h':Gs}{k:Nat}(hC:Cnt G k s h)(e1:s'.lev=s.lev)(e2:s'.fnd=s.fnd)(e3:s'.se=s.se)(e4:s'.tst=s.tst)(e5:h'.tg=h.tg)(e6:h'.ps=h.ps)(q1:mQ G isIni s'=mQ G isIni s)(q2:mQ G isTest s'=mQ G isTest s)(q3:mQ G isRoot s'=mQ G isRoot s)(q4:∀a b,root∈s'.q a b→root∈s.q a b):Cnt G k s' h':=by
 obtain⟨c,hc,hk⟩:=hC
 have a1:mL G s'=mL G s:=by unfold mL;rw[e1]
 have a2:mF G s'=mF G s:=by unfold mF;rw[e2]
 have a3:mB G s'=mB G s:=by unfold mB;rw[e3]
 have a4:mD G s'=mD G s:=by unfold mD;rw[e3,e4]
 have a5:mG G h'=mG G h:=by unfold mG;rw[e5]
 have a6:mP G h'=mP G h:=by unfold mP;rw[e6]
 exact⟨c,⟨by rw[a1,q1];exact hc.ni,by rw[a1,a2];exact hc.nr,by rw[a3];exact hc.nc,by rw[a1,a4,a5];exact hc.nt,by rw[q2];exact hc.na,by rw[a6,q3];exact hc.nx,fun a b hm=>by rw[e6];exact hc.ny a b (q4 a b hm)⟩,hk⟩
theorem cnt_repOut{G:Gr}{s:St}{g:Gh}{h:Gs}(hI:Inv G s g h){k:Nat}(hC:Cnt G k s h){x y w:Nat}{A B:List NMsg}(hq:s.q y x=A++report w::B)(s':St)(h':Gs)(e1:s'.lev=s.lev)(e2:s'.fnd=s.fnd)(e3:s'.se=s.se)(e4:s'.tst=s.tst)(e5:h'.tg=h.tg)(e6:h'.ps=h.ps)(e7:s'.q=upd2 s.q y x (A++B)):Cnt G k s' h':=by
 obtain⟨l1,l2⟩:=q_lt hI hq
 have r:=fun p=>mQ_rem G p l1 l2 hq _ rfl s' e7
 have r1:=r isIni
 have r2:=r isTest
 have r3:=r isRoot
 simp[isIni,isTest,isRoot]at r1 r2 r3
 exact cnt_plain hC e1 e2 e3 e4 e5 e6 r1 r2 r3 (fun a b hm=>by rw[e7]at hm;exact mem_sub hq hm)
theorem cnt_reports{G:Gr}{s:St}{h:Gs}{k:Nat}(hC:Cnt G k s h){y x:Nat}(hy:y<G.n)(hx:x<G.n)(hf:s.fnd y=true)(Z':Nat→Prop)(be':Nat→Nat):
 Cnt G (k+1) { s with fnd:=upd s.fnd y false,q:=addq s.q y x (report (s.bw y))} { h with Z:=Z',be:=be'}:=by
 obtain⟨c,hc,hk⟩:=hC
 obtain⟨s1,hs1⟩:∃s1:St,s1={ s with fnd:=upd s.fnd y false,q:=addq s.q y x (report (s.bw y))}:=⟨_,rfl⟩
 have r:=fun p=>mQ_add G p hy hx (m:=report (s.bw y)) s s1 rfl (by rw[hs1])
 have r1:=r isIni
 have r2:=r isTest
 have r3:=r isRoot
 simp[isIni,isTest,isRoot]at r1 r2 r3
 have f:=mF_upd (s:=s) (s':=s1) (y:=y) (f:=false) hy (by rw[hs1])
 rw[if_pos hf]at f
 simp at f
 have e1:mL G s1=mL G s:=by rw[hs1];rfl
 have e2:mB G s1=mB G s:=by rw[hs1];rfl
 have e3:mD G s1=mD G s:=by rw[hs1];rfl
 have e5:mG G { h with Z:=Z',be:=be'}=mG G h:=rfl
 have e6:mP G { h with Z:=Z',be:=be'}=mP G h:=rfl
 have e4:∀a b,root∈s1.q a b→root∈s.q a b:=fun a b hm=>by rw[hs1]at hm;exact mem_addq_ne (fun e=>by cases e) hm
 rw[←hs1]
 have a1:=hc.ni;have a2:=hc.nr;have a3:=hc.nc;have a4:=hc.nt;have a5:=hc.na;have a6:=hc.nx
 exact⟨{ c with r:=c.r+1},⟨by dsimp only;omega,by dsimp only;omega,by dsimp only;omega,by dsimp only;omega,by dsimp only;omega,by dsimp only;omega,fun a b hm=>hc.ny a b (e4 a b hm)⟩,by simp only[Cn.sum]at hk⊢;omega⟩
theorem cnt_rootSend{G:Gr}{s:St}{g:Gh}{h:Gs}(hI:Inv G s g h){k:Nat}(hC:Cnt G k s h){u z:Nat}(ht:h.tk u)(hu:u<G.n)(hz:z<G.n):
 Cnt G (k+1) { s with q:=addq s.q u z root} { h with tk:=fun z=>z≠u∧h.tk z}:=by
 obtain⟨c,hc,hk⟩:=hC
 obtain⟨s1,hs1⟩:∃s1:St,s1={ s with q:=addq s.q u z root}:=⟨_,rfl⟩
 have r:=fun p=>mQ_add G p hu hz (m:=root) s s1 rfl (by rw[hs1])
 have r1:=r isIni
 have r2:=r isTest
 have r3:=r isRoot
 simp[isIni,isTest,isRoot]at r1 r2 r3
 have e1:mL G s1=mL G s:=by rw[hs1];rfl
 have e2:mB G s1=mB G s:=by rw[hs1];rfl
 have e3:mD G s1=mD G s:=by rw[hs1];rfl
 have e7:mF G s1=mF G s:=by rw[hs1];rfl
 have e5:mG G { h with tk:=fun z=>z≠u∧h.tk z}=mG G h:=rfl
 have e6:mP G { h with tk:=fun z=>z≠u∧h.tk z}=mP G h:=rfl
 have e4:∀a b,root∈s1.q a b→root∈s.q a b∨a=u:=fun a b hm=>by
  rw[hs1]at hm
  simp only[addq,upd2]at hm
  split at hm
  ·rename_i e;exact Or.inr e.1
  ·exact Or.inl hm
 rw[←hs1]
 have a1:=hc.ni;have a2:=hc.nr;have a3:=hc.nc;have a4:=hc.nt;have a5:=hc.na;have a6:=hc.nx
 refine⟨{ c with x:=c.x+1},⟨by dsimp only;omega,by dsimp only;omega,by dsimp only;omega,by dsimp only;omega,by dsimp only;omega,by dsimp only;omega,fun a b hm=>?_⟩,by simp only[Cn.sum]at hk⊢;omega⟩
 rcases e4 a b hm with e|e
 ·exact hc.ny a b e
 ·rw[e];exact(hI.pa.k3 u ht).2.1
theorem cnt_rootRecv{G:Gr}{s:St}{g:Gh}{h:Gs}(hI:Inv G s g h){k:Nat}(hC:Cnt G k s h){y z:Nat}{A B:List NMsg}(hq:s.q y z=A++root::B):
 Cnt G k { s with q:=upd2 s.q y z (A++B)} { h with tk:=fun x=>x=z∨h.tk x,ps:=fun x=>x=y∨h.ps x}:=by
 obtain⟨c,hc,hk⟩:=hC
 obtain⟨l1,l2⟩:=q_lt hI hq
 obtain⟨s1,hs1⟩:∃s1:St,s1={ s with q:=upd2 s.q y z (A++B)}:=⟨_,rfl⟩
 have r:=fun p=>mQ_rem G p l1 l2 hq _ rfl s1 (by rw[hs1])
 have r1:=r isIni
 have r2:=r isTest
 have r3:=r isRoot
 simp[isIni,isTest,isRoot]at r1 r2 r3
 have hm0:root∈kX s.q y z:=by simp only[kX,hq];simp[isRoot]
 have k2:=hI.bs.k2 y z hm0
 have hny:=hc.ny y z (by rw[hq];simp)
 have p:=mP_add G h { h with tk:=fun x=>x=z∨h.tk x,ps:=fun x=>x=y∨h.ps x} y l1 hny (fun x=>Iff.rfl)
 have e1:mL G s1=mL G s:=by rw[hs1];rfl
 have e2:mB G s1=mB G s:=by rw[hs1];rfl
 have e3:mD G s1=mD G s:=by rw[hs1];rfl
 have e7:mF G s1=mF G s:=by rw[hs1];rfl
 have e5:mG G { h with tk:=fun x=>x=z∨h.tk x,ps:=fun x=>x=y∨h.ps x}=mG G h:=rfl
 have hA:root∉A++B:=fun hx=>by
  have h1:=k2.2.2.2.2.2.2.2
  have cp:∀l:List NMsg,(l.filter isRoot).countP isRoot=l.countP isRoot:=fun l=>by
   induction l with
   |nil=>rfl
   |cons m l ih=>cases hm:isRoot m<;>simp[hm,ih]
  have h2:(s.q y z).countP isRoot=1:=by rw[←cp];exact h1
  have h3:0<(A++B).countP isRoot:=List.countP_pos_iff.2 ⟨root,hx,rfl⟩
  rw[hq]at h2
  have e5:(if isRoot root=true then 1 else 0)=1:=rfl
  rw[List.countP_append,List.countP_cons,e5]at h2
  rw[List.countP_append]at h3
  omega
 rw[←hs1]
 have a1:=hc.ni;have a2:=hc.nr;have a3:=hc.nc;have a4:=hc.nt;have a5:=hc.na;have a6:=hc.nx
 refine⟨c,⟨by omega,by omega,by omega,by omega,by omega,by omega,fun a b hm e=>?_⟩,hk⟩
 rw[hs1]at hm
 have hm':root∈s.q a b:=mem_sub hq hm
 rcases e with e|e
 ·subst e
  have hb:root∈kX s.q a b:=by simp only[kX];exact List.mem_filter.2 ⟨hm',rfl⟩
  have:=(hI.bs.k2 a b hb).2.2.1
  rw[k2.2.2.1]at this
  have e2:z=b:=Option.some.inj this
  subst e2
  simp only[upd2,and_self,if_true]at hm
  exact hA hm
 ·exact hc.ny a b hm' e
theorem cnt_conn{G:Gr}{s:St}{h:Gs}{k:Nat}(hC:Cnt G k s h){u v:Nat}(ha:G.adj u v)(h0:s.se u v=0)(h':Gs)(e5:h'.tg=h.tg)(e6:∀z,h'.ps z→h.ps z):
 Cnt G (k+1) { s with se:=upd2 s.se u v 1,q:=addq s.q u v (connect (s.lev u))} h':=by
 obtain⟨c,hc,hk⟩:=hC
 obtain⟨l1,l2⟩:=adj_lt2 ha
 obtain⟨s1,hs1⟩:∃s1:St,s1={ s with se:=upd2 s.se u v 1,q:=addq s.q u v (connect (s.lev u))}:=⟨_,rfl⟩
 have r:=fun p=>mQ_add G p l1 l2 (m:=connect (s.lev u)) s s1 rfl (by rw[hs1])
 have r1:=r isIni
 have r2:=r isTest
 have r3:=r isRoot
 simp[isIni,isTest,isRoot]at r1 r2 r3
 have b:mB G s+1≤mB G s1:=by
  refine S2_lt1 _ _ _ (fun a b _ _=>?_) l1 l2 ?_
  ·have e:s.se a b=1→s1.se a b=1:=fun e=>by
    rw[hs1];simp only[upd2];split
    ·rfl
    ·exact e
   split
   ·rename_i c1;rw[if_pos (e c1)];exact Nat.le_refl _
   ·exact Nat.zero_le _
  ·have e:s1.se u v=1:=by rw[hs1];simp[upd2]
   rw[if_pos e,if_neg (by omega)];omega
 have d:mD G s≤mD G s1:=mD_le (fun a b _ _ e1 e2=>⟨by
  rw[hs1];simp only[upd2];split
  ·omega
  ·exact e1,by rw[hs1];exact e2⟩)
 have e1:mL G s1=mL G s:=by rw[hs1];rfl
 have e7:mF G s1=mF G s:=by rw[hs1];rfl
 have e8:mG G h'=mG G h:=by unfold mG;rw[e5]
 have pl:=mP_le G h
 have e4:∀a b,root∈s1.q a b→root∈s.q a b:=fun a b hm=>by rw[hs1]at hm;exact mem_addq_ne (fun e=>by cases e) hm
 rw[←hs1]
 have a1:=hc.ni;have a2:=hc.nr;have a3:=hc.nc;have a4:=hc.nt;have a5:=hc.na;have a6:=hc.nx
 have hmul:G.n * (c.c+1)=G.n * c.c+G.n:=Nat.mul_succ _ _
 exact⟨{ c with c:=c.c+1},⟨by dsimp only;omega,by dsimp only;omega,by dsimp only;omega,by dsimp only;omega,by dsimp only;omega,by dsimp only;omega,fun a b hm e=>hc.ny a b (e4 a b hm) (e6 a e)⟩,by simp only[Cn.sum]at hk⊢;omega⟩
theorem cnt_ini{G:Gr}{s:St}{g:Gh}{h:Gs}(hI:Inv G s g h){k:Nat}(hC:Cnt G k s h){u v l:Nat}{A B:List NMsg}(hq:s.q u v=A++connect l::B)(s':St)(h':Gs)(a b:Nat)(f:Bool)(e1:s'.lev=s.lev)(e2:s'.fnd=s.fnd)(e4:s'.tst=s.tst)(e3:∀x y,s.se x y≠0→s'.se x y≠0)(e3':∀x y,s.se x y=1→s'.se x y=1)(e5:h'.tg=h.tg)(e6:∀z,h'.ps z↔h.ps z)(e7:s'.q=addq (upd2 s.q u v (A++B)) v u (initiate a b f)):Cnt G (k+1) s' h':=by
 obtain⟨c,hc,hk⟩:=hC
 obtain⟨l1,l2⟩:=q_lt hI hq
 obtain⟨s0,hs0⟩:∃s0:St,s0={ s with q:=upd2 s.q u v (A++B)}:=⟨_,rfl⟩
 have r:=fun p=>mQ_rem G p l1 l2 hq _ rfl s0 (by rw[hs0])
 have r':=fun p=>mQ_add G p l2 l1 (m:=initiate a b f) s0 s' rfl (by rw[e7,hs0])
 have r1:=r isIni;have r1':=r' isIni
 have r2:=r isTest;have r2':=r' isTest
 have r3:=r isRoot;have r3':=r' isRoot
 simp[isIni,isTest,isRoot]at r1 r2 r3 r1' r2' r3'
 have d:mD G s≤mD G s':=mD_le (fun x y _ _ x1 x2=>⟨e3 x y x1,by rw[e4];exact x2⟩)
 have b':mB G s≤mB G s':=mB_le e3'
 have f1:mL G s'=mL G s:=by unfold mL;rw[e1]
 have f2:mF G s'=mF G s:=by unfold mF;rw[e2]
 have f3:mG G h'=mG G h:=by unfold mG;rw[e5]
 have f4:mP G h'=mP G h:=mP_eq G h h' e6
 have f5:∀x y,root∈s'.q x y→root∈s.q x y:=fun x y hm=>by rw[e7]at hm;exact mem_sub hq (mem_addq_ne (fun e=>by cases e) hm)
 have a1:=hc.ni;have a2:=hc.nr;have a3:=hc.nc;have a4:=hc.nt;have a5:=hc.na;have a6:=hc.nx
 exact⟨{ c with i:=c.i+1},⟨by dsimp only;omega,by dsimp only;omega,by dsimp only;omega,by dsimp only;omega,by dsimp only;omega,by dsimp only;omega,fun x y hm e=>hc.ny x y (f5 x y hm) ((e6 x).1 e)⟩,by simp only[Cn.sum]at hk⊢;omega⟩
theorem ind_len(n:Nat)(P:Nat→Prop)[DecidablePred P](kl:List Nat)(h1:kl.Nodup)(h2:∀z,z∈kl↔P z)(h3:∀z,P z→z<n):S1 n (fun b=>if P b then 1 else 0)=kl.length:=by
 have h4:S1 n (fun b=>if P b then 1 else 0)=((List.range n).filter (fun b=>decide (P b))).length:=by
  clear h2 h3 h1
  induction n with
  |zero=>simp[S1]
  |succ n ih=>
   rw[S1_succ,ih,List.range_succ,List.filter_append,List.length_append]
   by_cases c:P n<;>simp[c]
 rw[h4]
 apply Nat.le_antisymm
 ·exact nodup_sub_len _ _ (List.Pairwise.filter _ List.nodup_range) (fun x hx=>(h2 x).2 (by simpa using (List.mem_filter.1 hx).2))
 ·exact nodup_sub_len _ _ h1 (fun x hx=>List.mem_filter.2 ⟨List.mem_range.2 (h3 x ((h2 x).1 hx)),by simpa using (h2 x).1 hx⟩)
theorem S1_add(n:Nat)(f g:Nat→Nat):S1 n (fun u=>f u+g u)=S1 n f+S1 n g:=by
 induction n with
 |zero=>simp[S1]
 |succ n ih=>rw[S1_succ,S1_succ,S1_succ,ih];omega
theorem cnt_init{G:Gr}{s:St}{g:Gh}{h:Gs}(hI:Inv G s g h){k:Nat}(hC:Cnt G k s h){x y l n:Nat}{f:Bool}{A B:List NMsg}(hq:s.q x y=A++initiate l n f::B)(hlt:s.lev y<l)(hfn:s.fnd y=false)(kl:List Nat)(k1:kl.Nodup)(k2:∀z,z∈kl↔(z≠x∧s.se y z=1))(s':St)(e1:s'.lev=upd s.lev y l)(e2:s'.fnd=upd s.fnd y f)(e3:s'.se=s.se)(e4:s'.tst=s.tst)(e7:s'.q=initq s.q s.se x y (A++B) (initiate l n f)):
 Cnt G (k+kl.length) s' { h with tg:=fun z=>(z=y∧f=true)∨h.tg z}:=by
 obtain⟨c,hc,hk⟩:=hC
 obtain⟨l1,l2⟩:=q_lt hI hq
 have hadj:=(hI.q0 x y _ (by rw[hq];simp:initiate l n f∈s.q x y)).1
 have hxy:x≠y:=fun e=>by rw[e]at hadj;exact G.irr _ hadj
 have same:∀p:NMsg→Bool,p (initiate l n f)=false→mQ G p s'=mQ G p s:=fun p hp=>by
  unfold mQ
  refine S2_eq _ _ _ (fun a b _ _=>?_)
  have:=congrFun (congrFun (initq_fil p (se:=s.se) hq hp) a) b
  rw[e7,List.countP_eq_length_filter,this,←List.countP_eq_length_filter]
 have r2:=same isTest rfl
 have r3:=same isRoot rfl
 have r1:mQ G isIni s'+1=mQ G isIni s+kl.length:=by
  have h1:=ind_len G.n (fun z=>z≠x∧s.se y z=1) kl k1 k2 (fun z hz=>(adj_lt2 (hI.st.sa y z (by have:=hz.2;omega)).1).2)
  have h2:mQ G isIni s'+S1 G.n (fun b=>(s.q y b).countP isIni)+(s.q x y).countP isIni=mQ G isIni s+S1 G.n (fun b=>(s.q y b).countP isIni+(if b≠x∧s.se y b=1 then 1 else 0))+(A++B).countP isIni:=by
   unfold mQ
   let f0:=fun u v=>(s.q u v).countP isIni
   let f1:=fun u v=>if u=x∧v=y then (A++B).countP isIni else f0 u v
   let f2:=fun u v=>if u=y then f0 y v+(if v≠x∧s.se y v=1 then 1 else 0)else f1 u v
   have q1:=S2_one G.n f1 f0 l1 l2 (fun u v hn=>by simp only[f1,if_neg hn])
   have q2:S2 G.n f2+S1 G.n (f1 y)=S2 G.n f1+S1 G.n (f2 y):=S1_one G.n (fun u=>S1 G.n (f2 u)) (fun u=>S1 G.n (f1 u)) l2 (fun u _ hu=>S1_eq _ _ _ (fun v _=>by simp only[f2,if_neg hu]))
   have q3:S2 G.n (fun u v=>(s'.q u v).countP isIni)=S2 G.n f2:=S2_eq _ _ _ (fun u v _ _=>by
    rw[e7]
    simp only[initq,f2,f1,f0]
    by_cases c1:u=x∧v=y
    ·have:u≠y:=fun e=>hxy (c1.1.symm.trans e)
     rw[if_pos c1,if_neg this,if_pos c1]
    ·rw[if_neg c1]
     by_cases c2:u=y
     ·subst c2
      rw[if_pos rfl]
      by_cases c3:v≠x∧s.se u v=1
      ·rw[if_pos ⟨rfl,c3⟩,if_pos c3]
       simp[List.countP_append,List.countP_cons,isIni]
      ·rw[if_neg (fun e=>c3 e.2),if_neg c3];rfl
     ·rw[if_neg (fun e=>c2 e.1),if_neg c2,if_neg c1])
   have q4:S1 G.n (f1 y)=S1 G.n (fun b=>(s.q y b).countP isIni):=S1_eq _ _ _ (fun v _=>by
    simp only[f1,f0];rw[if_neg (fun e=>hxy e.1.symm)])
   have q5:S1 G.n (f2 y)=S1 G.n (fun b=>(s.q y b).countP isIni+(if b≠x∧s.se y b=1 then 1 else 0)):=S1_eq _ _ _ (fun v _=>by
    simp only[f2,f0,if_true])
   have q6:f1 x y=(A++B).countP isIni:=by simp only[f1,and_self,if_true]
   have q7:f0 x y=(s.q x y).countP isIni:=rfl
   have q8:S2 G.n f0=S2 G.n (fun u v=>(s.q u v).countP isIni):=rfl
   omega
  have h3:S1 G.n (fun b=>(s.q y b).countP isIni+(if b≠x∧s.se y b=1 then 1 else 0))=S1 G.n (fun b=>(s.q y b).countP isIni)+kl.length:=by
   have:=S1_add G.n (fun b=>(s.q y b).countP isIni) (fun b=>if b≠x∧s.se y b=1 then 1 else 0)
   rw[←h1]
   exact this
  have h4:(s.q x y).countP isIni=(A++B).countP isIni+1:=by
   rw[hq]
   simp[List.countP_append,List.countP_cons,isIni]
   omega
  omega
 have hl:=mL_upd (G:=G) l2 e1
 have hf:=mF_upd (G:=G) l2 e2
 rw[hfn]at hf
 simp at hf
 have hf':mF G s'≤mF G s+1:=by split at hf<;>omega
 have gq:=mG_add G h { h with tg:=fun z=>(z=y∧f=true)∨h.tg z} y (fun z e=>e.imp_left And.left)
 have d:mD G s'=mD G s:=by unfold mD;rw[e3,e4]
 have b:mB G s'=mB G s:=by unfold mB;rw[e3]
 have p:mP G { h with tg:=fun z=>(z=y∧f=true)∨h.tg z}=mP G h:=rfl
 have hr:∀u v,root∈s'.q u v→root∈s.q u v:=fun u v hm=>by
  have:=congrFun (congrFun (initq_fil isRoot (se:=s.se) hq rfl) u) v
  have h1:root∈(s'.q u v).filter isRoot:=List.mem_filter.2 ⟨hm,rfl⟩
  rw[e7,this]at h1
  exact(List.mem_filter.1 h1).1
 have a1:=hc.ni;have a2:=hc.nr;have a3:=hc.nc;have a4:=hc.nt;have a5:=hc.na;have a6:=hc.nx
 exact⟨{ c with i:=c.i+kl.length},⟨by dsimp only;omega,by dsimp only;omega,by dsimp only;omega,by dsimp only;omega,by dsimp only;omega,by dsimp only;omega,fun u v hm=>hc.ny u v (hr u v hm)⟩,by simp only[Cn.sum]at hk⊢;omega⟩
theorem cnt_start(G:Gr){s:St}(h8:∀u v,s.q u v=[])(h3:∀u,s.fnd u=false):Cnt G 0 s h0:=by
 have z1:mF G s=0:=by
  unfold mF
  have:=S1_eq G.n (fun u=>if s.fnd u=true then 1 else 0) (fun _=>0) (fun u _=>by rw[h3];simp)
  rw[this,S1_const];simp
 have z2:mQ G isTest s=0:=by
  unfold mQ
  have:=S2_eq G.n (fun u v=>(s.q u v).countP isTest) (fun _ _=>0) (fun u v _ _=>by rw[h8];rfl)
  rw[this];unfold S2;simp[S1_const]
 have z3:mG G h0=0:=by
  unfold mG
  have:=S1_eq G.n (fun u=>@ite Nat (h0.tg u) (Classical.propDecidable _) 1 0) (fun _=>0) (fun u _=>if_neg (fun e:h0.tg u=>e))
  rw[this,S1_const];simp
 exact⟨⟨0,0,0,0,0,0⟩,⟨Nat.zero_le _,by dsimp only;omega,Nat.zero_le _,by dsimp only;omega,by dsimp only;omega,Nat.zero_le _,(fun a b hm=>by rw[h8]at hm;cases hm)⟩,Nat.zero_le _⟩
theorem S2_pairs(n:Nat)(P:Nat→Nat→Prop)[∀u v,Decidable (P u v)](l:List (Nat×Nat))(h:∀u v,u<n→v<n→P u v→(u,v)∈l):S2 n (fun u v=>if P u v then 1 else 0)≤l.length:=by
 have key:∀m,m≤n→S1 m (fun u=>S1 n (fun v=>if P u v then 1 else 0))≤(l.filter (fun p=>decide (p.1<m))).length:=by
  intro m
  induction m with
  |zero=>intro _;simp[S1]
  |succ m ih=>
   intro hm
   rw[S1_succ]
   have h1:=ih (by omega)
   have h2:S1 n (fun v=>if P m v then 1 else 0)≤(l.filter (fun p=>decide (p.1=m))).length:=by
    have h3:=ind_len n (fun v=>v<n∧P m v) ((List.range n).filter (fun v=>decide (P m v))) (List.Pairwise.filter _ List.nodup_range) (fun z=>by simp) (fun z hz=>hz.1)
    have h4:S1 n (fun v=>if P m v then 1 else 0)=S1 n (fun b=>if b<n∧P m b then 1 else 0):=S1_eq _ _ _ (fun v hv=>by simp[hv])
    rw[h4,h3]
    have h5:=nodup_sub_len (((List.range n).filter (fun v=>decide (P m v))).map (fun v=>(m,v))) (l.filter (fun p=>decide (p.1=m))) (map_nodup _ _ (List.Pairwise.filter _ List.nodup_range) (fun x _ y _ e=>(Prod.mk.inj e).2)) (fun x hx=>by
     obtain⟨v,hv,rfl⟩:=List.mem_map.1 hx
     obtain⟨v1,v2⟩:=List.mem_filter.1 hv
     exact List.mem_filter.2 ⟨h m v (by omega) (List.mem_range.1 v1) (by simpa using v2),by simp⟩)
    rw[List.length_map]at h5
    exact h5
   have h6:∀l:List (Nat×Nat),(l.filter (fun p=>decide (p.1<m+1))).length=(l.filter (fun p=>decide (p.1<m))).length+(l.filter (fun p=>decide (p.1=m))).length:=by
    intro l
    induction l with
    |nil=>rfl
    |cons p l ih=>
     simp only[List.filter_cons]
     by_cases c1:p.1<m
     ·have c2:p.1<m+1:=by omega
      have c3:¬p.1=m:=by omega
      simp only[c1,c2,c3,decide_true,decide_false,if_true,List.length_cons,ih]
      simp
      omega
     ·by_cases c3:p.1=m
      ·have c2:p.1<m+1:=by omega
       simp only[c1,c2,c3,decide_true,decide_false,if_true,List.length_cons,ih]
       simp
       omega
      ·have c2:¬p.1<m+1:=by omega
       simp only[c1,c2,c3,decide_false]
       simpa using ih
   have:=h6 l
   omega
 exact Nat.le_trans (key n (Nat.le_refl _)) (List.length_filter_le _ _)
structure KF(n:Nat)(c:(Nat→Nat)×List E3):Prop where
 idem:∀k,k<n→c.1 (c.1 k)=c.1 k
 lt:∀k,k<n→c.1 k<n
 len:c.2.length+S1 n (fun k=>if c.1 k=k then 1 else 0)=n
theorem kf_one{n:Nat}{c:(Nat→Nat)×List E3}(h:KF n c){e:E3}(ha:e.a<n)(hb:e.b<n):KF n (krOne c e):=by
 unfold krOne
 split
 ·exact h
 ·rename_i hne
  have i1:=h.idem e.a ha
  have i2:=h.idem e.b hb
  have l1:=h.lt e.a ha
  have l2:=h.lt e.b hb
  refine⟨fun k hk=>?_,fun k hk=>?_,?_⟩
  ·dsimp only
   have:=h.idem k hk
   by_cases c1:c.1 k=c.1 e.b
   ·rw[if_pos c1]
    rw[i1,if_neg hne]
   ·rw[if_neg c1,this,if_neg c1]
  ·dsimp only
   split
   ·exact l1
   ·exact h.lt k hk
  ·dsimp only
   have h1:=S1_one n (fun k=>if (if c.1 k=c.1 e.b then c.1 e.a else c.1 k)=k then 1 else 0) (fun k=>if c.1 k=k then 1 else 0) l2 (fun k hk hkb=>by
    by_cases c1:c.1 k=c.1 e.b
    ·rw[if_pos c1]
     have n1:¬c.1 k=k:=fun x=>hkb (x.symm.trans c1)
     have n2:¬c.1 e.a=k:=fun x=>by
      rw[←x,i1]at c1;exact hne c1
     rw[if_neg n1,if_neg n2]
    ·rw[if_neg c1])
   have e1:(if (if c.1 (c.1 e.b)=c.1 e.b then c.1 e.a else c.1 (c.1 e.b))=c.1 e.b then 1 else 0)=0:=by rw[if_pos i2,if_neg hne]
   have e2:(if c.1 (c.1 e.b)=c.1 e.b then 1 else 0)=1:=by rw[if_pos i2]
   rw[e1,e2]at h1
   have h2:=h.len
   rw[List.length_append]
   simp only[List.length_cons,List.length_nil]
   omega
theorem kf_fold{n:Nat}:∀(L:List E3) {c:(Nat→Nat)×List E3},KF n c→(∀e∈L,e.a<n∧e.b<n)→KF n (L.foldl krOne c)
 |[],c,h,_=>h
 |e::L,c,h,hL=>kf_fold L (kf_one h (hL e (by simp)).1 (hL e (by simp)).2) (fun x hx=>hL x (by simp[hx]))
theorem krs_len{n:Nat}(hn:1≤n){L:List E3}(hL:∀e∈L,e.a<n∧e.b<n):(krs L).2.length+1≤n:=by
 have h0:KF n (fun k=>k,[]):=⟨fun k _=>rfl,fun k hk=>hk,by
  have:S1 n (fun k=>if k=k then 1 else 0)=S1 n (fun _=>1):=S1_eq _ _ _ (fun k _=>by simp)
  dsimp only
  rw[this,S1_const];simp⟩
 have h1:KF n (krs L):=kf_fold L h0 hL
 have h2:1≤S1 n (fun k=>if (krs L).1 k=k then 1 else 0):=by
  have h3:=S1_one n (fun k=>if (krs L).1 k=k then 1 else 0) (fun k=>if k=(krs L).1 0 then 0 else if (krs L).1 k=k then 1 else 0) (h1.lt 0 hn) (fun k _ hk=>by rw[if_neg hk])
  have e1:(krs L).1 ((krs L).1 0)=(krs L).1 0:=h1.idem 0 hn
  rw[if_pos e1,if_pos rfl]at h3
  omega
 have:=h1.len
 omega
theorem inits_count:∀l:List NMsg,(inits l).length=l.countP isIni
 |[]=>rfl
 |m::t=>by
  have:=inits_count t
  cases m<;>simp[inits,isIni,List.countP_cons,this]
theorem chain_len:∀(I:List (Nat×Nat×Bool)) (p p':Nat×Nat),chain p I p'→p.1+I.length≤p'.1
 |[],p,p',h=>by simp only[chain]at h;rw[h];simp
 |(l,n,f)::t,p,p',h=>by
  obtain⟨h1,h2⟩:=h
  have:=chain_len t (l,n) p' h2
  simp only[List.length_cons]
  dsimp only at this
  omega
theorem kS_count(q:Nat→Nat→List NMsg)(u v:Nat):(inits (kS q u v)).length=(q u v).countP isIni:=by
 rw[inits_count]
 unfold kS
 induction q u v with
 |nil=>rfl
 |cons m t ih=>cases m<;>simp[isCon,isIni,List.filter_cons,List.countP_cons]at ih⊢ <;>exact ih
theorem Inv.rises{G:Gr}{s:St}{g:Gh}{h:Gs}(hI:Inv G s g h)(v:Nat):s.lev v+S1 G.n (fun u=>(s.q u v).countP isIni)≤g.L v:=by
 have hl:=hI.st.l1 v
 have none_of:∀u,g.par v≠some u→(s.q u v).countP isIni=0:=fun u hu=>by
  rw[List.countP_eq_zero]
  intro m hm he
  cases m with
  |initiate a b c=>exact hu (hI.st.i1 u v a b c (by simp[kS,hm,isIni])).1
  |_=>simp[isIni]at he
 cases hp:g.par v with
 |none=>
  have:S1 G.n (fun u=>(s.q u v).countP isIni)=0:=by
   rw[S1_eq G.n _ (fun _=>0) (fun u _=>none_of u (by rw[hp];simp)),S1_const];simp
  omega
 |some x=>
  obtain⟨f1,f2,_⟩:=par_fr hI hp
  have hx:=G.lt _ _ (G.sym _ _ f2)
  have h1:S1 G.n (fun u=>(s.q u v).countP isIni)=(s.q x v).countP isIni:=by
   have h2:=S1_one G.n (fun u=>(s.q u v).countP isIni) (fun _=>0) hx (fun u _ hu=>none_of u (by rw[hp];intro e;exact hu (Option.some.inj e).symm))
   rw[S1_const]at h2
   simp at h2
   exact h2
  rw[h1,←kS_count]
  by_cases e:g.par x=some v
  ·rcases (hI.st.co x v ⟨e,hp⟩).2.2 with c|c|c
   ·rw[c.2.1];simp;omega
   ·rw[c.2.1];simp;omega
   ·rw[c.2.1];simp;omega
  ·have h2:=chain_len _ _ _ (hI.st.ch x v ⟨hp,e⟩).2
   have h3:=hI.st.l1 x
   have f4:=hI.st.f4 v x f1
   dsimp only at h2
   omega
theorem S2_swap(n:Nat)(f:Nat→Nat→Nat):S2 n f=S2 n (fun u v=>f v u):=by
 have:∀m,S1 m (fun u=>S1 n (f u))=S1 n (fun v=>S1 m (fun u=>f u v)):=by
  intro m
  induction m with
  |zero=>
   have:S1 n (fun v=>S1 0 (fun u=>f u v))=S1 n (fun _=>0):=S1_eq _ _ _ (fun v _=>rfl)
   rw[this,S1_const];simp[S1]
  |succ m ih=>
   rw[S1_succ,ih,←S1_add]
   exact S1_eq _ _ _ (fun v _=>by rw[S1_succ])
 exact this n
theorem Cnt.bound{G:Gr}{s:St}{g:Gh}{h:Gs}(hI:Inv G s g h)(h8:G.n≤8)(h1:1≤G.n)(ms:List (Nat×Nat))(hms:∀u v,G.mst u v∨G.mst v u→(u,v)∈ms)(hml:ms.length≤14)(es:List (Nat×Nat))(hes:∀u v,G.adj u v→(u,v)∈es)(hel:es.length≤50){k:Nat}(hC:Cnt G k s h):k≤340:=by
 obtain⟨c,hc,hk⟩:=hC
 have hL:∀v,v<G.n→g.L v≤3:=fun v hv=>by
  have h2:=hI.low hv
  apply Classical.byContradiction
  intro hc
  have h3:2 ^ 4≤2 ^ g.L v:=Nat.pow_le_pow_right (by omega) (by omega)
  have:(2:Nat) ^ 4=16:=by decide
  omega
 have b1:mL G s+mQ G isIni s≤24:=by
  have e:mL G s+mQ G isIni s=S1 G.n (fun v=>s.lev v+S1 G.n (fun u=>(s.q u v).countP isIni)):=by
   unfold mL mQ
   rw[S2_swap,S1_add]
   rfl
  rw[e]
  have:=S1_le G.n (fun v=>s.lev v+S1 G.n (fun u=>(s.q u v).countP isIni)) (fun _=>3) (fun v hv=>Nat.le_trans (hI.rises v) (hL v hv))
  rw[S1_const]at this
  omega
 have b2:mB G s≤14:=Nat.le_trans (S2_pairs G.n (fun u v=>s.se u v=1) ms (fun u v _ _ e=>hms u v (hI.st.mst u v e))) hml
 have b3:mD G s≤50:=Nat.le_trans (S2_pairs G.n (fun u v=>s.se u v≠0∧s.tst u≠some v) es (fun u v _ _ e=>hes u v (hI.st.sa u v e.1).1)) hel
 have b4:mQ G isRoot s≤8:=by
  unfold mQ
  have:∀y,y<G.n→S1 G.n (fun z=>(s.q y z).countP isRoot)≤1:=fun y _=>by
   have one:∀z,(s.q y z).countP isRoot≤1:=fun z=>by
    by_cases hr:root∈s.q y z
    ·have hm:root∈kX s.q y z:=List.mem_filter.2 ⟨hr,rfl⟩
     have h2:=(hI.bs.k2 y z hm).2.2.2.2.2.2.2
     have cp:∀l:List NMsg,(l.filter isRoot).countP isRoot=l.countP isRoot:=fun l=>by
      induction l with
      |nil=>rfl
      |cons m l ih=>cases hm:isRoot m<;>simp[hm,ih]
     rw[←cp]
     exact Nat.le_of_eq h2
    ·have:(s.q y z).countP isRoot=0:=by
      rw[List.countP_eq_zero]
      intro m hm he
      cases m<;>simp[isRoot]at he
      exact hr hm
     omega
   by_cases hr:∃z,z<G.n∧root∈s.q y z
   ·obtain⟨z,hz,hr⟩:=hr
    have hm:root∈kX s.q y z:=List.mem_filter.2 ⟨hr,rfl⟩
    have hb:=(hI.bs.k2 y z hm).2.2.1
    have h2:=S1_one G.n (fun z=>(s.q y z).countP isRoot) (fun _=>0) hz (fun w _ hw=>by
     rw[List.countP_eq_zero]
     intro m hm2 he
     cases m<;>simp[isRoot]at he
     have:=(hI.bs.k2 y w (List.mem_filter.2 ⟨hm2,rfl⟩)).2.2.1
     rw[hb]at this
     exact hw (Option.some.inj this).symm)
    rw[S1_const]at h2
    have:=one z
    omega
   ·have h2:=S1_eq G.n (fun z=>(s.q y z).countP isRoot) (fun _=>0) (fun w hw=>by
     rw[List.countP_eq_zero]
     intro m hm2 he
     cases m<;>simp[isRoot]at he
     exact hr ⟨w,hw,hm2⟩)
    rw[h2,S1_const];omega
  have h3:=S1_le G.n (fun y=>S1 G.n (fun z=>(s.q y z).countP isRoot)) (fun _=>1) this
  rw[S1_const]at h3
  have h4:S2 G.n (fun u v=>(s.q u v).countP isRoot)≤G.n * 1:=h3
  omega
 have b5:=mP_le G h
 have a1:=hc.ni;have a2:=hc.nr;have a3:=hc.nc;have a4:=hc.nt;have a5:=hc.na;have a6:=hc.nx
 have hcc:c.c≤14:=by omega
 have hnc:G.n * c.c≤8 * 14:=Nat.mul_le_mul h8 hcc
 unfold Cn.sum at hk
 omega
end Go.Proofs.YtlfijfodklhplaaGreat.Ghs
namespace Go.Proofs.YtlfijfodklhplaaGreat.Ghs.V
open Go.RowKit
open Ghs NMsg
def sentN(G:Gr)(nodes:Nat→Nod):Nat:=S1 G.n (fun u=>(nodes u).sent.length)
theorem sn{G:Gr}{nodes:Nat→Nod}{u:Nat}{n n':Nod}{d:Nat}(hu:u<G.n)(h:n'.sent.length=n.sent.length+d):sentN G (upd nodes u n')=sentN G (upd nodes u n)+d:=by
 unfold sentN
 have h1:=S1_one G.n (fun x=>(upd nodes u n' x).sent.length) (fun x=>(upd nodes u n x).sent.length) hu (fun x _ hx=>by rw[upd_ne _ _ hx,upd_ne _ _ hx])
 rw[upd_at,upd_at]at h1
 omega
theorem sn0{G:Gr}{nodes:Nat→Nod}{u:Nat}{n n':Nod}(h:n'.sent.length=n.sent.length):sentN G (upd nodes u n')=sentN G (upd nodes u n):=by
 unfold sentN
 refine S1_eq _ _ _ (fun x _=>?_)
 by_cases e:x=u
 ·rw[e,upd_at,upd_at,h]
 ·rw[upd_ne _ _ e,upd_ne _ _ e]
structure Inx(G:Gr)(K:Nat)(nodes:Nat→Nod)(s:St)(g:Gh)(h:Gs):Prop where
 inv:Inv G s g h
 pro:Pro G s g h
 cnt:Cnt G (K+sentN G nodes) s h
theorem x_accept{G:Gr}{K:Nat}{nodes nodes':Nat→Nod}{s:St}{g:Gh}{h:Gs}(hI:Inx G K nodes s g h){v y:Nat}{A B:List NMsg}(hq:s.q v y=A++accept::B)(bw':Nat)(best':Option Nat)
 (hb:(G.w y v<s.bw y∧bw'=G.w y v∧best'=some v)∨(¬G.w y v<s.bw y∧bw'=s.bw y∧best'=s.best y)) (hn:sentN G nodes'=sentN G nodes):
 Inx G K nodes' { s with tst:=upd s.tst y none,bw:=upd s.bw y bw',best:=upd s.best y best',q:=upd2 s.q v y (A++B)} g h:=
 ⟨ev_accept hI.inv hq bw' best' hb,pro_accept hI.inv hI.pro hq bw' best',by rw[hn];exact cnt_accept hI.inv hI.cnt hq bw' best'⟩
theorem x_reject{G:Gr}{K:Nat}{nodes nodes':Nat→Nod}{s:St}{g:Gh}{h:Gs}(hI:Inx G K nodes s g h){v y:Nat}{A B:List NMsg}(hq:s.q v y=A++reject::B)(se':Nat→Nat→Nat)(hse:(s.se y v=0∧se'=upd2 s.se y v 2)∨(s.se y v≠0∧se'=s.se))(hn:sentN G nodes'=sentN G nodes):
 Inx G K nodes' { s with tst:=upd s.tst y none,se:=se',q:=upd2 s.q v y (A++B)} g { h with tg:=fun x=>x=y∨h.tg x}:=
 ⟨ev_reject hI.inv hq se' hse,pro_reject hI.pro hq se' hse,by rw[hn];exact cnt_reject hI.inv hI.cnt hq se' hse⟩
theorem x_tests{G:Gr}{K:Nat}{nodes nodes':Nat→Nod}{s:St}{g:Gh}{h:Gs}(hI:Inx G K nodes s g h){y k:Nat}(htg:h.tg y)(ha:G.adj y k)(h0:s.se y k=0)(hl:∀x,G.adj y x→s.se y x=0→G.w y k≤G.w y x)(hn:sentN G nodes'=sentN G nodes+1):
 Inx G K nodes' { s with tst:=upd s.tst y (some k),q:=addq s.q y k (test (s.lev y) (s.nam y))} g { h with tg:=fun x=>x≠y∧h.tg x}:=
 ⟨ev_tests hI.inv htg ha h0 hl,pro_tests hI.pro,by rw[hn];exact cnt_tests hI.inv hI.cnt htg ha h0⟩
theorem x_tests0{G:Gr}{K:Nat}{nodes:Nat→Nod}{s:St}{g:Gh}{h:Gs}(hI:Inx G K nodes s g h){y:Nat}(h0:∀x,G.adj y x→s.se y x≠0):Inx G K nodes s g { h with tg:=fun x=>x≠y∧h.tg x}:=
 ⟨ev_tests0 hI.inv h0,pro_tests0 hI.pro,cnt_tests0 hI.cnt⟩
theorem x_testA{G:Gr}{K:Nat}{nodes nodes':Nat→Nod}{s:St}{g:Gh}{h:Gs}(hI:Inx G K nodes s g h){v y l n:Nat}{A B:List NMsg}(hq:s.q y v=A++test l n::B)(hv:s.aw v=true)(hl:l≤s.lev v)(hne:n≠s.nam v)(hn:sentN G nodes'=sentN G nodes+1):
 Inx G K nodes' { s with q:=addq (upd2 s.q y v (A++B)) v y accept} g h:=
 ⟨ev_testA hI.inv hq hv hl hne,pro_testA hI.pro hq,by rw[hn];exact cnt_test2 hI.inv hI.cnt hq s.se (Or.inr rfl) accept (Or.inl rfl)⟩
theorem x_testR{G:Gr}{K:Nat}{nodes nodes':Nat→Nod}{s:St}{g:Gh}{h:Gs}(hI:Inx G K nodes s g h){v y l n:Nat}{A B:List NMsg}(hq:s.q y v=A++test l n::B)(hv:s.aw v=true)(hl:l≤s.lev v)(hne:n=s.nam v)(ht:s.tst v≠some y)(se':Nat→Nat→Nat)(hse:(s.se v y=0∧se'=upd2 s.se v y 2)∨(s.se v y≠0∧se'=s.se))(hn:sentN G nodes'=sentN G nodes+1):
 Inx G K nodes' { s with se:=se',q:=addq (upd2 s.q y v (A++B)) v y reject} g h:=
 ⟨ev_testR hI.inv hq hv hl hne ht se' hse,pro_testR hI.pro hq se' hse,by rw[hn];exact cnt_test2 hI.inv hI.cnt hq se' (hse.imp_right And.right) reject (Or.inr rfl)⟩
theorem x_testX{G:Gr}{K:Nat}{nodes nodes':Nat→Nod}{s:St}{g:Gh}{h:Gs}(hI:Inx G K nodes s g h){v y l n:Nat}{A B:List NMsg}(hq:s.q y v=A++test l n::B)(hl:l≤s.lev v)(hne:n=s.nam v)(ht:s.tst v=some y)(se':Nat→Nat→Nat)(hse:(s.se v y=0∧se'=upd2 s.se v y 2)∨(s.se v y≠0∧se'=s.se))(hn:sentN G nodes'=sentN G nodes):
 Inx G K nodes' { s with se:=se',tst:=upd s.tst v none,q:=upd2 s.q y v (A++B)} g { h with tg:=fun x=>x=v∨h.tg x}:=
 ⟨ev_testX hI.inv hq hl hne ht se' hse,pro_testX hI.pro hq se' hse,by rw[hn];exact cnt_testX hI.inv hI.cnt hq ht se' hse⟩
theorem x_reports{G:Gr}{K:Nat}{nodes nodes':Nat→Nod}{s:St}{g:Gh}{h:Gs}(hI:Inx G K nodes s g h){y x:Nat}(hf:s.fnd y=true)(ht:s.tst y=none)(htg:¬h.tg y)(hc:s.cnt y=0)(hx:s.inn y=some x)(ha:G.adj y x)(hn:sentN G nodes'=sentN G nodes+1):
 Inx G K nodes' { s with fnd:=upd s.fnd y false,q:=addq s.q y x (report (s.bw y))} g { h with Z:=fun z=>z=y∨h.Z z,be:=upd h.be y (s.bw y)}:=
 ⟨ev_reports hI.inv hf ht htg hc hx,pro_reports hI.inv hI.pro hf hx,by rw[hn];exact cnt_reports hI.cnt (adj_lt2 ha).1 (adj_lt2 ha).2 hf _ _⟩
theorem x_repC{G:Gr}{K:Nat}{nodes nodes':Nat→Nod}{s:St}{g:Gh}{h:Gs}(hI:Inx G K nodes s g h){x y w:Nat}{A B:List NMsg}(hq:s.q y x=A++report w::B)(hA:inits A=[])(hx:s.inn x≠some y)(bw':Nat)(best':Option Nat)
 (hb:(w<s.bw x∧bw'=w∧best'=some y)∨(¬w<s.bw x∧bw'=s.bw x∧best'=s.best x)) (hn:sentN G nodes'=sentN G nodes):
 Inx G K nodes' { s with cnt:=upd s.cnt x (s.cnt x - 1),bw:=upd s.bw x bw',best:=upd s.best x best',q:=upd2 s.q y x (A++B)} g h:=
 ⟨ev_repC hI.inv hq hA hx bw' best' hb,pro_repC hI.inv hI.pro hq hx (hI.inv.repKid hq hA hx).1 bw' best' _,by rw[hn];exact cnt_repOut hI.inv hI.cnt hq _ _ rfl rfl rfl rfl rfl rfl rfl⟩
theorem x_repNo{G:Gr}{K:Nat}{nodes nodes':Nat→Nod}{s:St}{g:Gh}{h:Gs}(hI:Inx G K nodes s g h){x y w:Nat}{A B:List NMsg}(hq:s.q y x=A++report w::B)(hA:inits A=[])(hx:s.inn x=some y)(hf:s.fnd x=false)(hb:¬s.bw x<w)(ho:¬(w=1001∧s.bw x=1001))(hn:sentN G nodes'=sentN G nodes):
 Inx G K nodes' { s with q:=upd2 s.q y x (A++B)} g h:=
 ⟨ev_repNo hI.inv hq hx hf,pro_repIn hI.inv hI.pro hq hA hx hf hb s.over (fun _ e=>e) (fun _ e=>Or.inl e) (fun e1 e2=>(ho ⟨e1,e2⟩).elim),by rw[hn];exact cnt_repOut hI.inv hI.cnt hq _ _ rfl rfl rfl rfl rfl rfl rfl⟩
theorem x_over{G:Gr}{K:Nat}{nodes nodes':Nat→Nod}{s:St}{g:Gh}{h:Gs}(hI:Inx G K nodes s g h){x y:Nat}{A B:List NMsg}(hq:s.q y x=A++report 1001::B)(hA:inits A=[])(hx:s.inn x=some y)(hf:s.fnd x=false)(hb:s.bw x=1001)(hn:sentN G nodes'=sentN G nodes):
 Inx G K nodes' { s with over:=upd s.over x true,q:=upd2 s.q y x (A++B)} g h:=
 ⟨ev_over hI.inv hq hA hx hf hb,pro_repIn hI.inv hI.pro hq hA hx hf (by omega) _ (fun u e=>by simp only[upd];split<;>first|rfl|exact e) (fun u e=>by
  simp only[upd]at e
  split at e
  ·rename_i c;exact Or.inr ⟨c,rfl⟩
  ·exact Or.inl e) (fun _ _=>by simp[upd]),by rw[hn];exact cnt_repOut hI.inv hI.cnt hq _ _ rfl rfl rfl rfl rfl rfl rfl⟩
open Classical in
theorem x_decide{G:Gr}{K:Nat}{nodes nodes':Nat→Nod}{s:St}{g:Gh}{h:Gs}(hI:Inx G K nodes s g h){x y w:Nat}{A B:List NMsg}(hq:s.q y x=A++report w::B)(hA:inits A=[])(hx:s.inn x=some y)(hf:s.fnd x=false)(hb:s.bw x<w)(hn:sentN G nodes'=sentN G nodes):
 Inx G K nodes' { s with q:=upd2 s.q y x (A++B)} { g with ph:=fun z=>if g.fr x z then 1 else g.ph z,W:=fun z=>if g.fr x z then s.bw x else g.W z,par:=upd g.par x none,dep:=fun z=>if z=x then 0 else g.dep z+1} { h with tk:=fun z=>z=x∨h.tk z}:=
 ⟨ev_decide hI.inv hq hA hx hf hb,pro_decide hI.inv hI.pro hq hA hx hf hb,by rw[hn];exact cnt_repOut hI.inv hI.cnt hq _ _ rfl rfl rfl rfl rfl rfl rfl⟩
theorem x_rootSend{G:Gr}{K:Nat}{nodes nodes':Nat→Nod}{s:St}{g:Gh}{h:Gs}(hI:Inx G K nodes s g h){u c:Nat}(ht:h.tk u)(hb:s.best u=some c)(hs:s.se u c=1)(ha:G.adj u c)(hn:sentN G nodes'=sentN G nodes+1):
 Inx G K nodes' { s with q:=addq s.q u c root} g { h with tk:=fun z=>z≠u∧h.tk z}:=
 ⟨ev_rootSend hI.inv ht hb hs,pro_rootSend hI.pro,by rw[hn];exact cnt_rootSend hI.inv hI.cnt ht (adj_lt2 ha).1 (adj_lt2 ha).2⟩
theorem x_rootRecv{G:Gr}{K:Nat}{nodes nodes':Nat→Nod}{s:St}{g:Gh}{h:Gs}(hI:Inx G K nodes s g h){y c:Nat}{A B:List NMsg}(hq:s.q y c=A++root::B)(hn:sentN G nodes'=sentN G nodes):
 Inx G K nodes' { s with q:=upd2 s.q y c (A++B)} { g with par:=upd (upd g.par y (some c)) c none,dep:=fun z=>if z=c then 0 else g.dep z+1} { h with tk:=fun z=>z=c∨h.tk z,ps:=fun z=>z=y∨h.ps z}:=
 ⟨ev_rootRecv hI.inv hq,pro_rootRecv hI.inv hI.pro hq,by rw[hn];exact cnt_rootRecv hI.inv hI.cnt hq⟩
open Classical in
theorem x_conn{G:Gr}{K:Nat}{nodes nodes':Nat→Nod}{s:St}{g:Gh}{h:Gs}(hI:Inx G K nodes s g h){u v:Nat}(ht:h.tk u)(ha:G.adj u v)(h0:s.se u v=0)(h1:s.se v u≠1)(hw:G.w u v=g.W u)(hf:¬g.fr u v)(hl:g.L u≤s.lev v)(hn:sentN G nodes'=sentN G nodes+1):
 Inx G K nodes' { s with se:=upd2 s.se u v 1,q:=addq s.q u v (connect (s.lev u))} { g with ph:=fun z=>if g.fr u z then 2 else g.ph z} { h with tk:=fun z=>z≠u∧h.tk z,ps:=fun z=>h.ps z∧¬g.fr u z}:=
 ⟨ev_conn hI.inv ht ha h0 h1 hw hf hl,pro_conn hI.inv hI.pro ha h1,by rw[hn];exact cnt_conn hI.cnt ha h0 _ rfl (fun z e=>e.1)⟩
theorem x_wake{G:Gr}{K:Nat}{nodes nodes':Nat→Nod}{s:St}{g:Gh}{h:Gs}(hI:Inx G K nodes s g h){u:Nat}(ha:s.aw u=false)(W':Nat)(hW:∀v,G.adj u v→W'≤G.w u v)(hn:sentN G nodes'=sentN G nodes):
 Inx G K nodes' { s with aw:=upd s.aw u true} { g with ph:=upd g.ph u 1,W:=upd g.W u W'} { h with tk:=fun z=>z=u∨h.tk z}:=
 ⟨ev_wake hI.inv ha W' hW,pro_wake hI.inv hI.pro W',by rw[hn];exact cnt_plain hI.cnt rfl rfl rfl rfl rfl rfl rfl rfl rfl (fun _ _ e=>e)⟩
theorem x_lone{G:Gr}{K:Nat}{nodes nodes':Nat→Nod}{s:St}{g:Gh}{h:Gs}(hI:Inx G K nodes s g h){u:Nat}(hL:g.L u=0)(hna:∀v,¬G.adj u v)(hn:sentN G nodes'=sentN G nodes):Inx G K nodes' { s with over:=upd s.over u true} g { h with tk:=fun z=>z≠u∧h.tk z}:=
 ⟨ev_lone (hI.inv.untk u) hL hna,pro_lone hI.inv hI.pro hL hna,by rw[hn];exact cnt_plain hI.cnt rfl rfl rfl rfl rfl rfl rfl rfl rfl (fun _ _ e=>e)⟩
theorem x_core{G:Gr}{K:Nat}{nodes nodes':Nat→Nod}{s:St}{g:Gh}{h:Gs}(hI:Inx G K nodes s g h){u v l:Nat}{A B:List NMsg}(hq:s.q u v=A++connect l::B)(hs:s.se v u=1)(hn:sentN G nodes'=sentN G nodes+1):
 Inx G K nodes' { s with q:=addq (upd2 s.q u v (A++B)) v u (initiate (s.lev v+1) (G.w v u) true)} g h:=
 ⟨ev_core hI.inv hq hs,pro_core hI.pro hq,by rw[hn];exact cnt_ini hI.inv hI.cnt hq _ _ _ _ _ rfl rfl rfl (fun _ _ e=>e) (fun _ _ e=>e) rfl (fun _=>Iff.rfl) rfl⟩
theorem x_init{G:Gr}{K:Nat}{nodes nodes':Nat→Nod}{s:St}{g:Gh}{h:Gs}(hI:Inx G K nodes s g h){x y l n:Nat}{f:Bool}{A B:List NMsg}(hq:s.q x y=A++initiate l n f::B)(hA0:inits A=[])(hA1:∀l,connect l∉A)(hA2:∀w,report w∉A)(c':Nat)(kl:List Nat)(k1:kl.Nodup)(k2:∀z,z∈kl↔(z≠x∧s.se y z=1))(hc:c'=if f then kl.length else 0)(hn:sentN G nodes'=sentN G nodes+kl.length):
 Inx G K nodes' { s with lev:=upd s.lev y l,nam:=upd s.nam y n,inn:=upd s.inn y (some x),best:=upd s.best y none,bw:=upd s.bw y 1001,fnd:=upd s.fnd y f,cnt:=upd s.cnt y c',q:=initq s.q s.se x y (A++B) (initiate l n f)} g { h with tg:=fun z=>(z=y∧f=true)∨h.tg z}:=by
 have hev:=ev_init hI.inv hq hA0 hA1 hA2 c' (by
  rw[hc]
  cases f
  ·exact Or.inl ⟨rfl,rfl⟩
  ·exact Or.inr ⟨rfl,kl,k1,rfl,k2⟩)
 refine⟨hev.2.2,pro_init hI.inv hI.pro hq hev.2.1 c',?_⟩
 rw[hn,←Nat.add_assoc]
 exact cnt_init hI.inv hI.cnt hq hev.2.1 hev.1 kl k1 k2 _ rfl rfl rfl rfl rfl
open Classical in
theorem x_absorb{G:Gr}{K:Nat}{nodes nodes':Nat→Nod}{s:St}{g:Gh}{h:Gs}(hI:Inx G K nodes s g h){u v l:Nat}{A B:List NMsg}(hq:s.q u v=A++connect l::B)(hl:l<s.lev v)(cnt':Nat→Nat)(hcnt:(s.fnd v=true∧cnt'=upd s.cnt v (s.cnt v+1))∨(s.fnd v=false∧cnt'=s.cnt))(hn:sentN G nodes'=sentN G nodes+1):
 Inx G K nodes' { s with se:=upd2 s.se v u 1,cnt:=cnt',q:=addq (upd2 s.q u v (A++B)) v u (initiate (s.lev v) (s.nam v) (s.fnd v))}
  { fr:=fun a b=>g.fr a b∨((g.fr u a∨g.fr v a)∧(g.fr u b∨g.fr v b)),L:=fun z=>if g.fr u z then g.L v else g.L z,N:=fun z=>if g.fr u z then g.N v else g.N z,ph:=fun z=>if g.fr u z then g.ph v else g.ph z,W:=fun z=>if g.fr u z then g.W v else g.W z,par:=upd g.par u (some v),dep:=fun z=>if g.fr u z then g.dep v+1+g.dep z else g.dep z}
  { h with Z:=fun z=>if g.fr u z then h.Z v else h.Z z,be:=fun z=>if g.fr u z then G.w u v else h.be z,ps:=fun z=>h.ps z∧¬g.fr u z}:=by
 have hm:connect l∈kS s.q u v:=by simp only[kS,hq];simp[isCon]
 have hcn:=hI.inv.st.cn u v l hm
 have hne:s.se v u≠1:=fun e=>by have:=(hcn.2.1 e).2.2.2;omega
 have h0:=hI.inv.st.hf u v ⟨hcn.1,hne⟩
 refine⟨ev_absorb hI.inv hq hl cnt' hcnt,pro_absorb hI.inv hI.pro hq hl cnt',?_⟩
 rw[hn]
 refine cnt_ini hI.inv hI.cnt hq _ _ _ _ _ rfl rfl rfl (fun x y e=>?_) (fun x y e=>?_) rfl (fun z=>⟨fun e=>e.1,fun e=>⟨e,fun c=>?_⟩⟩) rfl
 ·simp only[upd2];split
  ·omega
  ·exact e
 ·simp only[upd2];split
  ·rfl
  ·exact e
 ·have h1:=hI.inv.pa.p1 z e
  have h2:=hI.inv.st.f4 u z c
  omega
open Classical in
theorem x_merge{G:Gr}{K:Nat}{nodes nodes':Nat→Nod}{s:St}{g:Gh}{h:Gs}(hI:Inx G K nodes s g h){u v:Nat}(ht:h.tk u)(ha:G.adj u v)(h0:s.se u v=0)(h1:s.se v u=1)(hw:G.w u v=g.W u)(hf:¬g.fr u v)(hl:g.L u≤s.lev v)(hn:sentN G nodes'=sentN G nodes+1):
 Inx G K nodes' { s with se:=upd2 s.se u v 1,q:=addq s.q u v (connect (s.lev u))}
  { fr:=fun a b=>g.fr a b∨((g.fr u a∨g.fr v a)∧(g.fr u b∨g.fr v b)),L:=fun z=>if g.fr u z∨g.fr v z then g.L u+1 else g.L z,N:=fun z=>if g.fr u z∨g.fr v z then G.w u v else g.N z,ph:=fun z=>if g.fr u z∨g.fr v z then 0 else g.ph z,W:=fun z=>if g.fr u z∨g.fr v z then 0 else g.W z,par:=upd (upd g.par u (some v)) v (some u),dep:=g.dep}
  { h with Z:=fun z=>h.Z z∧¬(g.fr u z∨g.fr v z),be:=fun z=>if g.fr u z∨g.fr v z then 0 else h.be z,tk:=fun z=>z≠u∧h.tk z,ps:=fun z=>h.ps z∧¬(g.fr u z∨g.fr v z)}:=
 ⟨ev_merge hI.inv ht ha h0 h1 hw hf hl,pro_merge hI.inv hI.pro ht ha h0 h1 hl,by rw[hn];exact cnt_conn hI.cnt ha h0 _ rfl (fun z e=>e.1)⟩
theorem x_start(G:Gr)(nodes:Nat→Nod)(hs:∀u,(nodes u).sent=[]){s:St}(h1:∀u,s.aw u=false)(h2:∀u,s.lev u=0)(h3:∀u,s.fnd u=false)(h4:∀u v,s.se u v=0)(h5:∀u,s.tst u=none)(h6:∀u,s.cnt u=0)(h7:∀u,s.over u=false)(h8:∀u v,s.q u v=[])(h9:∀u,s.bw u≤1001):Inx G 0 nodes s g0 h0:=by
 refine⟨inv_start G h2 h3 h4 h5 h6 h7 h8 h9,pro_start G h1 h7,?_⟩
 have:sentN G nodes=0:=by
  unfold sentN
  rw[S1_eq G.n _ (fun _=>0) (fun u _=>by rw[hs];rfl),S1_const];simp
 rw[this]
 exact cnt_start G h8 h3
def Good(G:Gr)(T:Top G)(K:Nat)(nodes:Nat→Nod)(P:Nat→Nat→List NMsg):Prop:=∃s g h,Rel G T nodes P s∧Inx G K nodes s g h∧(∀u,¬h.tk u)∧(∀u,¬h.tg u)
theorem sim_reports{G:Gr}{T:Top G}{nodes:Nat→Nod}{u:Nat}{n:Nod}{P:Nat→Nat→List NMsg}{s:St}{g:Gh}{h:Gs}{K:Nat}(hR:Rel G T (upd nodes u n) P s)(hI:Inx G K (upd nodes u n) s g h)(hf:s.fnd u=true)(ht:¬h.tg u):
 ∃s' h',Rel G T (upd nodes u n.reports) P s'∧Inx G K (upd nodes u n.reports) s' g h'∧h'.tk=h.tk∧h'.tg=h.tg:=by
 have h0:=hR.nr u
 rw[upd_at]at h0
 unfold Nod.reports
 split
 ·rename_i hc
  obtain⟨x,hx⟩:=hI.inv.inn_some hf
  have hi:=h0.inn
  rw[hx]at hi
  cases e:n.inn with
  |none=>rw[e]at hi;cases hi
  |some j=>
   rw[e]at hi
   simp at hi
   have hj:=h0.innl j e
   subst hi
   have h1:s.tst u=none:=by rw[h0.tst,hc.2];rfl
   have h2:s.cnt u=0:=by have:=h0.cnt;rw[hc.1]at this;omega
   have hadj:=T.adj u j hj
   have h3:=x_reports (nodes':=upd nodes u (({ n with state:=2}:Nod).send j (report n.bw))) hI hf h1 ht h2 hx hadj (sn (adj_lt2 hadj).1 (by simp[Nod.send]))
   rw[e]at h3
   refine⟨_,_,?_,h3,rfl,rfl⟩
   have h4:Rel G T (upd nodes u { n with state:=2}) P { s with fnd:=upd s.fnd u false}:=by
    have haw:=fnd_aw hI.inv hf
    refine hR.mod (fun z hz=>⟨rfl,rfl,rfl,by simp[upd,hz],rfl,rfl,rfl,rfl,rfl,rfl,rfl,rfl⟩) ⟨?_,h0.lev,h0.nam,?_,h0.len,h0.se,h0.wt,h0.inn,h0.innl,h0.best,h0.bestl,h0.tst,h0.tstl,h0.bw,h0.cnt,h0.over,h0.bw1⟩ (fun k hk=>?_) hR.rp
    ·simp[haw]
    ·simp[upd]
    ·have:=hR.q u k hk;rw[upd_at]at this;exact this
   have h5:=h4.send hj (m:=report n.bw) (fun w e=>by cases e;exact h0.bw1)
   rw[h0.bw]
   rw[e]at h5
   exact h5
 ·exact⟨s,h,hR,hI,rfl,rfl⟩
theorem sim_tests{G:Gr}{T:Top G}{nodes:Nat→Nod}{u:Nat}{n:Nod}{P:Nat→Nat→List NMsg}{s:St}{g:Gh}{h:Gs}{K:Nat}(hR:Rel G T (upd nodes u n) P s)(hI:Inx G K (upd nodes u n) s g h)(ht:h.tg u):
 ∃s' h',Rel G T (upd nodes u n.tests) P s'∧Inx G K (upd nodes u n.tests) s' g h'∧h'.tk=h.tk∧h'.tg=fun x=>x≠u∧h.tg x:=by
 have h0:=hR.nr u
 rw[upd_at]at h0
 have hf:s.fnd u=true:=by
  cases e:s.fnd u
  ·exact((hI.inv.ts.t0 u e).2 ht).elim
  ·rfl
 have hn:=hI.inv.ts.t3 u ht
 have hnt:n.tested=none:=by
  have:=h0.tst;rw[hn]at this
  cases e:n.tested with
  |none=>rfl
  |some j=>rw[e]at this;cases this
 unfold Nod.tests
 split
 ·rename_i hl
  have h1:=x_tests0 hI (h0.light_none hl)
  have e:({ n with tested:=none}:Nod)=n:=by cases n;simp at hnt⊢;exact hnt.symm
  rw[e]
  obtain⟨s',h',a1,a2,a3,a4⟩:=sim_reports hR h1 hf (fun e=>e.1 rfl)
  exact⟨s',h',a1,a2,a3,a4⟩
 ·rename_i j hl
  obtain⟨hj,l1,l2⟩:=h0.light_some hl
  have h1:=x_tests (nodes':=upd nodes u (({ n with tested:=some j}:Nod).send j (test n.level n.name))) hI ht (T.adj u j hj) l1 l2 (sn (adj_lt2 (T.adj u j hj)).1 (by simp[Nod.send]))
  refine⟨_,_,?_,h1,rfl,rfl⟩
  have h4:Rel G T (upd nodes u { n with tested:=some j}) P { s with tst:=upd s.tst u (some (T.nb u j))}:=by
   refine hR.mod (fun z hz=>⟨rfl,rfl,rfl,rfl,rfl,rfl,rfl,rfl,by simp[upd,hz],rfl,rfl,rfl⟩) ⟨h0.aw,h0.lev,h0.nam,h0.fnd,h0.len,h0.se,h0.wt,h0.inn,h0.innl,h0.best,h0.bestl,?_,?_,h0.bw,h0.cnt,h0.over,h0.bw1⟩ (fun k hk=>?_) hR.rp
   ·simp[upd]
   ·intro k e;cases e;exact hj
   ·have:=hR.q u k hk;rw[upd_at]at this;exact this
  have h5:=h4.send hj (m:=test n.level n.name) (fun w e=>by cases e)
  rw[h0.lev,h0.nam]
  exact h5
theorem act_accept{G:Gr}{T:Top G}{nodes:Nat→Nod}{P:Nat→Nat→List NMsg}{K:Nat}(hG:Good G T K nodes P){y j:Nat}(hj:j<T.dg y){A B:List NMsg}(hP:P (T.nb y j) y=A++accept::B):
 Good G T K (upd nodes y ((nodes y).accept j)) (upd2 P (T.nb y j) y (A++B)):=by
 obtain⟨s,g,h,hR,hI,htk,htg⟩:=hG
 have ha:=T.adj y j hj
 obtain⟨C,hq,hR1⟩:=hR.out (G.sym _ _ ha) hP
 have hm:accept∈kT s.q (T.nb y j) y:=by simp only[kT,hq];simp[isAns]
 have hf:=tst_fnd hI.inv (hI.inv.ts.t5 y (T.nb y j) hm).1
 have h0:=hR.nr y
 have hR2:Rel G T (upd nodes y { nodes y with tested:=none}) (upd2 P (T.nb y j) y (A++B)) { s with tst:=upd s.tst y none,q:=upd2 s.q (T.nb y j) y (A++C)}:=by
  rw[←upd_self nodes y]at hR1
  refine hR1.mod (fun z hz=>⟨rfl,rfl,rfl,rfl,rfl,rfl,rfl,rfl,by simp[upd,hz],rfl,rfl,rfl⟩) ⟨h0.aw,h0.lev,h0.nam,h0.fnd,h0.len,h0.se,h0.wt,h0.inn,h0.innl,h0.best,h0.bestl,by simp[upd],(fun k e=>by cases e),h0.bw,h0.cnt,h0.over,h0.bw1⟩ (fun k hk=>?_) hR1.rp
  have:=hR1.q y k hk;rw[upd_at]at this;exact this
 obtain⟨bw',best',hb,hR3⟩:=sim_hear hR2 hj (w:=(nodes y).wt j) (by rw[h0.wt j hj];exact(G.w1 _ _ ha).1)
 rw[h0.wt j hj]at hb
 rw[←upd_self nodes y]at hI
 have hI2:=x_accept (nodes':=upd nodes y (({ nodes y with tested:=none}:Nod).hear j ((nodes y).wt j))) hI hq bw' best' hb (sn0 (by unfold Nod.hear;split<;>rfl))
 obtain⟨s',h',a1,a2,a3,a4⟩:=sim_reports hR3 hI2 hf (htg y)
 exact⟨s',g,h',a1,a2,by rw[a3];exact htk,by rw[a4];exact htg⟩
theorem act_reject{G:Gr}{T:Top G}{nodes:Nat→Nod}{P:Nat→Nat→List NMsg}{K:Nat}(hG:Good G T K nodes P){y j:Nat}(hj:j<T.dg y){A B:List NMsg}(hP:P (T.nb y j) y=A++reject::B):
 Good G T K (upd nodes y (((nodes y).reject j).tests)) (upd2 P (T.nb y j) y (A++B)):=by
 obtain⟨s,g,h,hR,hI,htk,htg⟩:=hG
 have ha:=T.adj y j hj
 obtain⟨C,hq,hR1⟩:=hR.out (G.sym _ _ ha) hP
 rw[←upd_self nodes y]at hR1
 obtain⟨se',hse,hR2⟩:=sim_reject hR1 hj
 have hR3:=sim_untest hR2
 rw[←upd_self nodes y]at hI
 have hI2:=x_reject (nodes':=upd nodes y { (nodes y).reject j with tested:=none}) hI hq se' hse (sn0 (by unfold Nod.reject;split<;>rfl))
 obtain⟨s',h',a1,a2,a3,a4⟩:=sim_tests hR3 hI2 (Or.inl rfl)
 rw[tests_none]at a1 a2
 refine⟨s',g,h',a1,a2,by rw[a3];exact htk,fun x hx=>?_⟩
 rw[a4]at hx
 rcases hx with⟨x1,x2|x2⟩
 ·exact x1 x2
 ·exact htg x x2
theorem act_test{G:Gr}{T:Top G}{nodes:Nat→Nod}{P:Nat→Nat→List NMsg}{K:Nat}(hG:Good G T K nodes P){v j l n:Nat}(hj:j<T.dg v){A B:List NMsg}(hP:P (T.nb v j) v=A++test l n::B)(hw:(nodes v).state≠0)(ht:((nodes v).test j l n).2=true):
 Good G T K (upd nodes v ((nodes v).test j l n).1) (upd2 P (T.nb v j) v (A++B)):=by
 obtain⟨s,g,h,hR,hI,htk,htg⟩:=hG
 have ha:=T.adj v j hj
 obtain⟨C,hq,hR1⟩:=hR.out (G.sym _ _ ha) hP
 rw[←upd_self nodes v]at hR1
 have h0:=hR.nr v
 have hav:=h0.aw.2 hw
 have ew:(nodes v).wake=nodes v:=by simp[Nod.wake,hw]
 unfold Nod.test at ht⊢
 rw[ew]at ht⊢
 dsimp only at ht⊢
 by_cases c1:(nodes v).level<l
 ·rw[if_pos c1]at ht;cases ht
 ·rw[if_neg c1]at ht⊢
  have hl:l≤s.lev v:=by rw[h0.lev];omega
  by_cases c2:n≠(nodes v).name
  ·rw[if_pos c2]at ht⊢
   rw[←upd_self nodes v]at hI
   have h1:=x_testA (nodes':=upd nodes v ((nodes v).send j accept)) hI hq hav hl (by rw[h0.nam];exact c2) (sn (adj_lt2 ha).1 (by simp[Nod.send]))
   exact⟨_,g,h,hR1.send hj (fun w e=>by cases e),h1,htk,htg⟩
  ·rw[if_neg c2]at ht⊢
   have hn:n=s.nam v:=by rw[h0.nam];exact Classical.not_not.1 c2
   obtain⟨se',hse,hR2⟩:=sim_reject hR1 hj
   by_cases c3:(nodes v).tested=some j
   ·rw[if_pos c3]at ht⊢
    have htv:s.tst v=some (T.nb v j):=by rw[h0.tst,c3];rfl
    rw[←upd_self nodes v]at hI
    have h1:=x_testX (nodes':=upd nodes v { (nodes v).reject j with tested:=none}) hI hq hl hn htv se' hse (sn0 (by unfold Nod.reject;split<;>rfl))
    have hR3:=sim_untest hR2
    obtain⟨s',h',a1,a2,a3,a4⟩:=sim_tests hR3 h1 (Or.inl rfl)
    rw[tests_none]at a1 a2
    refine⟨s',g,h',a1,a2,by rw[a3];exact htk,fun x hx=>?_⟩
    rw[a4]at hx
    rcases hx with⟨x1,x2|x2⟩
    ·exact x1 x2
    ·exact htg x x2
   ·rw[if_neg c3]at ht⊢
    have htv:s.tst v≠some (T.nb v j):=fun e=>by
     rw[h0.tst]at e
     cases e2:(nodes v).tested with
     |none=>rw[e2]at e;cases e
     |some k=>
      rw[e2]at e
      simp at e
      have:=T.inj v _ _ (h0.tstl k e2) hj e
      subst this
      exact c3 e2
    rw[←upd_self nodes v]at hI
    have h1:=x_testR (nodes':=upd nodes v (((nodes v).reject j).send j reject)) hI hq hav hl hn htv se' hse (sn (adj_lt2 ha).1 (by unfold Nod.send Nod.reject;split<;>simp[Nod.setSt]))
    exact⟨_,g,h,hR2.send hj (fun w e=>by cases e),h1,htk,htg⟩
theorem sim_conn{G:Gr}{T:Top G}{nodes:Nat→Nod}{u:Nat}{n:Nod}{P:Nat→Nat→List NMsg}{s:St}{g:Gh}{h:Gs}{K:Nat}(hR:Rel G T (upd nodes u n) P s)(hI:Inx G K (upd nodes u n) s g h){j:Nat}(hj:j<T.dg u)(ht:h.tk u)(h0:s.se u (T.nb u j)=0)(hw:G.w u (T.nb u j)=g.W u)(hf:¬g.fr u (T.nb u j))(hl:g.L u≤s.lev (T.nb u j)):
 ∃s' g' h',Rel G T (upd nodes u ((n.send j (connect n.level)).setSt j 1)) P s'∧Inx G K (upd nodes u ((n.send j (connect n.level)).setSt j 1)) s' g' h'∧(h'.tk=fun z=>z≠u∧h.tk z)∧h'.tg=h.tg:=by
 have hn:=hR.nr u
 rw[upd_at]at hn
 have hR2:=(hR.send hj (m:=connect n.level) (fun w e=>by cases e)).setSt hj 1
 rw[←hn.lev]at hR2
 by_cases e:s.se (T.nb u j) u=1
 ·have h1:=x_merge (nodes':=upd nodes u ((n.send j (connect n.level)).setSt j 1)) hI ht (T.adj u j hj) h0 e hw hf hl (sn (adj_lt2 (T.adj u j hj)).1 (by simp[Nod.send,Nod.setSt]))
  exact⟨_,_,_,(by rw[←hn.lev];exact hR2),h1,rfl,rfl⟩
 ·have h1:=x_conn (nodes':=upd nodes u ((n.send j (connect n.level)).setSt j 1)) hI ht (T.adj u j hj) h0 e hw hf hl (sn (adj_lt2 (T.adj u j hj)).1 (by simp[Nod.send,Nod.setSt]))
  exact⟨_,_,_,(by rw[←hn.lev];exact hR2),h1,rfl,rfl⟩
theorem sim_root{G:Gr}{T:Top G}{nodes:Nat→Nod}{u:Nat}{n:Nod}{P:Nat→Nat→List NMsg}{s:St}{g:Gh}{h:Gs}{K:Nat}(hR:Rel G T (upd nodes u n) P s)(hI:Inx G K (upd nodes u n) s g h)(ht:h.tk u)(hL:1≤g.L u):
 (∃b,n.best=some b)∧∃s' g' h',Rel G T (upd nodes u n.changeRoot) P s'∧Inx G K (upd nodes u n.changeRoot) s' g' h'∧(h'.tk=fun z=>z≠u∧h.tk z)∧h'.tg=h.tg:=by
 have hn:=hR.nr u
 rw[upd_at]at hn
 obtain⟨k1,k2,k3,k4,k5,k6⟩:=hI.inv.bs.k1 u ht
 have k7:=hI.inv.pa.k3 u ht
 obtain⟨v,b1,b2,b3⟩:=hI.inv.bs.bb u hL k4 (by omega) (k5 hL).2
 have hb:=hn.best
 rw[b1]at hb
 cases e:n.best with
 |none=>rw[e]at hb;cases hb
 |some b=>
  refine⟨⟨b,rfl⟩,?_⟩
  rw[e]at hb
  simp at hb
  subst hb
  have hj:=hn.bestl b e
  unfold Nod.changeRoot
  simp only[e]
  rcases b3 with b3|b3|b3
  ·exact(k7.2.1 b3).elim
  ·have e1:n.st b≠1:=by rw[←hn.se b hj];omega
   rw[if_neg e1]
   exact sim_conn hR hI hj ht b3.1 (by have:=(k5 hL).1;omega) b3.2.2.1 b3.2.2.2
  ·have e2:=(hI.inv.st.pr _ _ b3.1.1).2
   have e1:n.st b=1:=by rw[←hn.se b hj];exact e2
   rw[if_pos e1]
   have h1:=x_rootSend (nodes':=upd nodes u (n.send b root)) hI ht b1 e2 (T.adj u b hj) (sn (adj_lt2 (T.adj u b hj)).1 (by simp[Nod.send]))
   exact⟨_,_,_,hR.send hj (fun w e=>by cases e),h1,rfl,rfl⟩
theorem act_wake{G:Gr}{T:Top G}{nodes:Nat→Nod}{P:Nat→Nat→List NMsg}{K:Nat}(hG:Good G T K nodes P)(u:Nat):Good G T K (upd nodes u (nodes u).wake) P:=by
 unfold Nod.wake
 by_cases e0:(nodes u).state=0
 ·rw[if_pos e0]
  obtain⟨s,g,h,hR,hI,htk,htg⟩:=hG
  have hn:=hR.nr u
  have ha:s.aw u=false:=by
   cases e:s.aw u
   ·rfl
   ·exact(hn.aw.1 e e0).elim
  have hf:s.fnd u=false:=by
   cases e:s.fnd u
   ·rfl
   ·have:=hn.fnd.1 e;omega
  obtain⟨a1,a2,a3,a4,a5⟩:=hI.inv.st.asl u ha
  have hse:∀v,s.se u v=0:=fun v=>by
   apply Classical.byContradiction
   intro e
   have:=(hI.inv.st.sa u v e).2
   rw[ha]at this;cases this
  have hc:=hI.inv.rp.s6 u hf
  have hR1:Rel G T (upd nodes u { nodes u with level:=0,state:=2,count:=0}) P { s with aw:=upd s.aw u true}:=by
   rw[←upd_self nodes u]at hR
   refine hR.mod (fun z hz=>⟨by simp[upd,hz],rfl,rfl,rfl,rfl,rfl,rfl,rfl,rfl,rfl,rfl,rfl⟩) ⟨by simp[upd],a1,hn.nam,by simp[hf],hn.len,hn.se,hn.wt,hn.inn,hn.innl,hn.best,hn.bestl,hn.tst,hn.tstl,hn.bw,by simp[hc],hn.over,hn.bw1⟩ (fun k hk=>?_) hR.rp
   have:=hR.q u k hk;rw[upd_at]at this;exact this
  have hn1:=hR1.nr u
  rw[upd_at]at hn1
  rw[←upd_self nodes u]at hI
  split
  ·rename_i hl
   have h1:=x_wake (nodes':=upd nodes u { nodes u with level:=0,state:=2,count:=0}) hI ha 0 (fun v _=>Nat.zero_le _) (sn0 rfl)
   have hna:∀v,¬G.adj u v:=fun v hv=>hn1.light_none hl v hv (hse v)
   have h2:=x_lone (nodes':=upd nodes u { nodes u with level:=0,state:=2,count:=0,over:=true}) h1 (u:=u) a2 hna (sn0 rfl)
   refine⟨_,_,_,?_,h2,?_,htg⟩
   ·refine hR1.mod (fun z hz=>⟨rfl,rfl,rfl,rfl,rfl,rfl,rfl,rfl,rfl,rfl,by simp[upd,hz],rfl⟩) ⟨hn1.aw,hn1.lev,hn1.nam,hn1.fnd,hn1.len,hn1.se,hn1.wt,hn1.inn,hn1.innl,hn1.best,hn1.bestl,hn1.tst,hn1.tstl,hn1.bw,hn1.cnt,by simp[upd],hn1.bw1⟩ (fun k hk=>?_) hR1.rp
    have:=hR1.q u k hk;rw[upd_at]at this;exact this
   ·intro x hx
    rcases hx with⟨x1,x2|x2⟩
    ·exact x1 x2
    ·exact htk x x2
  ·rename_i j hl
   obtain⟨hj,l1,l2⟩:=hn1.light_some hl
   have h1:=x_wake (nodes':=upd nodes u { nodes u with level:=0,state:=2,count:=0}) hI ha (G.w u (T.nb u j)) (fun v hv=>l2 v hv (hse v)) (sn0 rfl)
   have hnf:¬g.fr u (T.nb u j):=fun e=>by
    have:=hI.inv.st.f5 u _ a2 e
    have h9:=T.adj u j hj
    rw[←this]at h9
    exact G.irr _ h9
   obtain⟨s',g',h',b1,b2,b3,b4⟩:=sim_conn hR1 h1 hj (Or.inl rfl) l1 (by simp[upd]) hnf (by dsimp only;omega)
   refine⟨s',g',h',b1,b2,?_,by rw[b4];exact htg⟩
   intro x hx
   rw[b3]at hx
   rcases hx with⟨x1,x2|x2⟩
   ·exact x1 x2
   ·exact htk x x2
 ·rw[if_neg e0,upd_self];exact hG
theorem act_connect{G:Gr}{T:Top G}{nodes:Nat→Nod}{P:Nat→Nat→List NMsg}(hsm:G.n<2 ^ 30){K:Nat}(hG:Good G T K nodes P){v j l:Nat}(hj:j<T.dg v){A B:List NMsg}(hP:P (T.nb v j) v=A++connect l::B)(hw:(nodes v).state≠0)(ht:((nodes v).connect j l).2=true):
 Good G T K (upd nodes v ((nodes v).connect j l).1) (upd2 P (T.nb v j) v (A++B)):=by
 obtain⟨s,g,h,hR,hI,htk,htg⟩:=hG
 have ha:=T.adj v j hj
 obtain⟨C,hq,hR1⟩:=hR.out (G.sym _ _ ha) hP
 rw[←upd_self nodes v]at hR1
 have h0:=hR.nr v
 have ew:(nodes v).wake=nodes v:=by simp[Nod.wake,hw]
 unfold Nod.connect at ht⊢
 rw[ew]at ht⊢
 dsimp only at ht⊢
 by_cases c1:l<(nodes v).level
 ·rw[if_pos c1]at ht⊢
  have hl:l<s.lev v:=by rw[h0.lev];exact c1
  have hR2:=hR1.setSt hj 1
  have hR3:=hR2.send hj (m:=initiate (nodes v).level (nodes v).name ((nodes v).state==1)) (fun w e=>by cases e)
  have hn3:=hR3.nr v
  rw[upd_at]at hn3
  have hcl:=hI.inv.cnt_le v
  unfold Nod.spread
  cases ef:s.fnd v
  ·have e1:((nodes v).state==1)=false:=by
    cases e:((nodes v).state==1)
    ·rfl
    ·rw[h0.fnd.2 (by simpa using e)]at ef;cases ef
   rw[←upd_self nodes v]at hI
   have h1:=x_absorb (nodes':=upd nodes v (((nodes v).setSt j 1).send j (initiate (nodes v).level (nodes v).name false))) hI hq hl s.cnt (Or.inr ⟨ef,rfl⟩) (sn (adj_lt2 ha).1 (by simp[Nod.send,Nod.setSt]))
   rw[h0.lev,h0.nam,ef]at h1
   rw[e1]at hR3⊢
   exact⟨_,_,_,hR3,h1,htk,htg⟩
  ·have e1:((nodes v).state==1)=true:=by simpa using h0.fnd.1 ef
   rw[←upd_self nodes v]at hI
   have h1:=x_absorb (nodes':=upd nodes v { ((nodes v).setSt j 1).send j (initiate (nodes v).level (nodes v).name true)with count:=wrap64 (((nodes v).setSt j 1).count+1)}) hI hq hl _ (Or.inl ⟨ef,rfl⟩) (sn (adj_lt2 ha).1 (by simp[Nod.send,Nod.setSt]))
   rw[h0.lev,h0.nam,ef]at h1
   rw[e1]at hR3⊢
   rw[e1]at hn3
   simp only[if_true]
   refine⟨_,_,_,?_,h1,htk,htg⟩
   have hcn:((nodes v).setSt j 1).count=(s.cnt v:Int):=h0.cnt
   refine hR3.mod (fun z hz=>⟨rfl,rfl,rfl,rfl,rfl,rfl,rfl,rfl,rfl,by simp[upd,hz],rfl,rfl⟩) ⟨hn3.aw,hn3.lev,hn3.nam,hn3.fnd,hn3.len,hn3.se,hn3.wt,hn3.inn,hn3.innl,hn3.best,hn3.bestl,hn3.tst,hn3.tstl,hn3.bw,?_,hn3.over,hn3.bw1⟩ (fun k hk=>?_) hR3.rp
   ·simp only[upd,if_true]
    rw[hcn,wrap_id (by omega) (by omega)]
    simp
   ·have:=hR3.q v k hk;rw[upd_at]at this;exact this
 ·rw[if_neg c1]at ht⊢
  by_cases c2:(nodes v).st j=0
  ·rw[if_pos c2]at ht;cases ht
  ·rw[if_neg c2]at ht⊢
   have hm:connect l∈kS s.q (T.nb v j) v:=by simp only[kS,hq];simp[isCon]
   have hc:=hI.inv.st.cn _ _ _ hm
   have hs:s.se v (T.nb v j)=1:=by
    apply Classical.byContradiction
    intro e
    have h1:=h0.se j hj
    have h2:=hI.inv.st.se3 v (T.nb v j)
    have h3:=hI.inv.st.se2 v (T.nb v j) (by omega)
    exact(hI.inv.st.hf _ _ ⟨hc.1,e⟩).2.2.1 (hI.inv.st.f2 _ _ h3)
   rw[←upd_self nodes v]at hI
   have h1:=x_core (nodes':=upd nodes v ((nodes v).send j (initiate ((nodes v).level+1) ((nodes v).wt j) true))) hI hq hs (sn (adj_lt2 ha).1 (by simp[Nod.send]))
   rw[h0.lev,←h0.wt j hj]at h1
   exact⟨_,_,_,hR1.send hj (fun w e=>by cases e),h1,htk,htg⟩
theorem act_report{G:Gr}{T:Top G}{nodes:Nat→Nod}{P:Nat→Nat→List NMsg}(hsm:G.n<2 ^ 30){K:Nat}(hG:Good G T K nodes P){x j w:Nat}(hj:j<T.dg x){A B:List NMsg}(hP:P (T.nb x j) x=A++report w::B)(hA:inits A=[])(ht:((nodes x).report j w).2=true):
 Good G T K (upd nodes x ((nodes x).report j w).1) (upd2 P (T.nb x j) x (A++B)):=by
 obtain⟨s,g,h,hR,hI,htk,htg⟩:=hG
 have ha:=T.adj x j hj
 obtain⟨C,hq,hR1⟩:=hR.out (G.sym _ _ ha) hP
 rw[←upd_self nodes x]at hR1
 have h0:=hR.nr x
 have hw1:1≤w:=hR.rp _ _ _ (by rw[hq];simp)
 unfold Nod.report at ht⊢
 by_cases c1:(nodes x).inn=some j
 ·rw[if_pos c1]at ht⊢
  have hin:s.inn x=some (T.nb x j):=by rw[h0.inn,c1];rfl
  by_cases c2:(nodes x).state=1
  ·rw[if_pos c2]at ht;cases ht
  ·rw[if_neg c2]at ht⊢
   have hf:s.fnd x=false:=by
    cases e:s.fnd x
    ·rfl
    ·exact(c2 (h0.fnd.1 e)).elim
   by_cases c3:(nodes x).bw<w
   ·rw[if_pos c3]at ht⊢
    have hb:s.bw x<w:=by rw[h0.bw];exact c3
    have hcr:=hI.inv.coreRep hq hA hin hf
    rw[←upd_self nodes x]at hI
    have h1:=x_decide (nodes':=upd nodes x (nodes x)) hI hq hA hin hf hb rfl
    have hL:1≤g.L x:=by
     rcases hcr with hcr|hcr
     ·omega
     ·exact(hI.inv.st.p0 x hcr.2.2.2.2.1).1
    obtain⟨_,s',g',h',b1,b2,b3,b4⟩:=sim_root hR1 h1 (Or.inl rfl) hL
    refine⟨s',g',h',b1,b2,?_,by rw[b4];exact htg⟩
    intro z hz
    rw[b3]at hz
    rcases hz with⟨x1,x2|x2⟩
    ·exact x1 x2
    ·exact htk z x2
   ·rw[if_neg c3]at ht⊢
    by_cases c4:w=1001∧(nodes x).bw=1001
    ·rw[if_pos c4]at ht⊢
     obtain⟨rfl,c5⟩:=c4
     rw[←upd_self nodes x]at hI
     have h1:=x_over (nodes':=upd nodes x { nodes x with over:=true}) hI hq hA hin hf (by rw[h0.bw];exact c5) (sn0 rfl)
     refine⟨_,_,_,?_,h1,htk,htg⟩
     refine hR1.mod (fun z hz=>⟨rfl,rfl,rfl,rfl,rfl,rfl,rfl,rfl,rfl,rfl,by simp[upd,hz],rfl⟩) ⟨h0.aw,h0.lev,h0.nam,h0.fnd,h0.len,h0.se,h0.wt,h0.inn,h0.innl,h0.best,h0.bestl,h0.tst,h0.tstl,h0.bw,h0.cnt,by simp[upd],h0.bw1⟩ (fun k hk=>?_) hR1.rp
     have:=hR1.q x k hk;rw[upd_at]at this;exact this
    ·rw[if_neg c4]at ht⊢
     exact⟨_,_,_,hR1,x_repNo hI hq hA hin hf (by rw[h0.bw];exact c3) (by rw[h0.bw];exact c4) (by rw[upd_self]),htk,htg⟩
 ·rw[if_neg c1]at ht⊢
  have hin:s.inn x≠some (T.nb x j):=fun e=>by
   rw[h0.inn]at e
   cases e2:(nodes x).inn with
   |none=>rw[e2]at e;cases e
   |some k=>
    rw[e2]at e
    simp at e
    have:=T.inj x _ _ (h0.innl k e2) hj e
    subst this
    exact c1 e2
  obtain⟨hf,hc⟩:=hI.inv.repKid hq hA hin
  have hcl:=hI.inv.cnt_le x
  have hR2:Rel G T (upd nodes x { nodes x with count:=wrap64 ((nodes x).count - 1)}) (upd2 P (T.nb x j) x (A++B)) { s with cnt:=upd s.cnt x (s.cnt x - 1),q:=upd2 s.q (T.nb x j) x (A++C)}:=by
   refine hR1.mod (fun z hz=>⟨rfl,rfl,rfl,rfl,rfl,rfl,rfl,rfl,rfl,by simp[upd,hz],rfl,rfl⟩) ⟨h0.aw,h0.lev,h0.nam,h0.fnd,h0.len,h0.se,h0.wt,h0.inn,h0.innl,h0.best,h0.bestl,h0.tst,h0.tstl,h0.bw,?_,h0.over,h0.bw1⟩ (fun k hk=>?_) hR1.rp
   ·simp only[upd,if_true]
    rw[h0.cnt,wrap_id (by omega) (by omega)]
    omega
   ·have:=hR1.q x k hk;rw[upd_at]at this;exact this
  obtain⟨bw',best',hb,hR3⟩:=sim_hear hR2 hj (w:=w) hw1
  rw[←upd_self nodes x]at hI
  have hI2:=x_repC (nodes':=upd nodes x (({ nodes x with count:=wrap64 ((nodes x).count - 1)}:Nod).hear j w)) hI hq hA hin bw' best' hb (sn0 (by unfold Nod.hear;split<;>rfl))
  obtain⟨s',h',a1,a2,a3,a4⟩:=sim_reports hR3 hI2 hf (htg x)
  exact⟨s',g,h',a1,a2,by rw[a3];exact htk,by rw[a4];exact htg⟩
theorem act_root{G:Gr}{T:Top G}{nodes:Nat→Nod}{P:Nat→Nat→List NMsg}{K:Nat}(hG:Good G T K nodes P){x j:Nat}(hj:j<T.dg x){A B:List NMsg}(hP:P (T.nb x j) x=A++root::B):
 (∃b,(nodes x).best=some b)∧Good G T K (upd nodes x (nodes x).changeRoot) (upd2 P (T.nb x j) x (A++B)):=by
 obtain⟨s,g,h,hR,hI,htk,htg⟩:=hG
 have ha:=T.adj x j hj
 obtain⟨C,hq,hR1⟩:=hR.out (G.sym _ _ ha) hP
 rw[←upd_self nodes x]at hR1
 have hm:root∈kX s.q (T.nb x j) x:=by simp only[kX,hq];simp[isRoot]
 have hk:=(hI.inv.bs.k2 _ _ hm).2.2.2.1
 have h1:=x_rootRecv (nodes':=upd nodes x (nodes x)) hI hq (by rw[upd_self])
 have hL:1≤g.L x:=by
  apply Classical.byContradiction
  intro e
  have h9:=(hI.inv.st.db _ _ (hI.inv.st.pr _ _ hk.1)).1
  have:=hI.inv.st.f5 x _ (by omega) h9
  have h8:=T.adj x j hj
  rw[←this]at h8
  exact G.irr _ h8
 obtain⟨b0,s',g',h',b1,b2,b3,b4⟩:=sim_root hR1 h1 (Or.inl rfl) hL
 refine⟨b0,s',g',h',b1,b2,?_,by rw[b4];exact htg⟩
 intro z hz
 rw[b3]at hz
 rcases hz with⟨x1,x2|x2⟩
 ·exact x1 x2
 ·exact htk z x2
end Go.Proofs.YtlfijfodklhplaaGreat.Ghs.V
