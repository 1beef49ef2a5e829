import Derived.Test.YtlfijfodklhplaaGreatTn47
set_option linter.unusedVariables false
set_option linter.unusedSimpArgs false
namespace Go.Proofs.YtlfijfodklhplaaGreat.Ghs.V
open Go.RowKit
open Ghs NMsg
def Small(G:Gr):Prop:=G.n≤8∧1≤G.n∧(∃ms:List (Nat×Nat),(∀u v,G.mst u v∨G.mst v u→(u,v)∈ms)∧ms.length≤14)∧∃es:List (Nat×Nat),(∀u v,G.adj u v→(u,v)∈es)∧es.length≤50
theorem cp_fil(p r:NMsg→Bool)(h:∀m,p m=true→r m=true):∀l:List NMsg,(l.filter r).countP p=l.countP p
 |[]=>rfl
 |m::l=>by
  have ih:=cp_fil p r h l
  cases hr:r m
  ·have:p m=false:=by
    cases hp:p m
    ·rfl
    ·rw[h m hp]at hr;cases hr
   simp[hr,this,ih]
  ·simp[List.filter_cons,hr,List.countP_cons,ih]
theorem tests_few{G:Gr}{s:St}{g:Gh}{h:Gs}(hI:Inv G s g h)(y v:Nat):(s.q y v).countP isTest≤1:=by
 have e:(kT s.q y v).countP isTest=(s.q y v).countP isTest:=cp_fil _ _ (fun m hm=>by simp[hm]) _
 rw[←e]
 by_cases hz:(kT s.q y v).countP isTest=0
 ·omega
 ·obtain⟨m,hm,he⟩:=List.countP_pos_iff.1 (Nat.pos_of_ne_zero hz)
  cases m with
  |test l n=>
   rcases hI.ts.t4 y v l n hm with h1|h1
   ·have:=hI.ts.t7 y v h1.1
    omega
   ·have:=hI.ts.t7 v y h1.1
    rw[if_neg h1.2.1]at this
    omega
  |_=>simp[isTest]at he
theorem off_three{G:Gr}{s:St}{g:Gh}{h:Gs}(hI:Inv G s g h)(y v:Nat)(X Y:List NMsg)(hq:s.q y v=X++Y)(hX:∀m∈X,isCon m=true∨isTest m=true∨isRep m=true):X.length≤3:=by
 have h1:(s.q y v).countP isCon≤1:=by
  rw[←cp_fil isCon (fun m=>isCon m||isIni m) (fun m hm=>by simp[hm])]
  exact hI.st.c1 y v
 have h2:=tests_few hI y v
 have h3:(s.q y v).countP isRep≤1:=by
  rw[←cp_fil isRep (fun m=>isRep m||isIni m) (fun m hm=>by simp[hm])]
  exact hI.rp.r2 v y
 rw[hq,List.countP_append]at h1 h2 h3
 have h4:∀X:List NMsg,(∀m∈X,isCon m=true∨isTest m=true∨isRep m=true)→X.length≤X.countP isCon+X.countP isTest+X.countP isRep:=by
  intro X
  induction X with
  |nil=>intro _;simp
  |cons m l ih=>
   intro hX
   have:=ih (fun x hx=>hX x (by simp[hx]))
   have hm:=hX m (by simp)
   simp only[List.countP_cons,List.length_cons]
   rcases hm with hm|hm|hm
   ·rw[if_pos hm];omega
   ·rw[if_pos hm];omega
   ·rw[if_pos hm];omega
 have:=h4 X hX
 omega
theorem offs_sum(n:Nat):∀(l:List (Nat×NMsg)),(∀c∈l,c.1<n)→S1 n (fun j=>(offFrom l j).length)=l.length
 |[],_=>by
  rw[S1_eq n _ (fun _=>0) (fun j _=>by simp[offFrom]),S1_const];simp
 |c::l,h=>by
  have ih:=offs_sum n l (fun d hd=>h d (by simp[hd]))
  have h1:=S1_one n (fun j=>(offFrom (c::l) j).length) (fun j=>(offFrom l j).length) (h c (by simp)) (fun j _ hj=>by rw[offFrom_cons,if_neg (fun e=>hj e.symm)];rfl)
  have h2:(offFrom (c::l) c.1).length=(offFrom l c.1).length+1:=by rw[offFrom_cons,if_pos rfl];simp
  simp only[List.length_cons]
  omega
theorem Net.offs_few{G:Gr}{T:Top G}{K:Nat}{nodes:Nat→Nod}{chan:Nat→Nat→List NMsg}(h:Net G T K (fun _=>True) nodes chan)(v:Nat):(nodes v).off.length≤3 * T.dg v:=by
 obtain⟨P,⟨⟨s,g,h',hR,hI,htk,htg⟩,hN⟩,hl⟩:=h.good
 rw[←offs_sum (T.dg v) (nodes v).off (fun c hc=>h.rng v c hc)]
 have h1:=S1_le (T.dg v) (fun j=>(offFrom (nodes v).off j).length) (fun _=>3) (fun j hj=>by
  obtain⟨i,hi,ei⟩:=T.sur _ _ (G.sym _ _ (T.adj v j hj))
  have h2:=hR.q (T.nb v j) i hi
  rw[ei,hl v j hj,List.append_assoc]at h2
  refine off_three hI.inv _ _ _ _ h2 (fun m hm=>?_)
  have hmo:=mem_offFrom.1 hm
  have hst:=h.stb v trivial _ hmo
  dsimp only at hst
  cases m with
  |connect l=>exact Or.inl rfl
  |test l n=>exact Or.inr (Or.inl rfl)
  |report w=>exact Or.inr (Or.inr rfl)
  |initiate l n f=>simp[Nod.act]at hst
  |accept=>simp[Nod.act]at hst
  |reject=>simp[Nod.act]at hst
  |root=>simp[Nod.act]at hst)
 rw[S1_const]at h1
 omega
theorem LInv.few{G:Gr}{T:Top G}(hG:Small G){S:LS}{H D:Nat→Nat→List Fr.Msg}(h:LInv G T S H D no2):hsum T H no2≤340:=by
 obtain⟨chan,n1,_⟩:=h.net
 obtain⟨g1,g2,⟨ms,m1,m2⟩,es,e1,e2⟩:=hG
 have:=n1.few g1 g2 ms m1 m2 es e1 e2
 omega
theorem hsum_at{G:Gr}(T:Top G)(H R:Nat→Nat→List Fr.Msg){u j:Nat}(hu:u<G.n)(hj:j<T.dg u):(H u (T.nb u j)).length≤hsum T H R:=by
 have h1:∀(n:Nat) (f:Nat→Nat) (a:Nat),a<n→f a≤S1 n f:=fun n f a ha=>by
  have:=S1_one n f (fun x=>if x=a then 0 else f x) ha (fun u _ hu=>by simp[hu])
  simp at this
  omega
 have h2:=h1 (T.dg u) (fun j=>(H u (T.nb u j)).length+(R u (T.nb u j)).length) j hj
 have h3:=h1 G.n (fun u=>S1 (T.dg u) (fun j=>(H u (T.nb u j)).length+(R u (T.nb u j)).length)) u hu
 unfold hsum
 omega
theorem bd_of{G:Gr}{T:Top G}(hG:Small G)(hdg:∀u,T.dg u≤30){A:AN}(hS:Sf T A)(hq:Qt A){H D:Nat→Nat→List Fr.Msg}(hI:LInv G T (lsOf A) H D no2):Bd A (fun _=>0) 3300:=by
 intro u j s d hs hd
 obtain⟨hj,hd1⟩:=hS.lt hd
 have hu:=G.lt _ _ (T.adj u j hj)
 obtain⟨k,hk,ek⟩:=back T hj
 have h1:=(hI.dir u j k hj hk ek).len
 rw[en_at hd]at h1
 have h2:=hsum_at T H no2 hu hj
 have h3:=hI.few hG
 obtain⟨chan,n1,_⟩:=hI.net
 have h4:=n1.offs_few u
 rw[nodes_at hs]at h4
 have h5:=hdg u
 have h6:=hq u s hs
 unfold mu
 rw[h6]
 simp only[List.length_nil]
 split<;>omega
theorem post_ls{G:Gr}{T:Top G}(hn:G.n≤1000){A:AN}(hS:Sf T A){u:Nat}(hu:u<G.n){s:AS}(hs:A.sps[u]?=some s)(hq:∀(x:Nat) (s:AS),x≠u→A.sps[x]?=some s→s.n.sent=[])(hp:PS s.n){C:Nat}(hB:Bd A (fun _=>0) C)(hC:C<65536){H D:Nat→Nat→List Fr.Msg}(hI:LInv G T (lsOf A) H D no2):
 ∃H',LInv G T (lsOf (A.post u)) H' D no2∧Sf T (A.post u)∧Qt (A.post u)∧(lsOf (A.post u)).nodes=upd (lsOf A).nodes u { s.n with sent:=[]}∧(A.post u).es=A.es:=by
 have e1:=nodes_at hs
 have hW:=hS.well u s hs
 have hS1:=sf_modN hS hs (fun n=>{ n with sent:=[]}) (sentNil_well hW)
 obtain⟨chan,hN,_⟩:=hI.net
 have hlen:=hN.old.elen u
 rw[e1]at hlen
 have hc1:∀c∈s.n.sent,c.1<T.dg u:=fun c hc=>by rw[←hlen];exact hW.ns.sent c hc
 have hl:∀c∈s.n.sent,c.1<T.dg u∧MOk c.2:=fun c hc=>⟨hc1 c hc,mok_fit (hp c hc) (hN.old.fits hn (u:=u) (by rw[e1];exact hc) (hc1 c hc))⟩
 have hB1:Bd (A.modN u (fun n=>{ n with sent:=[]})) (upd (fun _=>0) u s.n.sent.length) (C+0):=bd_modN hB hs (fun n=>{ n with sent:=[]}) (by
  rw[upd_at]
  show (([]:List (Nat×Fr.Msg)).length+32 * s.n.off.length+(if s.n.state=0 then 1 else 0))+_≤s.n.sent.length+32 * s.n.off.length+(if s.n.state=0 then 1 else 0)+_+_
  simp only[List.length_nil]
  omega) (fun x hx=>by rw[upd_ne _ _ hx];exact Nat.le_refl _)
 obtain⟨a1,a2,a3,a4,a5⟩:=sends_ls hC s.n.sent hS1 hl hB1 (by rw[upd_at])
 have eP:A.post u=(A.modN u (fun n=>{ n with sent:=[]})).sends u s.n.sent:=by
  unfold AN.post AN.sentOf;rw[hs]
 rw[←eP]at a1 a2 a3 a4 a5
 rw[ls_modN hs]at a1
 obtain⟨H',b1,b2,b3⟩:=hI.post (u:=u) (S':=lsOf (A.post u)) hu (by rw[e1];exact hc1) (by rw[e1];exact a1)
 refine⟨H',b1,a2,?_,?_,a5⟩
 ·refine qt_eq a4 (fun x s' hs'=>?_)
  rw[sps_modN]at hs'
  obtain⟨s0,h1,h2⟩:=Option.map_eq_some_iff.1 hs'
  by_cases e:u=x
  ·rw[if_pos e]at h2;rw[←h2]
  ·rw[if_neg e]at h2;rw[←h2];exact hq x s0 (fun c=>e c.symm) h1
 ·rw[b3,e1]
structure AI{G:Gr}(T:Top G)(A:AN):Prop where
 sf:Sf T A
 qt:Qt A
 inv:∃H,LInv G T (lsOf A) H no2 no2
theorem AI.wake{G:Gr}{T:Top G}(hG:Small G)(hdg:∀u,T.dg u≤30){A:AN}(hA:AI T A){u:Nat}(hu:u<G.n){s:AS}(hs:A.sps[u]?=some s):AI T (A.wake u)∧(A.wake u).es=A.es∧(lsOf (A.wake u)).nodes=upd (lsOf A).nodes u { s.n.wake with sent:=[]}:=by
 obtain⟨H,hI⟩:=hA.inv
 have hn:G.n≤1000:=by have:=hG.1;omega
 have e1:=nodes_at hs
 have h1:=hI.wake u
 have eA:lsOf (A.modN u Nod.wake)=⟨upd (lsOf A).nodes u s.n.wake,(lsOf A).en,(lsOf A).bag⟩:=ls_modN hs _
 have h2:LInv G T (lsOf (A.modN u Nod.wake)) H no2 no2:=by rw[eA,←e1];exact h1
 have hs2:(A.modN u Nod.wake).sps[u]?=some { s with n:=s.n.wake}:=by rw[sps_modN,hs];simp
 have hS:=sf_modN hA.sf hs Nod.wake (wake_well _ (hA.sf.well u s hs))
 have hB:Bd (A.modN u Nod.wake) (fun _=>0) (3300+0):=bd_modN (bd_of hG hdg hA.sf hA.qt hI) hs Nod.wake (by have:=mu_wake s.n;omega) (fun x _=>Nat.le_refl _)
 obtain⟨H',b1,b2,b4,b5,b6⟩:=post_ls hn hS hu hs2 (fun x s' hx hs'=>by
  rw[sps_modN]at hs'
  obtain⟨s0,h3,h4⟩:=Option.map_eq_some_iff.1 hs'
  rw[if_neg (fun c=>hx c.symm)]at h4
  rw[←h4];exact hA.qt x s0 h3) (ps_wake (qt_ps hA.qt hs)) hB (by omega) h2
 refine⟨⟨b2,b4,H',b1⟩,b6,?_⟩
 show (lsOf ((A.modN u Nod.wake).post u)).nodes=_
 rw[b5,eA]
 dsimp only
 rw[upd_upd]
theorem takes_ls{G:Gr}{T:Top G}(hG:Small G)(hdg:∀u,T.dg u≤30){v k:Nat}(hk:k<T.dg v):∀(l:List Fr.Msg) {A:AN} {H:Nat→Nat→List Fr.Msg},Sf T A→Qt A→LInv G T (lsOf A) H (upd2 no2 (T.nb v k) v l) no2→(∀m∈l,MOk m)→
 AI T (A.takes v k l)∧(A.takes v k l).es=A.es
 |[],A,H,hS,hq,hI,hm=>by
  refine⟨⟨hS,hq,H,hI.Dcongr (fun x j hj=>?_)⟩,rfl⟩
  simp only[upd2,no2];split<;>rfl
 |m::l,A,H,hS,hq,hI,hm=>by
  have hn:G.n≤1000:=by have:=hG.1;omega
  have p30:(1000:Nat)<2 ^ 30:=by decide
  have hv:=G.lt _ _ (T.adj v k hk)
  obtain⟨d,s,hd,hd1,hs⟩:=hS.at hk
  have e1:=nodes_at hs
  have hBd:=bd_of hG hdg hS hq hI
  have hb:=hBd v k s d hs hd
  have hW:=hS.well v s hs
  obtain⟨chan,hN,_⟩:=hI.net
  have hlen:=hN.old.elen v
  rw[e1]at hlen
  have hmk:=hm m (by simp)
  have hoff:s.n.off.length<5000:=by unfold mu at hb;omega
  obtain⟨w1,w2,w3,w4⟩:=take_well s.n k m hW (by rw[hlen];exact hk) (mok_may hmk) (by omega)
  have h1:=hI.take (by omega) (fun u=>by have:=hdg u;omega) hk (m:=m) (r:=l) (by simp[upd2])
  have eD:upd2 (upd2 no2 (T.nb v k) v (m::l)) (T.nb v k) v l=upd2 no2 (T.nb v k) v l:=by
   funext x y;simp only[upd2];split<;>rfl
  rw[eD]at h1
  have eA:lsOf (A.modN v (fun n=>n.take k m))=⟨upd (lsOf A).nodes v (s.n.take k m),(lsOf A).en,(lsOf A).bag⟩:=ls_modN hs _
  have h2:LInv G T (lsOf (A.modN v (fun n=>n.take k m))) H (upd2 no2 (T.nb v k) v l) no2:=by rw[eA,←e1];exact h1
  have hs2:(A.modN v (fun n=>n.take k m)).sps[v]?=some { s with n:=s.n.take k m}:=by rw[sps_modN,hs];simp
  have hS2:=sf_modN hS hs (fun n=>n.take k m) w1
  have hB2:Bd (A.modN v (fun n=>n.take k m)) (fun _=>0) (3300+32):=bd_modN hBd hs (fun n=>n.take k m) (by
   have:=mu_take hW.good (by rw[hlen];exact hdg v) (by rw[hlen];exact hk) (mok_may hmk)
   omega) (fun x _=>Nat.le_refl _)
  obtain⟨H',b1,b2,b4,b5,b6⟩:=post_ls hn hS2 hv hs2 (fun x s' hx hs'=>by
   rw[sps_modN]at hs'
   obtain⟨s0,h3,h4⟩:=Option.map_eq_some_iff.1 hs'
   rw[if_neg (fun c=>hx c.symm)]at h4
   rw[←h4];exact hq x s0 h3) (ps_take (qt_ps hq hs) k m) hB2 (by omega) h2
  obtain⟨c1,c3⟩:=takes_ls hG hdg hk l (A:=A.takeOne v k m) b2 b4 b1 (fun x hx=>hm x (by simp[hx]))
  exact⟨c1,c3.trans b6⟩
noncomputable def wt(x:AP):Nat:=match frmOf x.l with
 |some f=>if f.data=true then 2 else 1
 |none=>1
theorem wt_in(x:AP):1≤wt x∧wt x≤2:=by
 unfold wt
 split
 ·split<;>omega
 ·omega
noncomputable def W(l:List AP):Nat:=(l.map wt).sum
theorem W_app(l m:List AP):W (l++m)=W l+W m:=by simp[W]
theorem W_le(l:List AP):W l≤2 * l.length:=by
 induction l with
 |nil=>simp[W]
 |cons x l ih=>have:=(wt_in x).2;simp[W]at ih⊢;omega
noncomputable def Om{G:Gr}(T:Top G)(S:LS):Nat:=S1 G.n (fun u=>S1 (T.dg u) (fun j=>(S.en u j).first+(S.en u j).shown))
noncomputable def Fi{G:Gr}(T:Top G)(S:LS):Nat:=S1 G.n (fun u=>S1 (T.dg u) (fun j=>(S.en u j).first))
theorem S11_one{G:Gr}{T:Top G}(f g:Nat→Nat→Nat){a b:Nat}(ha:a<G.n)(hb:b<T.dg a)(h:∀u v,¬(u=a∧v=b)→f u v=g u v):S1 G.n (fun u=>S1 (T.dg u) (f u))+g a b=S1 G.n (fun u=>S1 (T.dg u) (g u))+f a b:=by
 have h1:S1 (T.dg a) (f a)+g a b=S1 (T.dg a) (g a)+f a b:=S1_one _ (f a) (g a) hb (fun v _ hv=>h a v (fun x=>hv x.2))
 have h2:=S1_one G.n (fun u=>S1 (T.dg u) (f u)) (fun u=>S1 (T.dg u) (g u)) ha (fun u _ hu=>S1_eq _ _ _ (fun v _=>h u v (fun x=>hu x.1)))
 omega
theorem Om_upd{G:Gr}{T:Top G}{S S':LS}{u j:Nat}{e:En}(hu:u<G.n)(hj:j<T.dg u)(h:S'.en=upd2 S.en u j e):Om T S'+((S.en u j).first+(S.en u j).shown)=Om T S+(e.first+e.shown):=by
 have:=S11_one (T:=T) (fun u j=>(S'.en u j).first+(S'.en u j).shown) (fun u j=>(S.en u j).first+(S.en u j).shown) hu hj (fun a b hn=>by rw[h];simp only[upd2,if_neg hn])
 unfold Om
 rw[h]at this⊢
 simp only[upd2,and_self,if_true]at this⊢
 exact this
structure Grow{G:Gr}(T:Top G)(A A':AN):Prop where
 pre:∃ext,A'.bag=A.bag++ext
 fst:∀u j,((lsOf A').en u j).first=((lsOf A).en u j).first
 pot:W A'.bag+2 * Om T (lsOf A)≤W A.bag+2 * Om T (lsOf A')
 b3:A.bag.length≤300→A'.bag.length≤300
theorem Grow.refl{G:Gr}(T:Top G)(A:AN):Grow T A A:=⟨⟨[],by simp⟩,fun _ _=>rfl,Nat.le_refl _,id⟩
theorem Grow.trans{G:Gr}{T:Top G}{A B C:AN}(h:Grow T A B)(k:Grow T B C):Grow T A C:=by
 obtain⟨x,hx⟩:=h.pre
 obtain⟨y,hy⟩:=k.pre
 exact⟨⟨x++y,by rw[hy,hx,List.append_assoc]⟩,fun u j=>(k.fst u j).trans (h.fst u j),by have:=h.pot;have:=k.pot;omega,fun e=>k.b3 (h.b3 e)⟩
theorem adds_ext(i t:Nat):∀(l:List Fr.Frm) (A:AN),∃ext,(A.adds i t l).bag=A.bag++ext∧W ext≤W (l.map (fun f=>⟨i,t,Fr.enc f,false⟩))∧(A.bag.length≤300→(A.adds i t l).bag.length≤300)∧(∀f l',l=f::l'→A.bag.length<300→(⟨i,t,Fr.enc f,false⟩:AP)∈ext)
 |[],A=>⟨[],by simp[AN.adds],by simp[W],fun h=>h,(fun f l' e=>by cases e)⟩
 |f::l,A=>by
  obtain⟨ext,e1,e2,e3,e4⟩:=adds_ext i t l (A.add ⟨i,t,Fr.enc f,false⟩)
  by_cases c:A.bag.length<300
  ·have ea:(A.add ⟨i,t,Fr.enc f,false⟩).bag=A.bag++[⟨i,t,Fr.enc f,false⟩]:=by unfold AN.add;rw[if_pos c]
   rw[ea]at e1 e3
   refine⟨⟨i,t,Fr.enc f,false⟩::ext,?_,?_,fun h=>e3 (by simp;omega),fun f' l' e _=>?_⟩
   ·show (AN.adds (A.add ⟨i,t,Fr.enc f,false⟩) i t l).bag=_
    rw[e1];simp
   ·simp only[W,List.map_cons,List.sum_cons]at e2⊢;omega
   ·cases e;simp
  ·have ea:A.add ⟨i,t,Fr.enc f,false⟩=A:=by unfold AN.add;rw[if_neg c]
   rw[ea]at e1 e3
   refine⟨ext,?_,?_,fun h=>?_,fun f' l' e h=>(c h).elim⟩
   ·show (AN.adds (A.add ⟨i,t,Fr.enc f,false⟩) i t l).bag=_
    rw[ea];exact e1
   ·simp only[W,List.map_cons,List.sum_cons]at e2⊢;omega
   ·show (AN.adds (A.add ⟨i,t,Fr.enc f,false⟩) i t l).bag.length≤300
    rw[ea];exact e3 h
theorem carry_ext{A:AN}{u j:Nat}{d:Nat×En}(hd:A.side u j=some d)(f:En→En):∃ext,((A.modE u j f).carry u j).bag=A.bag++ext∧W ext≤W ((f d.2).out.map (fun g=>⟨u,d.1,Fr.enc g,false⟩))∧(A.bag.length≤300→((A.modE u j f).carry u j).bag.length≤300)∧(∀g l',(f d.2).out=g::l'→A.bag.length<300→(⟨u,d.1,Fr.enc g,false⟩:AP)∈ext):=by
 rw[carry_eq hd f]
 exact adds_ext u d.1 (f d.2).out (A.modE u j (fun e=>(f e).outs))
theorem W_two(u t:Nat)(l:List Fr.Frm):W (l.map (fun g=>⟨u,t,Fr.enc g,false⟩))≤2 * l.length:=by
 have:=W_le (l.map (fun g=>(⟨u,t,Fr.enc g,false⟩:AP)))
 rw[List.length_map]at this
 exact this
theorem frames_len(n:Nat)(l:List Fr.Msg):(En.frames n l).length=l.length:=by
 induction l generalizing n with
 |nil=>rfl
 |cons m r ih=>simp[En.frames,ih]
theorem show_len(e:En)(k:Nat)(h0:e.out=[]):(e.showFrom k).out.length=e.shown - k:=by
 unfold En.showFrom En.shown
 simp only[h0,List.nil_append,frames_len,List.length_drop,List.length_take]
 rw[Nat.min_comm]
theorem grow_modN{G:Gr}(T:Top G)(A:AN)(u:Nat)(f:Nod→Nod):Grow T A (A.modN u f):=by
 have h1:(lsOf (A.modN u f)).en=(lsOf A).en:=by
  unfold lsOf
  funext x y
  dsimp only
  rw[sides_modN]
 refine⟨⟨[],by simp[AN.modN]⟩,fun u j=>by rw[h1],?_,fun e=>e⟩
 unfold Om
 rw[h1]
 exact Nat.le_refl _
theorem grow_sendOne{G:Gr}{T:Top G}{A:AN}(hS:Sf T A){u:Nat}{c:Nat×Fr.Msg}(hc:c.1<T.dg u)(hm:MOk c.2){r:Nat→Nat}{C k:Nat}(hB:Bd A r C)(hr:r u=k+1)(hC:C<65536):Grow T A (A.sendOne u c):=by
 obtain⟨d,s,hd,hd1,hs⟩:=hS.at hc
 have hb:=hB u c.1 s d hs hd
 have hf:d.2.try c.2=d.2.send c.2:=by
  unfold En.try
  rw[if_pos ⟨hm,by omega⟩]
 obtain⟨o1,o2⟩:=send_ok (hS.out u c.1 d hd) (hS.wait u c.1 d hd) hm (by omega)
 obtain⟨bag',b1,b2,b3,b4,b5,b6⟩:=carry_ls hS hd (fun e=>e.try c.2) (by rw[hf];exact o1) (by rw[hf];exact hS.kept u c.1 d hd) (by rw[hf];exact o2)
 rw[hf]at b1
 obtain⟨ext,x1,x2,x3,x4⟩:=carry_ext hd (fun e=>e.try c.2)
 rw[hf]at x2
 have e1:=en_at hd
 have hen:(lsOf (A.sendOne u c)).en=upd2 (lsOf A).en u c.1 (d.2.send c.2).outs:=by
  show (lsOf ((A.modE u c.1 (fun e=>e.try c.2)).carry u c.1)).en=_
  rw[b1]
 refine⟨⟨ext,x1⟩,fun a b=>?_,?_,x3⟩
 ·rw[hen]
  simp only[upd2]
  split
  ·rename_i e;rw[e.1,e.2,e1];rfl
  ·rfl
 ·have h1:=Om_upd (T:=T) (S:=lsOf A) (G.lt _ _ (T.adj u c.1 hc)) hc hen
  rw[e1]at h1
  have h2:(d.2.send c.2).out.length=(d.2.put c.2).shown - d.2.shown:=show_len (d.2.put c.2) d.2.shown (hS.out u c.1 d hd)
  have h3:(d.2.send c.2).outs.first=d.2.first:=rfl
  have h4:(d.2.send c.2).outs.shown=(d.2.put c.2).shown:=rfl
  have h5:d.2.shown≤(d.2.put c.2).shown:=by unfold En.shown En.put;simp;omega
  have h6:=W_two u d.1 (d.2.send c.2).out
  have h7:W (A.sendOne u c).bag=W A.bag+W ext:=by
   show W ((A.modE u c.1 (fun e=>e.try c.2)).carry u c.1).bag=_
   rw[x1,W_app]
  rw[h7]
  omega
theorem grow_sends{G:Gr}{T:Top G}{u C:Nat}(hC:C<65536):∀(l:List (Nat×Fr.Msg)) {A:AN} {r:Nat→Nat},Sf T A→(∀c∈l,c.1<T.dg u∧MOk c.2)→Bd A r C→r u=l.length→Grow T A (A.sends u l)
 |[],A,r,hS,hl,hB,hr=>Grow.refl T A
 |c::l,A,r,hS,hl,hB,hr=>by
  have hc:=hl c (by simp)
  obtain⟨a1,a2,a3,a4,a5⟩:=sendOne_ls hS hc.1 hc.2 hB (k:=l.length) (by simpa using hr) hC
  exact(grow_sendOne hS hc.1 hc.2 hB (k:=l.length) (by simpa using hr) hC).trans (grow_sends hC l a2 (fun d hd=>hl d (by simp[hd])) a3 (by rw[upd_at]))
theorem post_gr{G:Gr}{T:Top G}(hn:G.n≤1000){A:AN}(hS:Sf T A){u:Nat}{s:AS}(hs:A.sps[u]?=some s)(hp:PS s.n){C:Nat}(hB:Bd A (fun _=>0) C)(hC:C<65536){H D:Nat→Nat→List Fr.Msg}(hI:LInv G T (lsOf A) H D no2):Grow T A (A.post u):=by
 have e1:=nodes_at hs
 have hW:=hS.well u s hs
 have hS1:=sf_modN hS hs (fun n=>{ n with sent:=[]}) (sentNil_well hW)
 obtain⟨chan,hN,_⟩:=hI.net
 have hlen:=hN.old.elen u
 rw[e1]at hlen
 have hc1:∀c∈s.n.sent,c.1<T.dg u:=fun c hc=>by rw[←hlen];exact hW.ns.sent c hc
 have hl:∀c∈s.n.sent,c.1<T.dg u∧MOk c.2:=fun c hc=>⟨hc1 c hc,mok_fit (hp c hc) (hN.old.fits hn (u:=u) (by rw[e1];exact hc) (hc1 c hc))⟩
 have hB1:Bd (A.modN u (fun n=>{ n with sent:=[]})) (upd (fun _=>0) u s.n.sent.length) (C+0):=bd_modN hB hs (fun n=>{ n with sent:=[]}) (by
  rw[upd_at]
  show (([]:List (Nat×Fr.Msg)).length+32 * s.n.off.length+(if s.n.state=0 then 1 else 0))+_≤s.n.sent.length+32 * s.n.off.length+(if s.n.state=0 then 1 else 0)+_+_
  simp only[List.length_nil]
  omega) (fun x hx=>by rw[upd_ne _ _ hx];exact Nat.le_refl _)
 have eP:A.post u=(A.modN u (fun n=>{ n with sent:=[]})).sends u s.n.sent:=by
  unfold AN.post AN.sentOf;rw[hs]
 rw[eP]
 exact(grow_modN T A u _).trans (grow_sends hC s.n.sent hS1 hl hB1 (by rw[upd_at]))
theorem takes_gr{G:Gr}{T:Top G}(hG:Small G)(hdg:∀u,T.dg u≤30){v k:Nat}(hk:k<T.dg v):∀(l:List Fr.Msg) {A:AN} {H:Nat→Nat→List Fr.Msg},Sf T A→Qt A→LInv G T (lsOf A) H (upd2 no2 (T.nb v k) v l) no2→(∀m∈l,MOk m)→Grow T A (A.takes v k l)
 |[],A,H,hS,hq,hI,hm=>Grow.refl T A
 |m::l,A,H,hS,hq,hI,hm=>by
  have hn:G.n≤1000:=by have:=hG.1;omega
  have p30:(1000:Nat)<2 ^ 30:=by decide
  have hv:=G.lt _ _ (T.adj v k hk)
  obtain⟨d,s,hd,hd1,hs⟩:=hS.at hk
  have e1:=nodes_at hs
  have hBd:=bd_of hG hdg hS hq hI
  have hb:=hBd v k s d hs hd
  have hW:=hS.well v s hs
  obtain⟨chan,hN,_⟩:=hI.net
  have hlen:=hN.old.elen v
  rw[e1]at hlen
  have hmk:=hm m (by simp)
  have hoff:s.n.off.length<5000:=by unfold mu at hb;omega
  obtain⟨w1,w2,w3,w4⟩:=take_well s.n k m hW (by rw[hlen];exact hk) (mok_may hmk) (by omega)
  have h1:=hI.take (by omega) (fun u=>by have:=hdg u;omega) hk (m:=m) (r:=l) (by simp[upd2])
  have eD:upd2 (upd2 no2 (T.nb v k) v (m::l)) (T.nb v k) v l=upd2 no2 (T.nb v k) v l:=by
   funext x y;simp only[upd2];split<;>rfl
  rw[eD]at h1
  have eA:lsOf (A.modN v (fun n=>n.take k m))=⟨upd (lsOf A).nodes v (s.n.take k m),(lsOf A).en,(lsOf A).bag⟩:=ls_modN hs _
  have h2:LInv G T (lsOf (A.modN v (fun n=>n.take k m))) H (upd2 no2 (T.nb v k) v l) no2:=by rw[eA,←e1];exact h1
  have hs2:(A.modN v (fun n=>n.take k m)).sps[v]?=some { s with n:=s.n.take k m}:=by rw[sps_modN,hs];simp
  have hS2:=sf_modN hS hs (fun n=>n.take k m) w1
  have hB2:Bd (A.modN v (fun n=>n.take k m)) (fun _=>0) (3300+32):=bd_modN hBd hs (fun n=>n.take k m) (by
   have:=mu_take hW.good (by rw[hlen];exact hdg v) (by rw[hlen];exact hk) (mok_may hmk)
   omega) (fun x _=>Nat.le_refl _)
  obtain⟨H',b1,b2,b4,b5,b6⟩:=post_ls hn hS2 hv hs2 (fun x s' hx hs'=>by
   rw[sps_modN]at hs'
   obtain⟨s0,h3,h4⟩:=Option.map_eq_some_iff.1 hs'
   rw[if_neg (fun c=>hx c.symm)]at h4
   rw[←h4];exact hq x s0 h3) (ps_take (qt_ps hq hs) k m) hB2 (by omega) h2
  have g1:Grow T A (A.takeOne v k m):=(grow_modN T A v _).trans (post_gr hn hS2 hs2 (ps_take (qt_ps hq hs) k m) hB2 (by omega) h2)
  exact g1.trans (takes_gr hG hdg hk l (A:=A.takeOne v k m) b2 b4 b1 (fun x hx=>hm x (by simp[hx])))
structure Dlv{G:Gr}(T:Top G)(A:AN)(x:AP)(r:List AP)(A':AN):Prop where
 ai:AI T A'
 es:A'.es=A.es
 b3:A'.bag.length≤300
 pre:∃ext,A'.bag=r++ext
 fst:∀u j,((lsOf A).en u j).first≤((lsOf A').en u j).first
 pot:W A'.bag+2 * Om T (lsOf A)+1≤W A.bag+2 * Om T (lsOf A')
 dat:∀f j,frmOf x.l=some f→f.data=true→j<T.dg x.f→T.nb x.f j=x.t→((lsOf A).en x.f j).first=f.seq→∃y∈A'.bag,y.f=x.t∧y.t=x.f∧∃g,frmOf y.l=some g∧g.data=false∧f.seq<g.seq
 ans:∀f j,frmOf x.l=some f→f.data=false→j<T.dg x.t→T.nb x.t j=x.f→f.seq≤((lsOf A').en x.t j).first
theorem ack_fs{e:En}(h0:e.out=[])(n:Nat):(e.ack n).first+(e.ack n).shown=e.first+e.shown+(e.ack n).out.length∧e.first≤(e.ack n).first∧(n≤e.first+e.shown→n≤(e.ack n).first):=by
 unfold En.ack
 split
 ·rename_i h
  have hs:=(shown_le e).1
  have h1:=show_len (e.drop (n - e.first)) (e.shown - (n - e.first)) h0
  have h2:((e.drop (n - e.first)).showFrom (e.shown - (n - e.first))).first=n:=by show e.first+(n - e.first)=n;omega
  have h3:((e.drop (n - e.first)).showFrom (e.shown - (n - e.first))).shown=(e.drop (n - e.first)).shown:=rfl
  have h4:e.shown - (n - e.first)≤(e.drop (n - e.first)).shown:=by
   unfold En.shown En.drop
   simp only[List.length_drop]
   unfold En.shown at h
   omega
  rw[h1,h2,h3]
  omega
 ·rename_i h
  rw[h0]
  simp
  omega
theorem came_await{e:En}(h4:e.kept.length=4)(n:Nat)(m:Fr.Msg)(h:n≤e.await):n<(e.came n m).await:=by
 have h1:(e.came n m).await=(e.keep n m).await+(En.ready (e.keep n m).kept).length:=by
  unfold En.came En.answer
  split<;>rfl
 have h2:(e.keep n m).await=e.await:=by
  unfold En.keep
  split
  ·split<;>rfl
  ·rfl
 rw[h1,h2]
 by_cases c:n=e.await
 ·subst c
  have h3:1≤(En.ready (e.keep e.await m).kept).length:=by
   unfold En.keep
   rw[if_pos (Nat.le_refl _),Nat.sub_self]
   cases hk:e.kept with
   |nil=>rw[hk]at h4;cases h4
   |cons a t=>
    cases a with
    |none=>simp[En.ready]
    |some y=>simp[hk,En.ready]
  omega
 ·omega
theorem deliver_all{G:Gr}{T:Top G}(hG:Small G)(hdg:∀u,T.dg u≤30){A:AN}(hA:AI T A)(hb3:A.bag.length≤300){x:AP}{r:List AP}(hx:A.bag=x::r):Dlv T A x r (A.deliver 0):=by
 obtain⟨H,hI⟩:=hA.inv
 have hbd:=bd_of hG hdg hA.sf hA.qt hI
 have e0:A.deliver 0=(A.lose 0).comes x:=by unfold AN.deliver;rw[hx];rfl
 rw[e0]
 have el:(A.lose 0).bag=r:=by unfold AN.lose;rw[hx];rfl
 have hm:x∈A.bag:=by rw[hx];simp
 have hWx:W A.bag=wt x+W r:=by rw[hx];simp[W]
 have hw1:=wt_in x
 have hr3:r.length<300:=by rw[hx]at hb3;simp at hb3;omega
 obtain⟨x1,x2,x3⟩:=hA.sf.bg x hm
 obtain⟨j,hj,ej⟩:=T.sur _ _ x3
 obtain⟨i,hi,ei⟩:=T.sur _ _ (G.sym _ _ x3)
 have hS1:Sf T (A.lose 0):=⟨hA.sf.shp,fun y hy=>hA.sf.bg y (List.mem_of_mem_eraseIdx hy),hA.sf.kept,hA.sf.wait,hA.sf.out,hA.sf.well⟩
 have hq1:Qt (A.lose 0):=hA.qt
 have et:(A.lose 0).toEdge x.t x.f=j:=by rw[←ej];exact toEdge_eq hS1 hj
 obtain⟨d,s,hd,hd1,hs⟩:=hS1.at hj
 have hd0:A.side x.t j=some d:=hd
 have hb:=hbd x.t j s d hs hd0
 have e1:=en_at hd0
 have e1':=en_at hd
 have ho:=hS1.out x.t j d hd
 have hw:=hS1.wait x.t j d hd
 have hk:=hS1.kept x.t j d hd
 have hut:=G.lt _ _ (T.adj x.t j hj)
 have hsub:∀p,p∈(lsOf (A.lose 0)).bag→p∈(lsOf A).bag:=fun p hp=>by
  obtain⟨y,hy,e⟩:=List.mem_map.1 hp
  exact List.mem_map.2 ⟨y,List.mem_of_mem_eraseIdx hy,e⟩
 have hen0:(lsOf (A.lose 0)).en=(lsOf A).en:=rfl
 have hD:=hI.dir x.t j i hj (by rw[ej];exact hi) (by rw[ej];exact ei)
 have hD2:=hI.dir x.f i j hi (by rw[ei];exact hj) (by rw[ei];exact ej)
 rw[ej]at hD
 rw[ei]at hD2
 rw[e1]at hD hD2
 unfold AN.comes AN.tldOf
 dsimp only
 rw[et,hd]
 dsimp only
 cases hf:frmOf x.l with
 |none=>
  obtain⟨bag',b1,b2,b3,b4,b5,b6⟩:=carry_ls hS1 hd (fun e=>e.inn none) (fun g hg=>by rw[show (d.2.inn none)=d.2 from rfl,ho]at hg;cases hg) hk hw
  obtain⟨ext,y1,y2,y3,y4⟩:=carry_ext hd (fun e=>e.inn none)
  rw[show (d.2.inn none)=d.2 from rfl,ho]at y2
  rw[el]at y1 y3
  have e2:upd2 (lsOf (A.lose 0)).en x.t j (d.2.inn none).outs=(lsOf A).en:=by
   funext a b
   simp only[upd2]
   split
   ·rename_i c
    rw[c.1,c.2,e1]
    show (⟨d.2.first,d.2.wait,d.2.await,d.2.kept,[]⟩:En)=d.2
    rw[←ho]
   ·rfl
  have hen:(lsOf (((A.lose 0).modE x.t j (fun e=>e.inn none)).carry x.t j)).en=(lsOf A).en:=by rw[b1];exact e2
  have hWe:W ext=0:=by simp[W]at y2⊢;exact y2
  have hOm:Om T (lsOf (((A.lose 0).modE x.t j (fun e=>e.inn none)).carry x.t j))=Om T (lsOf A):=by unfold Om;rw[hen]
  refine⟨⟨b3,qt_eq b5 hq1,H,?_⟩,b6,y3 (by omega),⟨ext,y1⟩,fun u j=>?_,?_,(fun f j h=>by rw[hf]at h;cases h),(fun f j h=>by rw[hf]at h;cases h)⟩
  ·show LInv G T (lsOf (((A.lose 0).modE x.t j (fun e=>e.inn none)).carry x.t j)) H no2 no2
   rw[b1,e2]
   refine hI.less bag' (fun u v f hf2=>?_)
   rcases b2 u v f hf2 with h|h
   ·exact hsub _ h
   ·have h3:=h.2.2
    rw[show (d.2.inn none)=d.2 from rfl,ho]at h3;cases h3
  ·show _≤((lsOf (((A.lose 0).modE x.t _ (fun e=>e.inn none)).carry x.t _)).en u j).first
   rw[hen];exact Nat.le_refl _
  ·show W (((A.lose 0).modE x.t j (fun e=>e.inn none)).carry x.t j).bag+_+1≤_+2 * Om T (lsOf (((A.lose 0).modE x.t j (fun e=>e.inn none)).carry x.t j))
   rw[hOm,y1,W_app,hWe,hWx]
   omega
 |some f=>
  have hfr:FrOk f:=by
   cases hsp:x.sp with
   |true=>rw[x2 hsp]at hf;cases hf
   |false=>
    obtain⟨g,g1,g2⟩:=x1 hsp
    rw[g2,frmOf_enc g1]at hf;cases hf;exact g1
  obtain⟨k1,k2⟩:=kok_inn hk (q:=some f) (fun g hg=>by cases hg;exact hfr)
  have hin:(T.nb x.t j,x.t,some f)∈(lsOf A).bag:=by
   rw[ej];exact List.mem_map.2 ⟨x,hm,by rw[hf]⟩
  have hin2:(x.f,x.t,some f)∈(lsOf A).bag:=List.mem_map.2 ⟨x,hm,by rw[hf]⟩
  cases hfd:f.data with
  |false=>
   have ei2:d.2.inn (some f)=d.2.ack f.seq:=by show (if f.data then _ else _)=_;rw[hfd];rfl
   have el2:d.2.tld (some f)=[]:=by show (if f.data then _ else _)=_;rw[hfd];rfl
   obtain⟨o1,o2,o3⟩:=ack_ok ho hw (by omega) f.seq
   obtain⟨p1,p2,p3⟩:=ack_fs ho f.seq
   rw[el2]
   obtain⟨bag',b1,b2,b3,b4,b5,b6⟩:=carry_ls hS1 hd (fun e=>e.inn (some f)) (by rw[ei2];exact o1) k1 (by rw[ei2];exact o2)
   obtain⟨ext,y1,y2,y3,y4⟩:=carry_ext hd (fun e=>e.inn (some f))
   rw[ei2]at b1 b2 y2
   rw[el]at y1 y3
   have hen:(lsOf (((A.lose 0).modE x.t j (fun e=>e.inn (some f))).carry x.t j)).en=upd2 (lsOf A).en x.t j (d.2.ack f.seq).outs:=by rw[b1];rfl
   have hOm:=Om_upd (T:=T) (S:=lsOf A) hut hj hen
   rw[e1]at hOm
   have q1:(d.2.ack f.seq).outs.first=(d.2.ack f.seq).first:=rfl
   have q2:(d.2.ack f.seq).outs.shown=(d.2.ack f.seq).shown:=rfl
   have hWe:=W_two x.t d.1 (d.2.ack f.seq).out
   have hwx:wt x=1:=by unfold wt;rw[hf];simp[hfd]
   refine⟨⟨b3,qt_eq b5 hq1,H,?_⟩,b6,y3 (by omega),⟨ext,y1⟩,fun u' j'=>?_,?_,(fun f' j' h1 h2=>by rw[hf]at h1;cases h1;rw[hfd]at h2;cases h2),fun f' j' h1 h2 h3 h4=>?_⟩
   ·show LInv G T (lsOf (((A.lose 0).modE x.t j (fun e=>e.inn (some f))).carry x.t j)) H no2 no2
    rw[b1]
    have:=hI.ack hj hin hfd bag' (fun a b g hg=>by
     rw[e1]
     exact(b2 a b g hg).imp_left (hsub _))
    rw[e1]at this
    exact this
   ·show _≤((lsOf (((A.lose 0).modE x.t j (fun e=>e.inn (some f))).carry x.t j)).en u' j').first
    rw[hen]
    simp only[upd2]
    split
    ·rename_i c;rw[c.1,c.2,e1,q1];exact p2
    ·exact Nat.le_refl _
   ·show W (((A.lose 0).modE x.t j (fun e=>e.inn (some f))).carry x.t j).bag+_+1≤_+2 * Om T (lsOf (((A.lose 0).modE x.t j (fun e=>e.inn (some f))).carry x.t j))
    rw[y1,W_app,hWx,hwx]
    omega
   ·rw[hf]at h1
    cases h1
    have hjj:j'=j:=T.inj x.t _ _ h3 hj (h4.trans ej.symm)
    subst hjj
    show _≤((lsOf (((A.lose 0).modE x.t j' (fun e=>e.inn (some f))).carry x.t j')).en x.t j').first
    rw[hen]
    simp only[upd2,and_self,if_true]
    rw[q1]
    refine p3 ?_
    have h5:=hD.acks f hin2 hfd
    have h6:=hD.hi
    omega
  |true=>
   have ei2:d.2.inn (some f)=d.2.came f.seq f.m:=by show (if f.data then _ else _)=_;rw[hfd];rfl
   have el2:d.2.tld (some f)=d.2.told f.seq f.m:=by show (if f.data then _ else _)=_;rw[hfd];rfl
   obtain⟨o1,o2,o3⟩:=came_ok ho f.seq f.m
   obtain⟨bag',b1,b2,b3,b4,b5,b6⟩:=carry_ls hS1 hd (fun e=>e.inn (some f)) (by rw[ei2];exact o1) k1 (by rw[ei2,o2];exact hw)
   obtain⟨ext,y1,y2,y3,y4⟩:=carry_ext hd (fun e=>e.inn (some f))
   rw[ei2]at b1 b2 y2 y4
   rw[el]at y1 y3 y4
   have h1:=hI.came hj hin hfd bag' (fun a b g hg=>by
    rw[e1]
    exact(b2 a b g hg).imp_left (hsub _))
   rw[e1]at h1
   have h2:LInv G T (lsOf (((A.lose 0).modE x.t j (fun e=>e.inn (some f))).carry x.t j)) H (upd2 no2 (T.nb x.t j) x.t (d.2.told f.seq f.m)) no2:=by
    rw[b1];exact h1
   have hen:(lsOf (((A.lose 0).modE x.t j (fun e=>e.inn (some f))).carry x.t j)).en=upd2 (lsOf A).en x.t j (d.2.came f.seq f.m).outs:=by rw[b1];rfl
   have hOm:=Om_upd (T:=T) (S:=lsOf A) hut hj hen
   rw[e1]at hOm
   have q1:(d.2.came f.seq f.m).outs.first=d.2.first:=o3
   have q2:(d.2.came f.seq f.m).outs.shown=d.2.shown:=by show min (d.2.came f.seq f.m).wait.length 4=_;rw[o2];rfl
   have hwx:wt x=2:=by unfold wt;rw[hf];simp[hfd]
   obtain⟨kk1,kk2,kk3⟩:=keep_same d.2 f.seq f.m
   have hout:(d.2.came f.seq f.m).out=if (d.2.came f.seq f.m).await<65536 then [⟨false,(d.2.came f.seq f.m).await,Fr.none0⟩]else []:=by
    have ha:(d.2.came f.seq f.m).await=(d.2.keep f.seq f.m).take.await:=by unfold En.came En.answer;split<;>rfl
    rw[ha]
    unfold En.came En.answer
    split
    ·show (d.2.keep f.seq f.m).out++_=_
     rw[kk1,ho];rfl
    ·show (d.2.keep f.seq f.m).out=_
     rw[kk1,ho]
   have hWe:W ext≤1:=by
    rw[hout]at y2
    split at y2
    ·rename_i hlt
     have:wt (⟨x.t,d.1,Fr.enc ⟨false,(d.2.came f.seq f.m).await,Fr.none0⟩,false⟩:AP)=1:=by
      unfold wt;dsimp only;rw[frmOf_enc (frok_ans hlt)];rfl
     simp[W,this]at y2⊢
     omega
    ·simp[W]at y2⊢
     omega
   have tg:=takes_gr hG hdg hj (d.2.tld (some f)) (A:=((A.lose 0).modE x.t j (fun e=>e.inn (some f))).carry x.t j) b3 (qt_eq b5 hq1) (by rw[el2];exact h2) k2
   obtain⟨c1,c3⟩:=takes_ls hG hdg hj (d.2.tld (some f)) (A:=((A.lose 0).modE x.t j (fun e=>e.inn (some f))).carry x.t j) b3 (qt_eq b5 hq1) (by rw[el2];exact h2) k2
   obtain⟨ext2,z1⟩:=tg.pre
   refine⟨c1,c3.trans b6,tg.b3 (y3 (by omega)),⟨ext++ext2,by rw[z1,y1,List.append_assoc]⟩,fun u' j'=>?_,?_,fun f' i' g1 g2 g3 g4 g5=>?_,(fun f' j' h1 h2=>by rw[hf]at h1;cases h1;rw[hfd]at h2;cases h2)⟩
   ·rw[tg.fst,hen]
    simp only[upd2]
    split
    ·rename_i c;rw[c.1,c.2,e1,q1];exact Nat.le_refl _
    ·exact Nat.le_refl _
   ·have h5:=tg.pot
    rw[y1,W_app]at h5
    rw[hWx,hwx]
    omega
   ·rw[hf]at g1
    cases g1
    have hii:i'=i:=T.inj x.f _ _ g3 hi (g4.trans ei.symm)
    subst hii
    have h6:=hD2.lo
    have h7:=hD2.hi
    have h8:=hD2.len
    have h9:=hD2.four
    have haw:f.seq<(d.2.came f.seq f.m).await:=came_await h9 f.seq f.m (by omega)
    have hsm:(d.2.came f.seq f.m).await<65536:=by
     have hdir:=h2.dir x.f i' j g3 (by rw[g4];exact hj) (by rw[g4];exact ej)
     rw[g4,hen]at hdir
     have hne:¬(x.f=x.t∧i'=j):=fun c=>by
      have:=T.adj x.t j hj
      rw[ej,c.1]at this
      exact G.irr _ this
     simp only[upd2,and_self,if_true,if_neg hne]at hdir
     have t1:=hdir.await_le
     have t2:=hsum_at T H no2 (G.lt _ _ (T.adj x.f i' g3)) g3
     rw[g4]at t2
     have t3:=hI.few hG
     show (d.2.came f.seq f.m).outs.await<65536
     omega
    rw[if_pos hsm]at hout
    have hy:=y4 _ _ hout hr3
    refine⟨⟨x.t,d.1,Fr.enc ⟨false,(d.2.came f.seq f.m).await,Fr.none0⟩,false⟩,?_,rfl,by show d.1=x.f;rw[hd1];exact ej,_,frmOf_enc (frok_ans hsm),rfl,haw⟩
    rw[z1,y1]
    simp[hy]
theorem AI.less{G:Gr}{T:Top G}{A:AN}(hA:AI T A)(bag':List AP)(h1:∀x∈bag',(x.sp=false→∃f,FrOk f∧x.l=Fr.enc f)∧(x.sp=true→frmOf x.l=none)∧G.adj x.t x.f)(h2:∀x∈bag',∀f,frmOf x.l=some f→∃y∈A.bag,y.f=x.f∧y.t=x.t∧frmOf y.l=some f):AI T { A with bag:=bag'}:=by
 obtain⟨H,hI⟩:=hA.inv
 refine⟨⟨hA.sf.shp,h1,hA.sf.kept,hA.sf.wait,hA.sf.out,hA.sf.well⟩,hA.qt,H,?_⟩
 refine hI.less (bag'.map (fun x=>(x.f,x.t,frmOf x.l))) (fun u v f hm=>?_)
 obtain⟨x,hx,e⟩:=List.mem_map.1 hm
 simp only[Prod.mk.injEq]at e
 obtain⟨e1,e2,e3⟩:=e
 obtain⟨y,hy,y1,y2,y3⟩:=h2 x hx f e3
 exact List.mem_map.2 ⟨y,hy,by rw[y1,y2,y3,e1,e2]⟩
theorem AI.deliver{G:Gr}{T:Top G}(hG:Small G)(hdg:∀u,T.dg u≤30){A:AN}(hA:AI T A)(hb3:A.bag.length≤300)(k:Nat):AI T (A.deliver k)∧(A.deliver k).es=A.es∧(A.deliver k).bag.length≤300:=by
 cases hx:A.bag[k]? with
 |none=>unfold AN.deliver;rw[hx];exact⟨hA,rfl,hb3⟩
 |some x=>
  have hm:=List.mem_of_getElem? hx
  have hA2:AI T { A with bag:=x::A.bag.eraseIdx k}:=hA.less _ (fun y hy=>by
   rcases List.mem_cons.1 hy with e|e
   ·rw[e];exact hA.sf.bg x hm
   ·exact hA.sf.bg y (List.mem_of_mem_eraseIdx e)) (fun y hy f hf=>by
   rcases List.mem_cons.1 hy with e|e
   ·rw[e]at hf⊢;exact⟨x,hm,rfl,rfl,hf⟩
   ·exact⟨y,List.mem_of_mem_eraseIdx e,rfl,rfl,hf⟩)
  have e1:A.deliver k=(A.lose k).comes x:=by unfold AN.deliver;rw[hx]
  have e2:({ A with bag:=x::A.bag.eraseIdx k}:AN).deliver 0=(A.lose k).comes x:=by
   unfold AN.deliver AN.lose;rfl
  rw[e1,←e2]
  have hk:=(List.getElem?_eq_some_iff.1 hx).1
  have hb:(x::A.bag.eraseIdx k).length≤300:=by
   rw[List.length_cons,List.length_eraseIdx,if_pos hk];omega
  have:=deliver_all hG hdg hA2 hb (x:=x) (r:=A.bag.eraseIdx k) rfl
  exact⟨this.ai,this.es,this.b3⟩
theorem tick_outs{e:En}(h:e.out=[]):e.tick.outs=e:=by
 unfold En.tick En.showFrom En.outs
 dsimp only
 rw[←h]
structure Tkd{G:Gr}(T:Top G)(A A':AN):Prop where
 ai:AI T A'
 es:A'.es=A.es
 en:(lsOf A').en=(lsOf A).en
 nd:(lsOf A').nodes=(lsOf A).nodes
 pre:∃ext,A'.bag=A.bag++ext
 b3:A.bag.length≤300→A'.bag.length≤300
theorem Tkd.refl{G:Gr}{T:Top G}{A:AN}(h:AI T A):Tkd T A A:=⟨h,rfl,rfl,rfl,⟨[],by simp⟩,id⟩
theorem Tkd.trans{G:Gr}{T:Top G}{A B C:AN}(h:Tkd T A B)(k:Tkd T B C):Tkd T A C:=by
 obtain⟨x,hx⟩:=h.pre
 obtain⟨y,hy⟩:=k.pre
 exact⟨k.ai,k.es.trans h.es,k.en.trans h.en,k.nd.trans h.nd,⟨x++y,by rw[hy,hx,List.append_assoc]⟩,fun e=>k.b3 (h.b3 e)⟩
def Shw{G:Gr}(T:Top G)(A:AN)(u j:Nat):Prop:=∃x∈A.bag,x.f=u∧x.t=T.nb u j∧∃m,frmOf x.l=some ⟨true,((lsOf A).en u j).first,m⟩
theorem tickOne_all{G:Gr}{T:Top G}(hG:Small G)(hdg:∀u,T.dg u≤30){A:AN}(hA:AI T A){u j:Nat}(hj:j<T.dg u):Tkd T A (A.tickOne u j)∧(((lsOf A).en u j).wait=[]→(A.tickOne u j).bag=A.bag)∧(((lsOf A).en u j).wait≠[]→A.bag=[]→Shw T (A.tickOne u j) u j):=by
 obtain⟨H,hI⟩:=hA.inv
 have hbd:=bd_of hG hdg hA.sf hA.qt hI
 obtain⟨d,s,hd,hd1,hs⟩:=hA.sf.at hj
 have hb:=hbd u j s d hs hd
 have e1:=en_at hd
 have ho:=hA.sf.out u j d hd
 have hw:=hA.sf.wait u j d hd
 have hfr:=show_ok ho hw (by omega) 0
 obtain⟨bag',b1,b2,b3,b4,b5,b6⟩:=carry_ls hA.sf hd En.tick hfr (hA.sf.kept u j d hd) hw
 obtain⟨ext,y1,y2,y3,y4⟩:=carry_ext hd En.tick
 have hen:(lsOf (A.tickOne u j)).en=(lsOf A).en:=by
  show (lsOf ((A.modE u j En.tick).carry u j)).en=_
  rw[b1]
  funext a b
  simp only[upd2]
  split
  ·rename_i c;rw[c.1,c.2,e1];exact tick_outs ho
  ·rfl
 refine⟨⟨⟨b3,qt_eq b5 hA.qt,H,?_⟩,b6,hen,nodes_eq b5,⟨ext,y1⟩,y3⟩,fun h=>?_,fun h hb0=>?_⟩
 ·show LInv G T (lsOf ((A.modE u j En.tick).carry u j)) H no2 no2
  rw[b1,←e1]
  exact hI.tick hj bag' (fun x y f hf=>by rw[e1];exact b2 x y f hf)
 ·rw[e1]at h
  have h2:d.2.tick.out=[]:=by
   unfold En.tick En.showFrom
   simp[h,ho,En.frames]
  show ((A.modE u j En.tick).carry u j).bag=A.bag
  rw[carry_eq hd En.tick,h2]
  rfl
 ·rw[e1]at h
  cases hwt:d.2.wait with
  |nil=>exact(h hwt).elim
  |cons m r=>
   have h2:d.2.tick.out=⟨true,d.2.first,m⟩::En.frames (d.2.first+1) (r.take 3):=by
    unfold En.tick En.showFrom
    simp[hwt,ho,En.frames]
   have h3:=y4 _ _ h2 (by rw[hb0];simp)
   refine⟨⟨u,d.1,Fr.enc ⟨true,d.2.first,m⟩,false⟩,?_,rfl,hd1,m,?_⟩
   ·show _∈((A.modE u j En.tick).carry u j).bag
    rw[y1]
    exact List.mem_append_right _ h3
   ·rw[hen,e1]
    exact frmOf_enc (hfr _ (by show _∈d.2.tick.out;rw[h2];simp))
def Tst1{G:Gr}(T:Top G)(A:AN)(done:Nat→Nat→Prop):Prop:=(A.bag=[]∧∀u j,done u j→j<T.dg u→((lsOf A).en u j).wait=[])∨∃u j,j<T.dg u∧Shw T A u j
theorem Shw.keep{G:Gr}{T:Top G}{A A':AN}(h:Tkd T A A'){u j:Nat}(k:Shw T A u j):Shw T A' u j:=by
 obtain⟨x,hx,x1,x2,m,x3⟩:=k
 obtain⟨ext,e⟩:=h.pre
 exact⟨x,by rw[e];exact List.mem_append_left _ hx,x1,x2,m,by rw[h.en];exact x3⟩
theorem ticks_all{G:Gr}{T:Top G}(hG:Small G)(hdg:∀u,T.dg u≤30){u:Nat}:∀(l:List Nat) {A:AN} {done:Nat→Nat→Prop},AI T A→(∀j∈l,j<T.dg u)→Tst1 T A done→Tkd T A (l.foldl (fun A j=>A.tickOne u j) A)∧Tst1 T (l.foldl (fun A j=>A.tickOne u j) A) (fun a b=>done a b∨(a=u∧b∈l))
 |[],A,done,hA,_,ht=>⟨Tkd.refl hA,ht.imp_left (fun h=>⟨h.1,fun a b e=>h.2 a b (by rcases e with e|e;exact e;cases e.2)⟩)⟩
 |j::l,A,done,hA,hl,ht=>by
  obtain⟨a1,a2,a3⟩:=tickOne_all hG hdg hA (hl j (by simp))
  have ht2:Tst1 T (A.tickOne u j) (fun a b=>done a b∨(a=u∧b=j)):=by
   rcases ht with⟨t1,t2⟩|⟨x,y,t1,t2⟩
   ·by_cases hw:((lsOf A).en u j).wait=[]
    ·left
     refine⟨by rw[a2 hw];exact t1,fun a b e hb=>?_⟩
     rw[a1.en]
     rcases e with e|⟨rfl,rfl⟩
     ·exact t2 a b e hb
     ·exact hw
    ·exact Or.inr ⟨u,j,hl j (by simp),a3 hw t1⟩
   ·exact Or.inr ⟨x,y,t1,t2.keep a1⟩
  obtain⟨b1,b2⟩:=ticks_all hG hdg l a1.ai (fun i hi=>hl i (by simp[hi])) ht2
  refine⟨a1.trans b1,b2.imp_left (fun h=>⟨h.1,fun a b e hb=>h.2 a b ?_ hb⟩)⟩
  rcases e with e|⟨e1,e2⟩
  ·exact Or.inl (Or.inl e)
  ·rcases List.mem_cons.1 e2 with e3|e3
   ·exact Or.inl (Or.inr ⟨e1,e3⟩)
   ·exact Or.inr ⟨e1,e3⟩
theorem tick_all{G:Gr}{T:Top G}(hG:Small G)(hdg:∀u,T.dg u≤30){A:AN}(hA:AI T A){u:Nat}{done:Nat→Nat→Prop}(ht:Tst1 T A done):Tkd T A (A.tick u)∧Tst1 T (A.tick u) (fun a b=>done a b∨a=u):=by
 cases hs:A.sps[u]? with
 |none=>
  have e:A.tick u=A:=by unfold AN.tick AN.ticks;rw[hs];rfl
  rw[e]
  refine⟨Tkd.refl hA,ht.imp_left (fun h=>⟨h.1,fun a b e hb=>?_⟩)⟩
  rcases e with e|e
  ·exact h.2 a b e hb
  ·subst e
   obtain⟨d,s,_,_,hs2⟩:=hA.sf.at hb
   rw[hs]at hs2;cases hs2
 |some s=>
  have e:A.tick u=(List.range s.ss.length).foldl (fun A j=>A.tickOne u j) A:=by unfold AN.tick AN.ticks;rw[hs]
  rw[e]
  have hl:∀j,j<s.ss.length→j<T.dg u:=fun j hj=>(hA.sf.lt (d:=s.ss[j]'hj) (by rw[side_at,hs];exact List.getElem?_eq_getElem hj)).1
  obtain⟨a1,a2⟩:=ticks_all hG hdg (List.range s.ss.length) hA (fun j hj=>hl j (List.mem_range.1 hj)) ht
  refine⟨a1,a2.imp_left (fun h=>⟨h.1,fun a b e hb=>h.2 a b ?_ hb⟩)⟩
  rcases e with e|e
  ·exact Or.inl e
  ·subst e
   refine Or.inr ⟨rfl,List.mem_range.2 ?_⟩
   obtain⟨d,s',hd,_,hs2⟩:=hA.sf.at hb
   obtain⟨s3,h1,h2⟩:=side_get hd
   rw[hs]at h1;cases h1
   exact(List.getElem?_eq_some_iff.1 h2).1
noncomputable def tickAll(n:Nat)(A:AN):AN:=(List.range n).foldl (fun A i=>A.tick i) A
theorem tickAll_all{G:Gr}{T:Top G}(hG:Small G)(hdg:∀u,T.dg u≤30){A:AN}(hA:AI T A)(hb:A.bag=[]):Tkd T A (tickAll G.n A)∧(((tickAll G.n A).bag=[]∧∀u j,j<T.dg u→((lsOf (tickAll G.n A)).en u j).wait=[])∨∃u j,j<T.dg u∧Shw T (tickAll G.n A) u j):=by
 have key:∀(l:List Nat) {A:AN} {done:Nat→Nat→Prop},AI T A→Tst1 T A done→Tkd T A (l.foldl (fun A i=>A.tick i) A)∧Tst1 T (l.foldl (fun A i=>A.tick i) A) (fun a b=>done a b∨a∈l):=by
  intro l
  induction l with
  |nil=>intro A done hA ht;exact⟨Tkd.refl hA,ht.imp_left (fun h=>⟨h.1,fun a b e=>h.2 a b (by rcases e with e|e;exact e;cases e)⟩)⟩
  |cons i l ih=>
   intro A done hA ht
   obtain⟨a1,a2⟩:=tick_all hG hdg hA (u:=i) ht
   obtain⟨b1,b2⟩:=ih a1.ai a2
   refine⟨a1.trans b1,b2.imp_left (fun h=>⟨h.1,fun a b e hb=>h.2 a b ?_ hb⟩)⟩
   rcases e with e|e
   ·exact Or.inl (Or.inl e)
   ·rcases List.mem_cons.1 e with e2|e2
    ·exact Or.inl (Or.inr e2)
    ·exact Or.inr e2
 obtain⟨a1,a2⟩:=key (List.range G.n) hA (done:=fun _ _=>False) (Or.inl ⟨hb,fun _ _ e=>e.elim⟩)
 refine⟨a1,a2.imp_left (fun h=>⟨h.1,fun u j hj=>h.2 u j (Or.inr (List.mem_range.2 (G.lt _ _ (T.adj u j hj)))) hj⟩)⟩
theorem Om_le{G:Gr}{T:Top G}(hG:Small G){A:AN}(hA:AI T A):Om T (lsOf A)≤340∧Fi T (lsOf A)≤340:=by
 obtain⟨H,hI⟩:=hA.inv
 have h1:=hI.few hG
 have key:∀u j,j<T.dg u→((lsOf A).en u j).first+((lsOf A).en u j).shown≤(H u (T.nb u j)).length+(no2 u (T.nb u j)).length:=fun u j hj=>by
  obtain⟨k,hk,ek⟩:=back T hj
  have h2:=(hI.dir u j k hj hk ek).len
  have h3:=(shown_le ((lsOf A).en u j)).1
  omega
 constructor
 ·exact Nat.le_trans (S1_le _ _ _ (fun u _=>S1_le _ _ _ (fun j hj=>key u j hj))) h1
 ·exact Nat.le_trans (S1_le _ _ _ (fun u _=>S1_le _ _ _ (fun j hj=>by have:=key u j hj;omega))) h1
noncomputable def dls:Nat→AN→AN
 |0,A=>A
 |f+1,A=>match A.bag with
  |[]=>A
  |_::_=>dls f (A.deliver 0)
theorem dls_nil(f:Nat){A:AN}(h:A.bag=[]):dls f A=A:=by
 cases f with
 |zero=>rfl
 |succ f=>unfold dls;rw[h]
theorem dls_cons(f:Nat){A:AN}{x:AP}{r:List AP}(h:A.bag=x::r):dls (f+1) A=dls f (A.deliver 0):=by
 rw[dls,h]
def Trk{G:Gr}(T:Top G)(A:AN)(u j f0:Nat):Prop:=f0<((lsOf A).en u j).first∨(((lsOf A).en u j).first=f0∧∃x∈A.bag,x.f=u∧x.t=T.nb u j∧∃m,frmOf x.l=some ⟨true,f0,m⟩)∨∃x∈A.bag,x.f=T.nb u j∧x.t=u∧∃g,frmOf x.l=some g∧g.data=false∧f0<g.seq
theorem Trk.next{G:Gr}{T:Top G}{A A':AN}{x:AP}{r:List AP}(hx:A.bag=x::r)(h:Dlv T A x r A'){u j f0:Nat}(hj:j<T.dg u)(hk:Trk T A u j f0):Trk T A' u j f0:=by
 obtain⟨ext,e⟩:=h.pre
 have hfst:=h.fst u j
 rcases hk with hk|⟨k1,y,hy,y1,y2,m,y3⟩|⟨y,hy,y1,y2,g,y3,y4,y5⟩
 ·exact Or.inl (by omega)
 ·by_cases hlt:f0<((lsOf A').en u j).first
  ·exact Or.inl hlt
  ·rw[hx]at hy
   rcases List.mem_cons.1 hy with rfl|hy
   ·obtain⟨z,hz,z1,z2,g,z3,z4,z5⟩:=h.dat _ j y3 rfl (by rw[y1];exact hj) (by rw[y1,y2]) (by rw[y1];exact k1)
    exact Or.inr (Or.inr ⟨z,hz,by rw[z1,y2],by rw[z2,y1],g,z3,z4,z5⟩)
   ·exact Or.inr (Or.inl ⟨by omega,y,by rw[e];exact List.mem_append_left _ hy,y1,y2,m,y3⟩)
 ·rw[hx]at hy
  rcases List.mem_cons.1 hy with rfl|hy
  ·have:=h.ans _ j y3 y4 (by rw[y2];exact hj) (by rw[y2,y1])
   rw[y2]at this
   exact Or.inl (by omega)
  ·exact Or.inr (Or.inr ⟨y,by rw[e];exact List.mem_append_left _ hy,y1,y2,g,y3,y4,y5⟩)
noncomputable def Th{G:Gr}(T:Top G)(A:AN):Nat:=W A.bag+2 * (340 - Om T (lsOf A))
theorem dls_all{G:Gr}{T:Top G}(hG:Small G)(hdg:∀u,T.dg u≤30):∀(f:Nat) {A:AN},AI T A→A.bag.length≤300→Th T A≤f→
 AI T (dls f A)∧(dls f A).es=A.es∧(dls f A).bag=[]∧(∀u j,((lsOf A).en u j).first≤((lsOf (dls f A)).en u j).first)∧(∀u j f0,j<T.dg u→Trk T A u j f0→f0<((lsOf (dls f A)).en u j).first)
 |0,A,hA,hb,hT=>by
  have hW:A.bag=[]:=by
   cases h:A.bag with
   |nil=>rfl
   |cons x r=>
    unfold Th at hT
    rw[h]at hT
    have:=(wt_in x).1
    simp[W]at hT
    omega
  refine⟨hA,rfl,hW,fun _ _=>Nat.le_refl _,fun u j f0 _ h=>?_⟩
  rcases h with h|⟨_,x,hx,_⟩|⟨x,hx,_⟩
  ·exact h
  ·rw[hW]at hx;cases hx
  ·rw[hW]at hx;cases hx
 |f+1,A,hA,hb,hT=>by
  cases h:A.bag with
  |nil=>
   rw[dls_nil _ h]
   refine⟨hA,rfl,h,fun _ _=>Nat.le_refl _,fun u j f0 _ k=>?_⟩
   rcases k with k|⟨_,x,hx,_⟩|⟨x,hx,_⟩
   ·exact k
   ·rw[h]at hx;cases hx
   ·rw[h]at hx;cases hx
  |cons x r=>
   rw[dls_cons _ h]
   have hd:=deliver_all hG hdg hA hb h
   have o1:=(Om_le hG hA).1
   have o2:=(Om_le hG hd.ai).1
   have hp:=hd.pot
   have hT2:Th T (A.deliver 0)≤f:=by unfold Th at hT⊢;omega
   obtain⟨a1,a2,a3,a4,a5⟩:=dls_all hG hdg f hd.ai hd.b3 hT2
   exact⟨a1,a2.trans hd.es,a3,fun u j=>Nat.le_trans (hd.fst u j) (a4 u j),fun u j f0 hj k=>a5 u j f0 hj (k.next h hd hj)⟩
theorem Th_le{G:Gr}(T:Top G){A:AN}(hb:A.bag.length≤300):Th T A≤1280:=by
 have:=W_le A.bag
 unfold Th
 omega
noncomputable def stl(n:Nat):Nat→AN→AN
 |0,A=>A
 |r+1,A=>if (tickAll n (dls 3000 A)).bag.length=0 then tickAll n (dls 3000 A)else stl n r (tickAll n (dls 3000 A))
structure Calm{G:Gr}(T:Top G)(A:AN):Prop where
 ai:AI T A
 bag:A.bag=[]
 wait:∀u j,j<T.dg u→((lsOf A).en u j).wait=[]
theorem Fi_lt{G:Gr}{T:Top G}{S S':LS}(h:∀u j,(S.en u j).first≤(S'.en u j).first){a b:Nat}(ha:a<G.n)(hb:b<T.dg a)(hab:(S.en a b).first<(S'.en a b).first):Fi T S<Fi T S':=by
 have h1:=S11_one (T:=T) (fun u j=>(S'.en u j).first) (fun u j=>if u=a∧j=b then (S.en a b).first else (S'.en u j).first) ha hb (fun u v hn=>by simp only[if_neg hn])
 have h2:Fi T S≤S1 G.n (fun u=>S1 (T.dg u) (fun j=>if u=a∧j=b then (S.en a b).first else (S'.en u j).first)):=S1_le _ _ _ (fun u _=>S1_le _ _ _ (fun j _=>by
  by_cases c:u=a∧j=b
  ·rw[if_pos c,c.1,c.2];exact Nat.le_refl _
  ·rw[if_neg c];exact h u j))
 simp only[and_self,if_true]at h1
 have h3:Fi T S'=S1 G.n (fun u=>S1 (T.dg u) (fun j=>(S'.en u j).first)):=rfl
 omega
theorem stl_all{G:Gr}{T:Top G}(hG:Small G)(hdg:∀u,T.dg u≤30):∀(r:Nat) {A:AN},AI T A→A.bag.length≤300→(∃u j,j<T.dg u∧Shw T A u j)→340<r+Fi T (lsOf A)→Calm T (stl G.n r A)∧(stl G.n r A).es=A.es
 |0,A,hA,hb,_,hr=>by have:=(Om_le hG hA).2;omega
 |r+1,A,hA,hb,⟨u,j,hj,hs⟩,hr=>by
  obtain⟨a1,a2,a3,a4,a5⟩:=dls_all hG hdg 3000 hA hb (by have:=Th_le T hb;omega)
  obtain⟨b1,b2⟩:=tickAll_all hG hdg a1 a3
  have hF:Fi T (lsOf A)<Fi T (lsOf (dls 3000 A)):=by
   refine Fi_lt a4 (G.lt _ _ (T.adj u j hj)) hj (a5 u j _ hj (Or.inr (Or.inl ⟨rfl,?_⟩)))
   obtain⟨x,hx,x1,x2,m,x3⟩:=hs
   exact⟨x,hx,x1,x2,m,x3⟩
  have hF2:Fi T (lsOf (tickAll G.n (dls 3000 A)))=Fi T (lsOf (dls 3000 A)):=by unfold Fi;rw[b1.en]
  unfold stl
  rcases b2 with⟨c1,c2⟩|c
  ·rw[if_pos (by rw[c1];rfl)]
   exact⟨⟨b1.ai,c1,c2⟩,b1.es.trans a2⟩
  ·have hne:¬(tickAll G.n (dls 3000 A)).bag.length=0:=fun e=>by
    obtain⟨u',j',_,x,hx,_⟩:=c
    rw[List.length_eq_zero_iff.1 e]at hx;cases hx
   rw[if_neg hne]
   obtain⟨d1,d2⟩:=stl_all hG hdg r b1.ai (b1.b3 (by rw[a3];simp)) c (by omega)
   exact⟨d1,d2.trans (b1.es.trans a2)⟩
theorem settled{G:Gr}{T:Top G}(hG:Small G)(hdg:∀u,T.dg u≤30){A:AN}(hA:AI T A)(hb:A.bag.length≤300):Calm T (stl G.n 400 A)∧(stl G.n 400 A).es=A.es:=by
 obtain⟨a1,a2,a3,a4,a5⟩:=dls_all hG hdg 3000 hA hb (by have:=Th_le T hb;omega)
 obtain⟨b1,b2⟩:=tickAll_all hG hdg a1 a3
 show Calm T (if (tickAll G.n (dls 3000 A)).bag.length=0 then tickAll G.n (dls 3000 A)else stl G.n 399 (tickAll G.n (dls 3000 A)))∧(if (tickAll G.n (dls 3000 A)).bag.length=0 then tickAll G.n (dls 3000 A)else stl G.n 399 (tickAll G.n (dls 3000 A))).es=A.es
 rcases b2 with⟨c1,c2⟩|c
 ·rw[if_pos (by rw[c1];rfl)]
  exact⟨⟨b1.ai,c1,c2⟩,b1.es.trans a2⟩
 ·have hne:¬(tickAll G.n (dls 3000 A)).bag.length=0:=fun e=>by
   obtain⟨u',j',_,x,hx,_⟩:=c
   rw[List.length_eq_zero_iff.1 e]at hx;cases hx
  rw[if_neg hne]
  obtain⟨d1,d2⟩:=stl_all hG hdg 399 b1.ai (b1.b3 (by rw[a3];simp)) c (by omega)
  exact⟨d1,d2.trans (b1.es.trans a2)⟩
theorem Calm.rest{G:Gr}{T:Top G}{A:AN}(h:Calm T A)(hs:∀u,((lsOf A).nodes u).sent=[])(hconn:∀S:Nat→Prop,S 0→(∀z v,G.adj z v→(S z↔S v))→∀z,z<G.n→S z){z:Nat}(hz:((lsOf A).nodes z).state≠0)(ha:∃v,G.adj z v):
 ∃a b l j,a<G.n∧b<G.n∧j<T.dg a∧T.nb a j=b∧((lsOf A).nodes a).st j=1∧1≤l∧((lsOf A).nodes a).over=true∧((lsOf A).nodes b).over=true∧(∀x,x<G.n→((lsOf A).nodes x).over=true→x=a∨x=b)∧∀x,x<G.n→((lsOf A).nodes x).state=2∧((lsOf A).nodes x).level=l:=by
 obtain⟨H,hI⟩:=h.ai.inv
 obtain⟨chan,n1,n2⟩:=hI.net
 refine n1.rest (fun v j hj=>?_) hs hconn hz ha
 obtain⟨k,hk,ek⟩:=back T hj
 have h1:=n2 (T.nb v j) k j hk (by rw[ek];exact hj) (by rw[ek])
 rw[ek]at h1
 have h2:=hI.dir (T.nb v j) k j hk (by rw[ek];exact hj) (by rw[ek])
 rw[ek]at h2
 have h3:=h2.len
 rw[h.wait _ _ hk]at h3
 have h4:=h2.lo
 rw[h1,List.drop_of_length_le (by simp at h3;omega)]
 simp[no2]
theorem AI.old{G:Gr}{T:Top G}(hG:Small G)(hdg:∀u,T.dg u≤30){A:AN}(hA:AI T A):Ghs.AI T A 3300:=by
 obtain⟨H,hI⟩:=hA.inv
 obtain⟨chan,n1,n2⟩:=hI.net
 exact⟨hA.sf,bd_of hG hdg hA.sf hA.qt hI,hA.qt,H,hI.dir,hI.out,chan,n1.old,n2⟩
end Go.Proofs.YtlfijfodklhplaaGreat.Ghs.V
