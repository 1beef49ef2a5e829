import Derived.Test.YtlfijfodklhplaaGreatTn45
set_option linter.unusedVariables false
set_option linter.unusedSimpArgs false
namespace Go.Proofs.YtlfijfodklhplaaGreat.Ghs.V
open Go.RowKit
open Ghs NMsg
theorem act_init{G:Gr}{T:Top G}{nodes:Nat→Nod}{P:Nat→Nat→List NMsg}(hsm:G.n<2 ^ 30)(hdg:∀u,T.dg u<2 ^ 30){K:Nat}(hG:Good G T K nodes P){y j l nm:Nat}{f:Bool}(hj:j<T.dg y){A B:List NMsg}(hP:P (T.nb y j) y=A++initiate l nm f::B)(hA0:inits A=[])(hA1:∀l,connect l∈A→(nodes y).st j=0)(hA2:∀w,report w∈A→(nodes y).state=1):
 Good G T K (upd nodes y ((nodes y).initiate j l nm f)) (upd2 P (T.nb y j) y (A++B)):=by
 obtain⟨s,g,h,hR,hI,htk,htg⟩:=hG
 have ha:=T.adj y j hj
 obtain⟨C,hq,hR1⟩:=hR.out (G.sym _ _ ha) hP
 rw[←upd_self nodes y]at hR1
 have h0:=hR.nr y
 have hmS:initiate l nm f∈kS s.q (T.nb y j) y:=by simp only[kS,hq];simp[isIni]
 have hpar:=(hI.inv.st.i1 _ _ _ _ _ hmS).1
 have hdb:=hI.inv.st.pr _ _ hpar
 have haw:=(hI.inv.st.sa y (T.nb y j) (by have:=hdb.1;omega)).2
 have hyx:y≠T.nb y j:=fun e=>by rw[←e]at ha;exact G.irr _ ha
 have hf0:s.fnd y=false:=by
  cases e:s.fnd y
  ·rfl
  ·have:=(hI.inv.rp.s1 y e).2.1
   exact(hI.inv.st.noIni this hmS).elim
 have hc0:=hI.inv.rp.s6 y hf0
 have hA1':∀l,connect l∉A:=fun l' hm=>by
  have h1:=hA1 l' hm
  have h2:=hdb.1
  rw[h0.se j hj]at h2
  omega
 have hA2':∀w,report w∉A:=fun w hm=>by
  have h1:=h0.fnd.2 (hA2 w hm)
  rw[hf0]at h1;cases h1
 obtain⟨kl,kl1,kl2,kl3⟩:∃kl:List Nat,kl.Nodup∧kl.length=(outs (nodes y) j (T.dg y) 0).length∧∀z,z∈kl↔(z≠T.nb y j∧s.se y z=1):=by
  refine⟨(outs (nodes y) j (T.dg y) 0).map (T.nb y),?_,by simp,fun z=>?_⟩
  ·refine List.pairwise_map.2 ?_
   refine List.Pairwise.imp_of_mem ?_ (outs_nodup (nodes y) j (T.dg y) 0)
   intro a b h1 h2 h3 h4
   exact h3 (T.inj y a b ((outs_mem _ _ _ _).1 h1).1 ((outs_mem _ _ _ _).1 h2).1 h4)
  ·rw[List.mem_map]
   constructor
   ·rintro⟨i,hi,rfl⟩
    have h1:=(outs_mem _ _ _ _).1 hi
    exact⟨fun e=>h1.2.1 (T.inj y _ _ h1.1 hj e),by rw[h0.se i h1.1];exact h1.2.2⟩
   ·rintro⟨h1,h2⟩
    obtain⟨i,hi,rfl⟩:=T.sur y z (hI.inv.st.sa y z (by omega)).1
    refine⟨i,(outs_mem _ _ _ _).2 ⟨hi,fun e=>h1 (by rw[e]),?_⟩,rfl⟩
    rw[←h0.se i hi];exact h2
 have hcn:(nodes y).count=0:=by rw[h0.cnt,hc0];rfl
 have hsp:=spreads_eq j l nm f (T.dg y) 0 { nodes y with level:=l,name:=nm,state:=if f then 1 else 2,inn:=some j,best:=none,bw:=1001} (by show 0≤(nodes y).count;omega) (by show (nodes y).count+_<_;have:=hdg y;omega)
 have eo:outs { nodes y with level:=l,name:=nm,state:=if f then 1 else 2,inn:=some j,best:=none,bw:=1001} j (T.dg y) 0=outs (nodes y) j (T.dg y) 0:=rfl
 rw[eo]at hsp
 have hI2:=x_init (nodes':=upd nodes y (({ nodes y with level:=l,name:=nm,state:=if f then 1 else 2,inn:=some j,best:=none,bw:=1001}:Nod).spreads j l nm f (T.dg y) 0)) (by rw[←upd_self nodes y]at hI;exact hI) hq hA0 hA1' hA2' (if f then (outs (nodes y) j (T.dg y) 0).length else 0) kl kl1 kl3 (by rw[kl2]) (by
  rw[hsp,kl2]
  exact sn (adj_lt2 ha).1 (by simp))
 have hR2:Rel G T (upd nodes y (({ nodes y with level:=l,name:=nm,state:=if f then 1 else 2,inn:=some j,best:=none,bw:=1001}:Nod).spreads j l nm f (T.dg y) 0)) (upd2 P (T.nb y j) y (A++B)) { s with lev:=upd s.lev y l,nam:=upd s.nam y nm,inn:=upd s.inn y (some (T.nb y j)),best:=upd s.best y none,bw:=upd s.bw y 1001,fnd:=upd s.fnd y f,cnt:=upd s.cnt y (if f then (outs (nodes y) j (T.dg y) 0).length else 0),q:=initq s.q s.se (T.nb y j) y (A++C) (initiate l nm f)}:=by
  rw[hsp]
  refine hR1.mod (fun z hz=>⟨rfl,by simp[upd,hz],by simp[upd,hz],by simp[upd,hz],rfl,by simp[upd,hz],by simp[upd,hz],by simp[upd,hz],rfl,by simp[upd,hz],rfl,?_⟩) ⟨?_,by simp[upd],by simp[upd],?_,h0.len,h0.se,h0.wt,by simp[upd],?_,by simp[upd],(fun k e=>by cases e),h0.tst,h0.tstl,by simp[upd],?_,h0.over,by simp⟩ (fun k hk=>?_) ?_
  ·funext b;simp only[initq,upd2];simp[hz]
  ·simp only[haw];cases f<;>simp
  ·simp only[upd];cases f<;>simp
  ·intro k e;cases e;exact hj
  ·simp only[upd,if_true];rw[hcn];cases f<;>simp
  ·have h1:=hR1.q y k hk
   rw[upd_at]at h1
   have n1:¬(y=T.nb y j∧T.nb y k=y):=fun e=>hyx e.1
   simp only[upd2,if_neg n1]at h1
   simp only[initq,upd2,if_neg n1]
   have h2:=sentTo_outs { nodes y with level:=l,name:=nm,state:=if f then 1 else 2,inn:=some j,best:=none,bw:=1001} (outs (nodes y) j (T.dg y) 0) (outs_nodup _ _ _ _) (initiate l nm f) (fun w e=>by cases e) (if f then (nodes y).count+(outs (nodes y) j (T.dg y) 0).length else (nodes y).count) k
   have h3:sentTo { nodes y with level:=l,name:=nm,state:=if f then 1 else 2,inn:=some j,best:=none,bw:=1001} k=sentTo (nodes y) k:=rfl
   rw[h3]at h2
   rw[h2,←List.append_assoc,←h1]
   by_cases e:k∈outs (nodes y) j (T.dg y) 0
   ·have e1:=(outs_mem _ _ _ _).1 e
    have e2:T.nb y k≠T.nb y j:=fun x=>e1.2.1 (T.inj y _ _ hk hj x)
    rw[if_pos e,if_pos ⟨trivial,e2,by rw[h0.se k hk];exact e1.2.2⟩]
   ·rw[if_neg e,if_neg]
    ·simp
    ·rintro⟨_,e2,e3⟩
     exact e ((outs_mem _ _ _ _).2 ⟨hk,fun x=>e2 (by rw[x]),by rw[←h0.se k hk];exact e3⟩)
  ·intro a b w hw
   simp only[initq]at hw
   split at hw
   ·refine hR.rp (T.nb y j) y w ?_
    rw[hq]
    simp at hw⊢
    exact hw
   ·split at hw
    ·simp at hw;exact hR.rp _ _ _ hw
    ·exact hR.rp _ _ _ hw
 unfold Nod.initiate
 dsimp only
 rw[h0.len]
 cases f
 ·refine⟨_,_,_,hR2,hI2,htk,fun x hx=>?_⟩
  rcases hx with⟨_,hx⟩|hx
  ·cases hx
  ·exact htg x hx
 ·obtain⟨s',h',a1,a2,a3,a4⟩:=sim_tests hR2 hI2 (Or.inl ⟨rfl,rfl⟩)
  refine⟨s',g,h',a1,a2,by rw[a3];exact htk,fun x hx=>?_⟩
  rw[a4]at hx
  rcases hx with⟨x1,⟨x2,_⟩|x2⟩
  ·exact x1 x2
  ·exact htg x x2
theorem act_ok{G:Gr}{T:Top G}{nodes:Nat→Nod}{P:Nat→Nat→List NMsg}(hsm:G.n<2 ^ 30)(hdg:∀u,T.dg u<2 ^ 30){K:Nat}(hG:Good G T K nodes P){v j:Nat}{m:NMsg}(hj:j<T.dg v){A B:List NMsg}(hP:P (T.nb v j) v=A++m::B)(hA:∀a∈A,((nodes v).act j a).2=false)(hs:(nodes v).state=0→A=[])(ht:((nodes v).act j m).2=true):
 Good G T K (upd nodes v ((nodes v).act j m).1) (upd2 P (T.nb v j) v (A++B)):=by
 have hA0:inits A=[]:=by
  apply List.eq_nil_iff_forall_not_mem.2
  rintro⟨l,n,f⟩ hm
  have:=hA _ ((mem_inits _).1 hm)
  simp[Nod.act]at this
 cases m with
 |connect l=>
  have h1:=act_wake hG v
  have h2:=act_connect hsm h1 hj hP (by rw[upd_at];exact wake_state _) (by rw[upd_at,connect_wake];exact ht)
  rw[upd_at,connect_wake,upd_upd]at h2
  exact h2
 |initiate l nm f=>
  refine act_init hsm hdg hG hj hP hA0 (fun l' hm=>?_) (fun w hm=>?_)
  ·have h0:(nodes v).state≠0:=fun e=>by rw[hs e]at hm;cases hm
   have h1:=hA _ hm
   simp only[Nod.act,Nod.connect,wake_of h0]at h1
   split at h1
   ·cases h1
   ·split at h1
    ·assumption
    ·cases h1
  ·have h1:=hA _ hm
   simp only[Nod.act,Nod.report]at h1
   split at h1
   ·split at h1
    ·assumption
    ·split at h1
     ·cases h1
     ·split at h1<;>cases h1
   ·cases h1
 |test l nm=>
  have h1:=act_wake hG v
  have h2:=act_test h1 hj hP (by rw[upd_at];exact wake_state _) (by rw[upd_at,test_wake];exact ht)
  rw[upd_at,test_wake,upd_upd]at h2
  exact h2
 |accept=>exact act_accept hG hj hP
 |reject=>exact act_reject hG hj hP
 |report w=>exact act_report hsm hG hj hP hA0 ht
 |root=>exact(act_root hG hj hP).2
def NPr(n:Nod):Prop:=n.state≤2∧(n.state=1→n.tested≠none∨n.count≠0)
theorem np_of{n n':Nod}(h:NPr n)(e1:n'.state=n.state)(e2:n'.tested=n.tested)(e3:n'.count=n.count):NPr n':=by unfold NPr;rw[e1,e2,e3];exact h
theorem np_two{n:Nod}(h:n.state=2):NPr n:=⟨by omega,fun e=>by omega⟩
theorem np_reports(n:Nod)(h2:n.state≤2):NPr n.reports:=by
 unfold Nod.reports
 split
 ·split
  ·exact np_two (by simp)
  ·exact np_two (by simp[Nod.send])
 ·rename_i h
  refine⟨h2,fun _=>?_⟩
  by_cases c:n.tested=none
  ·right;intro c2;exact h ⟨c2,c⟩
  ·exact Or.inl c
theorem np_tests(n:Nod)(h2:n.state≤2):NPr n.tests:=by
 unfold Nod.tests
 split
 ·exact np_reports _ h2
 ·exact⟨h2,fun _=>by left;simp[Nod.send]⟩
theorem np_wake{n:Nod}(h:NPr n):NPr n.wake:=by
 unfold Nod.wake
 split
 ·split
  ·exact np_two (by simp)
  ·exact np_two (by simp[Nod.send,Nod.setSt])
 ·exact h
theorem st_spread(n:Nod)(j l nm:Nat)(f:Bool):(n.spread j l nm f).state=n.state:=by unfold Nod.spread;split<;>rfl
theorem st_spreads(fr l nm:Nat)(f:Bool):∀(k j:Nat) (n:Nod),(n.spreads fr l nm f k j).state=n.state
 |0,j,n=>rfl
 |k+1,j,n=>by
  rw[Nod.spreads,st_spreads fr l nm f k (j+1)]
  split
  ·exact st_spread _ _ _ _ _
  ·rfl
theorem wake_count{n:Nod}(hc:0≤n.count∧n.count<2 ^ 59):0≤n.wake.count∧n.wake.count<2 ^ 59:=by
 unfold Nod.wake
 split
 ·split<;>simp[Nod.send,Nod.setSt]
 ·exact hc
theorem np_act{n:Nod}(h:NPr n)(hc:0≤n.count∧n.count<2 ^ 59)(j:Nat)(m:NMsg):NPr (n.act j m).1:=by
 have hw:=np_wake h
 have hwc:=wake_count hc
 cases m with
 |connect l=>
  show NPr (n.connect j l).1
  unfold Nod.connect
  dsimp only
  split
  ·unfold Nod.spread
   split
   ·refine⟨hw.1,fun _=>?_⟩
    right
    show wrap64 (n.wake.count+1)≠0
    rw[wrap_id (by omega) (by omega)]
    omega
   ·rename_i hf
    refine⟨hw.1,fun e=>?_⟩
    have e':n.wake.state=1:=e
    simp[e']at hf
  ·split
   ·exact hw
   ·exact np_of hw rfl rfl rfl
 |initiate l nm f=>
  show NPr (n.initiate j l nm f)
  unfold Nod.initiate
  dsimp only
  split
  ·exact np_tests _ (by rw[st_spreads];exact(by omega:1≤2))
  ·rename_i hf
   refine np_two ?_
   rw[st_spreads]
 |test l nm=>
  show NPr (n.test j l nm).1
  unfold Nod.test
  dsimp only
  split
  ·exact hw
  ·split
   ·exact np_of hw rfl rfl rfl
   ·split
    ·exact np_tests _ (by unfold Nod.reject;split<;>exact hw.1)
    ·unfold Nod.reject
     split
     ·exact np_of hw rfl rfl rfl
     ·exact np_of hw rfl rfl rfl
 |accept=>exact np_reports _ (by unfold Nod.hear;split<;>exact h.1)
 |reject=>exact np_tests _ (by unfold Nod.reject;split<;>exact h.1)
 |report w=>
  show NPr (n.report j w).1
  unfold Nod.report
  split
  ·split
   ·exact h
   ·split
    ·unfold Nod.changeRoot
     split
     ·exact h
     ·split
      ·exact np_of h rfl rfl rfl
      ·exact np_of h rfl rfl rfl
    ·split
     ·exact np_of h rfl rfl rfl
     ·exact h
  ·exact np_reports _ (by unfold Nod.hear;split<;>exact h.1)
 |root=>
  show NPr n.changeRoot
  unfold Nod.changeRoot
  split
  ·exact h
  ·split
   ·exact np_of h rfl rfl rfl
   ·exact np_of h rfl rfl rfl
def Good2(G:Gr)(T:Top G)(K:Nat)(nodes:Nat→Nod)(P:Nat→Nat→List NMsg):Prop:=Good G T K nodes P∧∀u,NPr (nodes u)
theorem np_upd{nodes:Nat→Nod}(h:∀u,NPr (nodes u)){v:Nat}{n:Nod}(hn:NPr n):∀u,NPr (upd nodes v n u):=fun u=>by
 by_cases e:u=v
 ·rw[e,upd_at];exact hn
 ·rw[upd_ne _ _ e];exact h u
theorem Good.count{G:Gr}{T:Top G}{K:Nat}{nodes:Nat→Nod}{P:Nat→Nat→List NMsg}(hsm:G.n<2 ^ 30)(h:Good G T K nodes P)(v:Nat):0≤(nodes v).count∧(nodes v).count<2 ^ 59:=by
 obtain⟨s,g,h',hR,hI,a,b⟩:=h
 have h1:=(hR.nr v).cnt
 have h2:=hI.inv.cnt_le v
 omega
theorem act_ok2{G:Gr}{T:Top G}{nodes:Nat→Nod}{P:Nat→Nat→List NMsg}(hsm:G.n<2 ^ 30)(hdg:∀u,T.dg u<2 ^ 30){K:Nat}(hG:Good2 G T K nodes P){v j:Nat}{m:NMsg}(hj:j<T.dg v){A B:List NMsg}(hP:P (T.nb v j) v=A++m::B)(hA:∀a∈A,((nodes v).act j a).2=false)(hs:(nodes v).state=0→A=[])(ht:((nodes v).act j m).2=true):
 Good2 G T K (upd nodes v ((nodes v).act j m).1) (upd2 P (T.nb v j) v (A++B)):=
 ⟨act_ok hsm hdg hG.1 hj hP hA hs ht,np_upd hG.2 (np_act (hG.2 v) (hG.1.count hsm v) j m)⟩
theorem act_wake2{G:Gr}{T:Top G}{nodes:Nat→Nod}{P:Nat→Nat→List NMsg}{K:Nat}(hG:Good2 G T K nodes P)(u:Nat):Good2 G T K (upd nodes u (nodes u).wake) P:=
 ⟨act_wake hG.1 u,np_upd hG.2 (np_wake (hG.2 u))⟩
structure Net(G:Gr)(T:Top G)(K:Nat)(Q:Nat→Prop)(nodes:Nat→Nod)(chan:Nat→Nat→List NMsg):Prop where
 good:∃P,Good2 G T K nodes P∧∀v j,j<T.dg v→P (T.nb v j) v=offFrom (nodes v).off j++chan (T.nb v j) v
 rng:∀v c,c∈(nodes v).off→c.1<T.dg v
 slp:∀v,(nodes v).state=0→(nodes v).off=[]
 stb:∀v,Q v→Stable (nodes v)
theorem Good2.off{G:Gr}{T:Top G}{K:Nat}{nodes:Nat→Nod}{P:Nat→Nat→List NMsg}{v:Nat}{n:Nod}(h:Good2 G T K (upd nodes v n) P)(x:List (Nat×NMsg)):Good2 G T K (upd nodes v { n with off:=x}) P:=by
 obtain⟨⟨s,g,h',hR,hI,a,b⟩,hN⟩:=h
 refine⟨⟨s,g,h',?_,⟨hI.inv,hI.pro,by rw[sn0 (n:=n) (n':={ n with off:=x}) rfl];exact hI.cnt⟩,a,b⟩,fun u=>by
  have:=hN u
  by_cases e:u=v
  ·rw[e,upd_at]at this⊢;exact np_of this rfl rfl rfl
  ·rw[upd_ne _ _ e]at this⊢;exact this⟩
 have h0:=hR.nr v
 rw[upd_at]at h0
 refine hR.mod (fun z hz=>⟨rfl,rfl,rfl,rfl,rfl,rfl,rfl,rfl,rfl,rfl,rfl,rfl⟩) ⟨h0.aw,h0.lev,h0.nam,h0.fnd,h0.len,h0.se,h0.wt,h0.inn,h0.innl,h0.best,h0.bestl,h0.tst,h0.tstl,h0.bw,h0.cnt,h0.over,h0.bw1⟩ (fun k hk=>?_) hR.rp
 have:=hR.q v k hk;rw[upd_at]at this;exact this
theorem Net.wake{G:Gr}{T:Top G}{K:Nat}{Q:Nat→Prop}{nodes:Nat→Nod}{chan:Nat→Nat→List NMsg}(h:Net G T K Q nodes chan)(u:Nat):Net G T K Q (upd nodes u (nodes u).wake) chan:=by
 obtain⟨P,hP,hl⟩:=h.good
 have hs:=same_wake (nodes u)
 refine⟨⟨P,act_wake2 hP u,fun v j hj=>?_⟩,fun v c hc=>?_,fun v e=>?_,fun v hv=>?_⟩
 ·rw[hl v j hj]
  by_cases e:v=u
  ·subst e;rw[upd_at,hs.1]
  ·rw[upd_ne _ _ e]
 ·by_cases e:v=u
  ·subst e;rw[upd_at,hs.1]at hc;exact h.rng _ _ hc
  ·rw[upd_ne _ _ e]at hc;exact h.rng _ _ hc
 ·by_cases e2:v=u
  ·subst e2;rw[upd_at]at e;exact(wake_state _ e).elim
  ·rw[upd_ne _ _ e2]at e⊢;exact h.slp _ e
 ·by_cases e2:v=u
  ·subst e2
   rw[upd_at]
   by_cases e3:(nodes v).state=0
   ·intro c hc;rw[hs.1,h.slp v e3]at hc;cases hc
   ·rw[wake_of e3];exact h.stb v hv
  ·rw[upd_ne _ _ e2];exact h.stb v hv
theorem Net.step{G:Gr}{T:Top G}{K:Nat}{nodes:Nat→Nod}{chan chan':Nat→Nat→List NMsg}(hsm:G.n<2 ^ 30)(hdg:∀u,T.dg u<2 ^ 30){v j:Nat}{m:NMsg}(h:Net G T K (fun x=>x≠v) nodes chan)(hj:j<T.dg v){X Y:List (Nat×NMsg)}{B:List NMsg}
 (h1:offFrom (nodes v).off j++chan (T.nb v j) v=offFrom X j++m::B) (h2:offFrom (X++Y) j++chan' (T.nb v j) v=offFrom X j++B) (h3:∀k,k<T.dg v→k≠j→offFrom (X++Y) k++chan' (T.nb v k) v=offFrom (nodes v).off k++chan (T.nb v k) v) (h4:∀x y,y≠v→chan' x y=chan x y)
 (hX:∀c∈X,((nodes v).act c.1 c.2).2=false) (h5:∀c,c∈X++Y→c∈(nodes v).off) (ht:((nodes v).act j m).2=true):
 Net G T K (fun x=>x≠v) (upd nodes v { ((nodes v).act j m).1 with off:=X++Y}) chan':=by
 obtain⟨P,hP,hl⟩:=h.good
 have hs:=same_act (nodes v) j m
 have hA:∀a∈offFrom X j,((nodes v).act j a).2=false:=fun a ha=>hX (j,a) (mem_offFrom.1 ha)
 have hz:(nodes v).state=0→X++Y=[]:=fun e=>by
  apply List.eq_nil_iff_forall_not_mem.2
  intro c hc
  have:=h5 c hc
  rw[h.slp v e]at this;cases this
 have hg:=act_ok2 hsm hdg hP hj (by rw[hl v j hj,h1]) hA (fun e=>by
  have:=hz e
  have:X=[]:=List.append_eq_nil_iff.1 this |>.1
  rw[this];rfl) ht
 refine⟨⟨_,hg.off (X++Y),fun x k hk=>?_⟩,fun x c hc=>?_,fun x e=>?_,fun x hx=>?_⟩
 ·simp only[upd2]
  by_cases e:x=v
  ·subst e
   rw[upd_at]
   by_cases e2:k=j
   ·subst e2
    simp only[and_self,if_true]
    exact h2.symm
   ·have:T.nb x k≠T.nb x j:=fun e3=>e2 (T.inj x _ _ hk hj e3)
    rw[if_neg (fun e3=>this e3.1),hl x k hk]
    exact(h3 k hk e2).symm
  ·rw[if_neg (fun e3=>e e3.2),upd_ne _ _ e,h4 _ _ e]
   exact hl x k hk
 ·by_cases e:x=v
  ·subst e;rw[upd_at]at hc;exact h.rng _ _ (h5 c hc)
  ·rw[upd_ne _ _ e]at hc;exact h.rng _ _ hc
 ·by_cases e2:x=v
  ·subst e2
   rw[upd_at]at e⊢
   refine hz ?_
   apply Classical.byContradiction
   intro e3
   exact hs.2 e3 e
  ·rw[upd_ne _ _ e2]at e⊢;exact h.slp _ e
 ·rw[upd_ne _ _ hx];exact h.stb x hx
theorem Net.offs{G:Gr}{T:Top G}{K:Nat}(hsm:G.n<2 ^ 30)(hdg:∀u,T.dg u<2 ^ 30){v:Nat}:∀(f:Nat) {nodes:Nat→Nod} {chan:Nat→Nat→List NMsg},Net G T K (fun x=>x≠v) nodes chan→(nodes v).off.length<f→Net G T K (fun _=>True) (upd nodes v ((nodes v).offs f)) chan
 |0,nodes,chan,h,hf=>by omega
 |f+1,nodes,chan,h,hf=>by
  rw[Nod.offs]
  by_cases e0:(nodes v).state=0
  ·have e1:=h.slp v e0
   have e2:(nodes v).oneOff (nodes v).off.length 0=(nodes v,false):=by rw[e1];rfl
   rw[e2]
   simp only[Bool.false_eq_true,if_false]
   rw[upd_self]
   refine⟨h.good,h.rng,h.slp,fun x _=>?_⟩
   by_cases e3:x=v
   ·subst e3;intro c hc;rw[e1]at hc;cases hc
   ·exact h.stb x e3
  ·rcases oneOff_spec e0 (nodes v).off.length 0 (by omega) (fun i hi=>by omega)with⟨e1,e2⟩|⟨X,c,Y,e1,e2,e3,e4⟩
   ·rw[e1]
    simp only[Bool.false_eq_true,if_false]
    rw[upd_self]
    refine⟨h.good,h.rng,h.slp,fun x _=>?_⟩
    by_cases e3:x=v
    ·subst e3;exact e2
    ·exact h.stb x e3
   ·rw[e4]
    simp only[if_true]
    have hc:c.1<T.dg v:=h.rng v c (by rw[e1];simp)
    have h1:=Net.step hsm hdg (chan':=chan) (m:=c.2) (X:=X) (Y:=Y) (B:=offFrom Y c.1++chan (T.nb v c.1) v) h hc
     (by rw[e1,offFrom_app,offFrom_cons];simp) (by rw[offFrom_app];simp) (fun k hk hkc=>by rw[e1,offFrom_app,offFrom_app,offFrom_cons,if_neg (fun e=>hkc e.symm)];simp) (fun _ _ _=>rfl) e2 (fun d hd=>by rw[e1];simp at hd⊢;rcases hd with hd|hd<;>simp[hd]) e3
    have h2:=Net.offs hsm hdg f h1 (by rw[upd_at];rw[e1]at hf;simp at hf⊢;omega)
    rw[upd_at,upd_upd]at h2
    exact h2
theorem Net.take{G:Gr}{T:Top G}{K:Nat}(hsm:G.n<2 ^ 30)(hdg:∀u,T.dg u<2 ^ 30){nodes:Nat→Nod}{chan:Nat→Nat→List NMsg}(h:Net G T K (fun _=>True) nodes chan){v j:Nat}(hj:j<T.dg v){m:Fr.Msg}{r:List NMsg}(hc:chan (T.nb v j) v=typed m::r):
 Net G T K (fun _=>True) (upd nodes v ((nodes v).take j m)) (upd2 chan (T.nb v j) v r):=by
 unfold Nod.take
 have hk:∀k,k<T.dg v→k≠j→upd2 chan (T.nb v j) v r (T.nb v k) v=chan (T.nb v k) v:=fun k hk hkj=>by
  have:T.nb v k≠T.nb v j:=fun e3=>hkj (T.inj v _ _ hk hj e3)
  simp[upd2,this]
 have hv:∀x y,y≠v→upd2 chan (T.nb v j) v r x y=chan x y:=fun x y hy=>by simp[upd2,hy]
 have hr:upd2 chan (T.nb v j) v r (T.nb v j) v=r:=by simp[upd2]
 have hs:=same_act (nodes v) j (typed m)
 by_cases e:((nodes v).act j (typed m)).2=true
 ·rw[if_pos e]
  have h0:Net G T K (fun x=>x≠v) nodes chan:=⟨h.good,h.rng,h.slp,fun x _=>h.stb x trivial⟩
  have h1:=Net.step hsm hdg (chan':=upd2 chan (T.nb v j) v r) (m:=typed m) (X:=(nodes v).off) (Y:=[]) (B:=r) h0 hj
   (by rw[hc]) (by rw[hr,List.append_nil]) (fun k hk1 hk2=>by rw[hk k hk1 hk2,List.append_nil]) hv (h.stb v trivial) (fun c hc=>by simpa using hc) e
  have e2:({ ((nodes v).act j (typed m)).1 with off:=(nodes v).off++[]}:Nod)=((nodes v).act j (typed m)).1:=by
   rw[List.append_nil,←hs.1]
  rw[e2]at h1
  have h2:=Net.offs hsm hdg (((nodes v).act j (typed m)).1.off.length+1) h1 (by rw[upd_at];omega)
  rw[upd_at,upd_upd]at h2
  exact h2
 ·rw[if_neg e]
  have e':((nodes v).act j (typed m)).2=false:=by simpa using e
  obtain⟨f1,f2⟩:=act_false e'
  rw[f1]
  have h1:=h.wake v
  obtain⟨P,hP,hl⟩:=h1.good
  have hw:=same_wake (nodes v)
  refine⟨⟨P,hP.off _,fun x k hk1=>?_⟩,fun x c hcm=>?_,fun x e2=>?_,fun x _=>?_⟩
  ·rw[hl x k hk1]
   by_cases e2:x=v
   ·subst e2
    rw[upd_at,upd_at]
    dsimp only
    rw[offFrom_app,offFrom_cons]
    by_cases e3:k=j
    ·subst e3;rw[hr,hc];simp[offFrom]
    ·rw[hk k hk1 e3,if_neg (fun e4=>e3 e4.symm)];simp[offFrom]
   ·rw[upd_ne _ _ e2,upd_ne _ _ e2,hv _ _ e2]
  ·by_cases e2:x=v
   ·subst e2
    rw[upd_at]at hcm
    simp at hcm
    rcases hcm with hcm|hcm
    ·rw[hw.1]at hcm;exact h.rng _ _ hcm
    ·rw[hcm];exact hj
   ·rw[upd_ne _ _ e2]at hcm;exact h.rng _ _ hcm
  ·by_cases e3:x=v
   ·subst e3;rw[upd_at]at e2;exact(wake_state _ e2).elim
   ·rw[upd_ne _ _ e3]at e2⊢;exact h.slp _ e2
  ·by_cases e3:x=v
   ·subst e3
    have hst:=h1.stb x trivial
    rw[upd_at]at hst
    rw[upd_at]
    intro c hcm
    rw[act_off2]
    simp at hcm
    rcases hcm with hcm|hcm
    ·exact hst c hcm
    ·rw[hcm];exact f2
   ·rw[upd_ne _ _ e3];exact h.stb x trivial
theorem Net.start(G:Gr)(T:Top G)(nodes:Nat→Nod)(hn:∀u,nodes u=Nod.new ((List.range (T.dg u)).map (fun j=>G.w u (T.nb u j)))):Net G T 0 (fun _=>True) nodes (fun _ _=>[]):=by
 have h1:∀u,(nodes u).off=[]:=fun u=>by rw[hn];rfl
 refine⟨⟨fun _ _=>[],⟨⟨⟨fun _=>false,fun _=>0,fun _=>0,fun _=>false,fun _ _=>0,fun _=>none,fun _=>none,fun _=>1001,fun _=>none,fun _=>0,fun _=>false,fun _ _=>[]⟩,g0,h0,⟨fun u=>?_,fun u j hj=>?_,(fun u v w hm=>by cases hm)⟩,?_,fun _ e=>e,fun _ e=>e⟩,fun u=>by rw[hn];exact⟨by simp[Nod.new],fun e=>by simp[Nod.new]at e⟩⟩,(fun v j hj=>by rw[h1];rfl)⟩,(fun v c hc=>by rw[h1]at hc;cases hc),fun v _=>h1 v,(fun v _ c hc=>by rw[h1]at hc;cases hc)⟩
 ·rw[hn]
  have hst:∀j,j<T.dg u→(Nod.new ((List.range (T.dg u)).map (fun j=>G.w u (T.nb u j)))).edges[j]?=some (G.w u (T.nb u j),0):=fun j hj=>by
   simp[Nod.new,List.getElem?_range,hj]
  refine⟨by simp[Nod.new],rfl,rfl,by simp[Nod.new],by simp[Nod.new],fun j hj=>?_,fun j hj=>?_,rfl,(fun j e=>by cases e),rfl,(fun j e=>by cases e),rfl,(fun j e=>by cases e),rfl,rfl,rfl,by simp[Nod.new]⟩
  ·simp only[Nod.st,hst j hj]
  ·simp only[Nod.wt,hst j hj]
 ·rw[hn];rfl
 ·exact x_start G nodes (fun u=>by rw[hn];rfl) (fun _=>rfl) (fun _=>rfl) (fun _=>rfl) (fun _ _=>rfl) (fun _=>rfl) (fun _=>rfl) (fun _=>rfl) (fun _ _=>rfl) (fun _=>Nat.le_refl _)
theorem Net.flush{G:Gr}{T:Top G}{K:Nat}{Q:Nat→Prop}{nodes:Nat→Nod}{chan chan':Nat→Nat→List NMsg}(h:Net G T K Q nodes chan){u:Nat}(hu:u<G.n)(h1:∀j,j<T.dg u→chan' u (T.nb u j)=chan u (T.nb u j)++sentTo (nodes u) j)(h2:∀x,x≠u→chan' x=chan x):
 Net G T (K+(nodes u).sent.length) Q (upd nodes u { nodes u with sent:=[]}) chan':=by
 obtain⟨P,⟨⟨s,g,h',hR,hI,a,b⟩,hN⟩,hl⟩:=h.good
 have hI2:Inx G (K+(nodes u).sent.length) (upd nodes u { nodes u with sent:=[]}) s g h':=by
  refine⟨hI.inv,hI.pro,?_⟩
  have e1:=sn (nodes:=nodes) (n:={ nodes u with sent:=[]}) (n':=nodes u) (d:=(nodes u).sent.length) hu (by simp)
  rw[upd_self]at e1
  have e2:K+(nodes u).sent.length+sentN G (upd nodes u { nodes u with sent:=[]})=K+sentN G nodes:=by omega
  rw[e2]
  exact hI.cnt
 have ho:∀v,(upd nodes u { nodes u with sent:=[]} v).off=(nodes v).off:=fun v=>by
  by_cases e:v=u
  ·subst e;rw[upd_at]
  ·rw[upd_ne _ _ e]
 refine⟨⟨fun x y=>if x=u then s.q u y else P x y,⟨⟨s,g,h',⟨fun x=>?_,fun x j hj=>?_,hR.rp⟩,hI2,a,b⟩,np_upd hN (np_of (hN u) rfl rfl rfl)⟩,fun v j hj=>?_⟩,fun v c hc=>?_,fun v e=>?_,fun v hv=>?_⟩
 ·have h0:=hR.nr x
  by_cases e:x=u
  ·subst e;rw[upd_at]
   exact⟨h0.aw,h0.lev,h0.nam,h0.fnd,h0.len,h0.se,h0.wt,h0.inn,h0.innl,h0.best,h0.bestl,h0.tst,h0.tstl,h0.bw,h0.cnt,h0.over,h0.bw1⟩
  ·rw[upd_ne _ _ e];exact h0
 ·by_cases e:x=u
  ·subst e;rw[upd_at,if_pos rfl];simp[sentTo]
  ·rw[upd_ne _ _ e,if_neg e];exact hR.q x j hj
 ·rw[ho]
  dsimp only
  by_cases e:T.nb v j=u
  ·rw[if_pos e,e]
   have ha:=G.sym _ _ (T.adj v j hj)
   rw[e]at ha
   obtain⟨k,hk,rfl⟩:=T.sur u v ha
   have h3:=hl (T.nb u k) j hj
   rw[e]at h3
   rw[h1 k hk,hR.q u k hk,h3,List.append_assoc]
  ·rw[if_neg e,h2 _ e];exact hl v j hj
 ·rw[ho]at hc;exact h.rng v c hc
 ·rw[ho]
  refine h.slp v ?_
  by_cases e2:v=u
  ·subst e2;rw[upd_at]at e;exact e
  ·rw[upd_ne _ _ e2]at e;exact e
 ·by_cases e:v=u
  ·subst e
   rw[upd_at]
   intro c hc
   have h3:=h.stb v hv c hc
   have:∀(n:Nod) (j:Nat) (m:NMsg),(({ n with sent:=[]}:Nod).act j m).2=(n.act j m).2:=fun n j m=>by
    have hw:(({ n with sent:=[]}:Nod).wake).level=n.wake.level∧(({ n with sent:=[]}:Nod).wake).edges=n.wake.edges∧(({ n with sent:=[]}:Nod).wake).name=n.wake.name∧(({ n with sent:=[]}:Nod).wake).tested=n.wake.tested:=by
     unfold Nod.wake
     dsimp only
     split
     ·have e:({ n with level:=0,state:=2,count:=0,sent:=[]}:Nod).light=({ n with level:=0,state:=2,count:=0}:Nod).light:=rfl
      rw[e]
      split<;>exact⟨rfl,rfl,rfl,rfl⟩
     ·exact⟨rfl,rfl,rfl,rfl⟩
    have hst:∀k,(({ n with sent:=[]}:Nod).wake).st k=n.wake.st k:=fun k=>by simp only[Nod.st,hw.2.1]
    cases m with
    |connect l=>
     simp only[Nod.act,Nod.connect,hw.1,hst]
     split
     ·rfl
     ·split<;>rfl
    |initiate l nm f=>rfl
    |test l nm=>
     simp only[Nod.act,Nod.test,hw.1,hw.2.2.1,hw.2.2.2]
     split
     ·rfl
     ·split
      ·rfl
      ·split<;>rfl
    |accept=>rfl
    |reject=>rfl
    |report w=>
     simp only[Nod.act,Nod.report]
     split
     ·split
      ·rfl
      ·split
       ·rfl
       ·split<;>rfl
     ·rfl
    |root=>rfl
   rw[this];exact h3
  ·rw[upd_ne _ _ e];exact h.stb v hv
end Go.Proofs.YtlfijfodklhplaaGreat.Ghs.V
