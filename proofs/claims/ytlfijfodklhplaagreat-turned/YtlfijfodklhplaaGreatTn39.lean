import Derived.Test.YtlfijfodklhplaaGreatTn38
set_option linter.unusedVariables false
set_option linter.unusedSimpArgs false
namespace Go.Proofs.YtlfijfodklhplaaGreat.Ghs
open Go.RowKit
open NMsg
theorem Inv.untk{G:Gr}{s:St}{g:Gh}{h:Gs}(hI:Inv G s g h)(u:Nat):Inv G s g { h with tk:=fun z=>z≠u∧h.tk z}:=by
 obtain⟨q0,st,rp,ts,bs,pa⟩:=hI
 exact⟨q0,st,rp,ts,⟨bs.bb,fun z hz=>bs.k1 z hz.2,bs.k2,bs.ov⟩,⟨pa.p1,pa.u1,fun z hz=>pa.k3 z hz.2,pa.k4⟩⟩
theorem Inv.cnt_le{G:Gr}{s:St}{g:Gh}{h:Gs}(hI:Inv G s g h)(u:Nat):s.cnt u≤G.n:=by
 cases e:s.fnd u
 ·rw[hI.rp.s6 u e];exact Nat.zero_le _
 ·obtain⟨l,l1,l2,l3⟩:=hI.rp.ct u e
  rw[←l2]
  refine nodup_len _ l l1 fun x hx=>?_
  have h1:=((l3 x).1 hx).1.1
  have h2:=hI.st.pr _ _ h1
  exact G.lt _ _ (hI.st.sa x u (by have:=h2.1;omega)).1
theorem wrap_id{x:Int}(h1:-2≤x)(h2:x<2 ^ 60):wrap64 x=x:=by
 unfold wrap64
 omega
theorem Inv.repKid{G:Gr}{s:St}{g:Gh}{h:Gs}(hI:Inv G s g h){x y w:Nat}{A B:List NMsg}(hq:s.q y x=A++report w::B)(hA:inits A=[])(hx:s.inn x≠some y):s.fnd x=true∧1≤s.cnt x:=by
 have hm:report w∈kR s.q y x:=by simp only[kR,hq];simp[isRep]
 rcases hI.rp.r1 x y w hm with⟨a1,a2,a3,a4,a5,a6,a7,a8⟩|a
 ·obtain⟨b1,b2,b3,b4⟩:=hI.live hq hA a1 a2 a3 a8
  have hk:kid g x y:=⟨a2,fun e=>hx (by rw[hI.rp.si x b2 b1];exact e)⟩
  have hf:=a7 hk
  refine⟨hf,?_⟩
  obtain⟨l,l1,l2,l3⟩:=hI.rp.ct x hf
  have:=List.length_pos_of_mem ((l3 y).2 ⟨hk,Or.inr ⟨w,hm⟩⟩)
  omega
 ·exact(hx a.2.1).elim
def outs(n:Nod)(fr k j:Nat):List Nat:=(List.range' j k).filter (fun i=>decide (i≠fr∧n.st i=1))
theorem spreads_eq(fr l nm:Nat)(f:Bool):∀(k j:Nat) (n:Nod),0≤n.count→n.count+k<2 ^ 60→
 n.spreads fr l nm f k j={ n with sent:=n.sent++(outs n fr k j).map (fun i=>(i,(initiate l nm f).plain)),count:=if f then n.count+(outs n fr k j).length else n.count}
 |0,j,n,h1,h2=>by
  simp[Nod.spreads,outs]
 |k+1,j,n,h1,h2=>by
  rw[Nod.spreads]
  by_cases c:j≠fr∧n.st j=1
  ·rw[if_pos c]
   have eo:outs n fr (k+1) j=j::outs n fr k (j+1):=by
    simp only[outs,List.range'_succ,List.filter_cons,decide_eq_true c,if_true]
   cases f
   ·have:=spreads_eq fr l nm false k (j+1) (n.spread j l nm false) h1 (by show n.count+k<_;omega)
    rw[this,eo]
    have e2:outs (n.spread j l nm false) fr k (j+1)=outs n fr k (j+1):=rfl
    rw[e2]
    simp[Nod.spread,Nod.send]
   ·have ew:wrap64 (n.count+1)=n.count+1:=wrap_id (by omega) (by omega)
    have ec:(n.spread j l nm true).count=n.count+1:=by simp[Nod.spread,ew]
    have:=spreads_eq fr l nm true k (j+1) (n.spread j l nm true) (by omega) (by omega)
    rw[this,eo,ec]
    have e2:outs (n.spread j l nm true) fr k (j+1)=outs n fr k (j+1):=rfl
    rw[e2]
    simp[Nod.spread,Nod.send]
    omega
  ·rw[if_neg c]
   have eo:outs n fr (k+1) j=outs n fr k (j+1):=by
    simp only[outs,List.range'_succ,List.filter_cons,decide_eq_false c];rfl
   rw[spreads_eq fr l nm f k (j+1) n h1 (by omega),eo]
theorem fil_one:∀(l:List Nat) (i:Nat),l.Nodup→l.filter (fun c=>c==i)=if i∈l then [i]else []
 |[],i,_=>by simp
 |a::t,i,h=>by
  have h1:=List.nodup_cons.1 h
  have h2:=fil_one t i h1.2
  by_cases e:a=i
  ·subst e
   simp[h2,h1.1]
  ·have e':¬i=a:=fun x=>e x.symm
   simp[e,e',h2]
theorem outs_nodup(n:Nod)(fr k j:Nat):(outs n fr k j).Nodup:=List.Pairwise.filter _ (List.nodup_range')
theorem outs_mem(n:Nod)(fr k i:Nat):i∈outs n fr k 0↔i<k∧i≠fr∧n.st i=1:=by
 simp[outs,List.mem_range']
theorem sentTo_outs(n:Nod)(L:List Nat)(hL:L.Nodup)(m:NMsg)(hm:∀w,m=report w→1≤w)(c:Int)(i:Nat):sentTo { n with sent:=n.sent++L.map (fun i=>(i,m.plain)),count:=c} i=sentTo n i++(if i∈L then [m]else []):=by
 simp only[sentTo,List.filter_append,List.map_append]
 congr 1
 have:(L.map (fun i=>(i,m.plain))).filter (fun c=>c.1==i)=(L.filter (fun c=>c==i)).map (fun i=>(i,m.plain)):=by
  rw[List.filter_map];rfl
 rw[this,fil_one L i hL]
 split<;>simp[typed_plain hm]
theorem wake_state(n:Nod):n.wake.state≠0:=by
 unfold Nod.wake
 split
 ·split
  ·simp
  ·simp[Nod.send,Nod.setSt]
 ·assumption
theorem wake_of{n:Nod}(h:n.state≠0):n.wake=n:=by simp[Nod.wake,h]
theorem wake_wake(n:Nod):n.wake.wake=n.wake:=wake_of (wake_state n)
theorem connect_wake(n:Nod)(j l:Nat):n.wake.connect j l=n.connect j l:=by unfold Nod.connect;rw[wake_wake]
theorem test_wake(n:Nod)(j l m:Nat):n.wake.test j l m=n.test j l m:=by unfold Nod.test;rw[wake_wake]
theorem upd_upd{α:Type}(f:Nat→α)(a:Nat)(x y:α):upd (upd f a x) a y=upd f a y:=by
 funext b;simp only[upd];split<;>rfl
theorem act_false{n:Nod}{j:Nat}{m:NMsg}(h:(n.act j m).2=false):(n.act j m).1=n.wake∧((n.wake).act j m).2=false:=by
 cases m with
 |connect l=>
  simp only[Nod.act,connect_wake]
  refine⟨?_,h⟩
  simp only[Nod.act,Nod.connect]at h⊢
  split
  ·rename_i e;rw[if_pos e]at h;cases h
  ·rename_i e;rw[if_neg e]at h
   split
   ·rfl
   ·rename_i e2;rw[if_neg e2]at h;cases h
 |initiate l nm f=>simp[Nod.act]at h
 |test l nm=>
  simp only[Nod.act,test_wake]
  refine⟨?_,h⟩
  simp only[Nod.act,Nod.test]at h⊢
  split
  ·rfl
  ·rename_i e;rw[if_neg e]at h
   split
   ·rename_i e2;rw[if_pos e2]at h;cases h
   ·rename_i e2;rw[if_neg e2]at h
    split
    ·rename_i e3;rw[if_pos e3]at h;cases h
    ·rename_i e3;rw[if_neg e3]at h;cases h
 |accept=>simp[Nod.act]at h
 |reject=>simp[Nod.act]at h
 |report w=>
  simp only[Nod.act,Nod.report]at h
  by_cases c1:n.inn=some j
  ·by_cases c2:n.state=1
   ·have e:=wake_of (n:=n) (by omega)
    rw[e]
    simp[Nod.act,Nod.report,c1,c2]
   ·rw[if_pos c1,if_neg c2]at h
    split at h
    ·cases h
    ·split at h<;>cases h
  ·rw[if_neg c1]at h;cases h
 |root=>simp[Nod.act]at h
def Same(n n':Nod):Prop:=n'.off=n.off∧(n.state≠0→n'.state≠0)
theorem Same.refl(n:Nod):Same n n:=⟨rfl,id⟩
theorem Same.trans{a b c:Nod}(h:Same a b)(k:Same b c):Same a c:=⟨k.1.trans h.1,fun e=>k.2 (h.2 e)⟩
theorem same_send(n:Nod)(j:Nat)(m:NMsg):Same n (n.send j m):=⟨rfl,id⟩
theorem same_set(n:Nod)(j x:Nat):Same n (n.setSt j x):=⟨rfl,id⟩
theorem same_wake(n:Nod):Same n n.wake:=by
 unfold Nod.wake
 split
 ·split
  ·exact⟨rfl,fun _=>by simp⟩
  ·exact⟨rfl,fun _=>by simp[Nod.send,Nod.setSt]⟩
 ·exact Same.refl n
theorem same_spread(n:Nod)(j l nm:Nat)(f:Bool):Same n (n.spread j l nm f):=by
 unfold Nod.spread;split
 ·exact⟨rfl,id⟩
 ·exact⟨rfl,id⟩
theorem same_reports(n:Nod):Same n n.reports:=by
 unfold Nod.reports;split
 ·split
  ·exact⟨rfl,fun _=>by simp⟩
  ·exact⟨rfl,fun _=>by simp[Nod.send]⟩
 ·exact Same.refl n
theorem same_tests(n:Nod):Same n n.tests:=by
 unfold Nod.tests;split
 ·exact Same.trans ⟨rfl,id⟩ (same_reports _)
 ·exact⟨rfl,id⟩
theorem same_spreads(fr l nm:Nat)(f:Bool):∀(k j:Nat) (n:Nod),Same n (n.spreads fr l nm f k j)
 |0,j,n=>Same.refl n
 |k+1,j,n=>by
  unfold Nod.spreads
  refine Same.trans ?_ (same_spreads fr l nm f k (j+1) _)
  split
  ·exact same_spread _ _ _ _ _
  ·exact Same.refl n
theorem same_reject(n:Nod)(j:Nat):Same n (n.reject j):=by
 unfold Nod.reject;split
 ·exact same_set _ _ _
 ·exact Same.refl n
theorem same_hear(n:Nod)(j w:Nat):Same n (n.hear j w):=by
 unfold Nod.hear;split
 ·exact⟨rfl,id⟩
 ·exact Same.refl n
theorem same_root(n:Nod):Same n n.changeRoot:=by
 unfold Nod.changeRoot;split
 ·exact Same.refl n
 ·split
  ·exact⟨rfl,id⟩
  ·exact⟨rfl,id⟩
theorem same_act(n:Nod)(j:Nat)(m:NMsg):Same n (n.act j m).1:=by
 cases m with
 |connect l=>
  simp only[Nod.act,Nod.connect]
  refine Same.trans (same_wake n) ?_
  split
  ·exact Same.trans (same_set _ j 1) (same_spread _ _ _ _ _)
  ·split
   ·exact Same.refl _
   ·exact same_send _ _ _
 |initiate l nm f=>
  simp only[Nod.act,Nod.initiate]
  have h1:Same n ({ n with level:=l,name:=nm,state:=if f then 1 else 2,inn:=some j,best:=none,bw:=1001}:Nod):=⟨rfl,fun _=>by cases f<;>simp⟩
  have h2:=Same.trans h1 (same_spreads j l nm f n.edges.length 0 _)
  cases f
  ·exact h2
  ·exact Same.trans h2 (same_tests _)
 |test l nm=>
  simp only[Nod.act,Nod.test]
  refine Same.trans (same_wake n) ?_
  split
  ·exact Same.refl _
  ·split
   ·exact same_send _ _ _
   ·split
    ·exact Same.trans (same_reject _ _) (same_tests _)
    ·exact Same.trans (same_reject _ _) (same_send _ _ _)
 |accept=>
  simp only[Nod.act,Nod.accept]
  have h1:Same n ({ n with tested:=none}:Nod):=⟨rfl,id⟩
  exact Same.trans (Same.trans h1 (same_hear _ _ _)) (same_reports _)
 |reject=>exact Same.trans (same_reject _ _) (same_tests _)
 |report w=>
  simp only[Nod.act,Nod.report]
  split
  ·split
   ·exact Same.refl _
   ·split
    ·exact same_root _
    ·split
     ·exact⟨rfl,id⟩
     ·exact Same.refl _
  ·have h1:Same n ({ n with count:=wrap64 (n.count - 1)}:Nod):=⟨rfl,id⟩
   exact Same.trans (Same.trans h1 (same_hear _ _ _)) (same_reports _)
 |root=>exact same_root _
theorem wake_off(n:Nod)(x:List (Nat×NMsg)):({ n with off:=x}:Nod).wake={ n.wake with off:=x}:=by
 unfold Nod.wake
 dsimp only
 split
 ·have e:({ n with level:=0,state:=2,count:=0,off:=x}:Nod).light=({ n with level:=0,state:=2,count:=0}:Nod).light:=rfl
  rw[e]
  split<;>rfl
 ·rfl
theorem act_off2(n:Nod)(x:List (Nat×NMsg))(j:Nat)(m:NMsg):(({ n with off:=x}:Nod).act j m).2=(n.act j m).2:=by
 cases m with
 |connect l=>
  simp only[Nod.act,Nod.connect,wake_off]
  split
  ·rfl
  ·have e:({ n.wake with off:=x}:Nod).st j=n.wake.st j:=rfl
   rw[e]
   split<;>rfl
 |initiate l nm f=>rfl
 |test l nm=>
  simp only[Nod.act,Nod.test,wake_off]
  split
  ·rfl
  ·split
   ·rfl
   ·split<;>rfl
 |accept=>rfl
 |reject=>rfl
 |report w=>
  simp only[Nod.act,Nod.report]
  split
  ·split
   ·rfl
   ·split
    ·rfl
    ·split<;>rfl
  ·rfl
 |root=>rfl
def offFrom(l:List (Nat×NMsg))(j:Nat):List NMsg:=(l.filter (fun c=>c.1==j)).map (fun c=>c.2)
def Stable(n:Nod):Prop:=∀c∈n.off,(n.act c.1 c.2).2=false
structure Net(G:Gr)(T:Top G)(Q:Nat→Prop)(nodes:Nat→Nod)(chan:Nat→Nat→List NMsg):Prop where
 good:∃P,Good G T nodes P∧∀v j,j<T.dg v→P (T.nb v j) v=offFrom (nodes v).off j++chan (T.nb v j) v
 rng:∀v c,c∈(nodes v).off→c.1<T.dg v
 slp:∀v,(nodes v).state=0→(nodes v).off=[]
 stb:∀v,Q v→Stable (nodes v)
theorem offFrom_app(a b:List (Nat×NMsg))(j:Nat):offFrom (a++b) j=offFrom a j++offFrom b j:=by simp[offFrom]
theorem offFrom_cons(c:Nat×NMsg)(b:List (Nat×NMsg))(j:Nat):offFrom (c::b) j=(if c.1=j then [c.2]else [])++offFrom b j:=by
 by_cases e:c.1=j<;>simp[offFrom,e]
theorem mem_offFrom{l:List (Nat×NMsg)}{j:Nat}{m:NMsg}:m∈offFrom l j↔(j,m)∈l:=by
 simp only[offFrom,List.mem_map,List.mem_filter]
 constructor
 ·rintro⟨⟨a,b⟩,⟨h1,h2⟩,rfl⟩
  simp at h2;subst h2;exact h1
 ·intro h;exact⟨(j,m),⟨h,by simp⟩,rfl⟩
theorem oneOff_spec{n:Nod}(hn:n.state≠0):∀(f k:Nat),n.off.length≤k+f→(∀i,i<k→∀c,n.off[i]?=some c→(n.act c.1 c.2).2=false)→
 (n.oneOff f k=(n,false)∧Stable n)∨∃X c Y,n.off=X++c::Y∧(∀d∈X,(n.act d.1 d.2).2=false)∧(n.act c.1 c.2).2=true∧n.oneOff f k=({ (n.act c.1 c.2).1 with off:=X++Y},true)
 |0,k,h1,h2=>by
  left
  refine⟨rfl,fun c hc=>?_⟩
  obtain⟨i,hi,rfl⟩:=List.getElem_of_mem hc
  exact h2 i (by omega) _ (List.getElem?_eq_getElem hi)
 |f+1,k,h1,h2=>by
  rw[Nod.oneOff]
  cases e:n.off[k]? with
  |none=>
   left
   refine⟨rfl,fun c hc=>?_⟩
   obtain⟨i,hi,rfl⟩:=List.getElem_of_mem hc
   have:=List.getElem?_eq_none_iff.1 e
   exact h2 i (by omega) _ (List.getElem?_eq_getElem hi)
  |some c=>
   obtain⟨hk,hc⟩:=List.getElem?_eq_some_iff.1 e
   dsimp only
   by_cases e2:(n.act c.1 c.2).2=true
   ·right
    rw[if_pos e2]
    refine⟨n.off.take k,c,n.off.drop (k+1),?_,?_,e2,?_⟩
    ·rw[←hc,List.getElem_cons_drop,List.take_append_drop]
    ·intro d hd
     obtain⟨i,hi,rfl⟩:=List.getElem_of_mem hd
     rw[List.length_take]at hi
     rw[List.getElem_take]
     exact h2 i (by omega) _ (List.getElem?_eq_getElem (by omega))
    ·rw[(same_act n c.1 c.2).1,List.eraseIdx_eq_take_drop_succ]
   ·rw[if_neg e2]
    have e3:(n.act c.1 c.2).2=false:=by simpa using e2
    have e4:=(act_false e3).1
    rw[wake_of hn]at e4
    rw[e4]
    refine oneOff_spec hn f (k+1) (by omega) (fun i hi d hd=>?_)
    by_cases e5:i=k
    ·subst e5;rw[e]at hd;cases hd;exact e3
    ·exact h2 i (by omega) d hd
theorem Net.start(G:Gr)(T:Top G)(nodes:Nat→Nod)(hn:∀u,nodes u=Nod.new ((List.range (T.dg u)).map (fun j=>G.w u (T.nb u j)))):Net G T (fun _=>True) nodes (fun _ _=>[]):=by
 have h1:∀u,(nodes u).off=[]:=fun u=>by rw[hn];rfl
 refine⟨⟨fun _ _=>[],⟨⟨fun _=>false,fun _=>0,fun _=>0,fun _=>false,fun _ _=>0,fun _=>none,fun _=>none,fun _=>1001,fun _=>none,fun _=>0,fun _=>false,fun _ _=>[]⟩,g0,h0,⟨fun u=>?_,fun u j hj=>?_,(fun u v w hm=>by cases hm)⟩,?_,fun _ e=>e,fun _ e=>e⟩,(fun v j hj=>by rw[h1];rfl)⟩,(fun v c hc=>by rw[h1]at hc;cases hc),fun v _=>h1 v,(fun v _ c hc=>by rw[h1]at hc;cases hc)⟩
 ·rw[hn]
  have hst:∀j,j<T.dg u→(Nod.new ((List.range (T.dg u)).map (fun j=>G.w u (T.nb u j)))).edges[j]?=some (G.w u (T.nb u j),0):=fun j hj=>by
   simp[Nod.new,List.getElem?_range,hj]
  refine⟨by simp[Nod.new],rfl,rfl,by simp[Nod.new],by simp[Nod.new],fun j hj=>?_,fun j hj=>?_,rfl,(fun j e=>by cases e),rfl,(fun j e=>by cases e),rfl,(fun j e=>by cases e),rfl,rfl,rfl,by simp[Nod.new]⟩
  ·simp only[Nod.st,hst j hj]
  ·simp only[Nod.wt,hst j hj]
 ·rw[hn];rfl
 ·exact inv_start G (fun _=>rfl) (fun _=>rfl) (fun _ _=>rfl) (fun _=>rfl) (fun _=>rfl) (fun _=>rfl) (fun _ _=>rfl) (fun _=>Nat.le_refl _)
theorem Net.branch{G:Gr}{T:Top G}{Q:Nat→Prop}{nodes:Nat→Nod}{chan:Nat→Nat→List NMsg}(h:Net G T Q nodes chan){u j:Nat}(hj:j<T.dg u)(e:(nodes u).st j=1):G.mst u (T.nb u j)∨G.mst (T.nb u j) u:=by
 obtain⟨P,⟨s,g,h',hR,hI,a,b⟩,hl⟩:=h.good
 exact hI.st.mst _ _ (by rw[(hR.nr u).se j hj];exact e)
theorem Net.low{G:Gr}{T:Top G}{Q:Nat→Prop}{nodes:Nat→Nod}{chan:Nat→Nat→List NMsg}(h:Net G T Q nodes chan){u:Nat}(hu:u<G.n):2 ^ (nodes u).level≤G.n:=by
 obtain⟨P,⟨s,g,h',hR,hI,a,b⟩,hl⟩:=h.good
 have h1:=hI.low hu
 have h2:=hI.st.l1 u
 rw[(hR.nr u).lev]at h2
 exact Nat.le_trans (Nat.pow_le_pow_right (by omega) h2) h1
end Go.Proofs.YtlfijfodklhplaaGreat.Ghs
