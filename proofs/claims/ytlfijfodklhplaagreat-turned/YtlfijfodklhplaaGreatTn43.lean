import Derived.Test.YtlfijfodklhplaaGreatTn42
set_option linter.unusedVariables false
set_option linter.unusedSimpArgs false
namespace Go.Proofs.YtlfijfodklhplaaGreat.Ghs
open Go.RowKit
open NMsg
noncomputable def lsOf(A:AN):LS:=⟨fun u=>match A.sps[u]? with|some s=>s.n|none=>Nod.new [],fun u j=>match A.side u j with|some d=>d.2|none=>En.new,A.bag.map (fun x=>(x.f,x.t,frmOf x.l))⟩
theorem nodes_at{A:AN}{u:Nat}{s:AS}(h:A.sps[u]?=some s):(lsOf A).nodes u=s.n:=by simp[lsOf,h]
theorem en_at{A:AN}{u j:Nat}{d:Nat×En}(h:A.side u j=some d):(lsOf A).en u j=d.2:=by simp[lsOf,h]
theorem sps_modE(A:AN)(u j:Nat)(f:En→En)(x:Nat):(A.modE u j f).sps[x]?=(A.sps[x]?).map (fun s=>if u=x then { s with ss:=s.ss.modify j (fun d=>(d.1,f d.2))}else s):=by
 unfold AN.modE
 rw[List.getElem?_modify]
 cases A.sps[x]? <;>simp
theorem sps_modN(A:AN)(u:Nat)(f:Nod→Nod)(x:Nat):(A.modN u f).sps[x]?=(A.sps[x]?).map (fun s=>if u=x then { s with n:=f s.n}else s):=by
 unfold AN.modN
 rw[List.getElem?_modify]
 cases A.sps[x]? <;>simp
theorem side_at(A:AN)(x y:Nat):A.side x y=(A.sps[x]?).bind (fun s=>s.ss[y]?):=rfl
theorem sides_modE(A:AN)(u j:Nat)(f:En→En)(x y:Nat):(A.modE u j f).side x y=(A.side x y).map (fun d=>if u=x∧j=y then (d.1,f d.2)else d):=by
 rw[side_at,side_at,sps_modE]
 cases hs:A.sps[x]? with
 |none=>simp
 |some s=>
  simp only[Option.map_some,Option.bind_some]
  by_cases e:u=x
  ·rw[if_pos e]
   dsimp only
   rw[List.getElem?_modify]
   cases s.ss[y]? with
   |none=>simp
   |some d=>by_cases e2:j=y<;>simp[e,e2]
  ·rw[if_neg e]
   cases s.ss[y]? <;>simp[e]
theorem sides_modN(A:AN)(u:Nat)(f:Nod→Nod)(x y:Nat):(A.modN u f).side x y=A.side x y:=by
 rw[side_at,side_at,sps_modN]
 cases hs:A.sps[x]? with
 |none=>simp
 |some s=>
  simp only[Option.map_some,Option.bind_some]
  split<;>rfl
theorem ls_modE{A:AN}{u j:Nat}{d:Nat×En}(hd:A.side u j=some d)(f:En→En):lsOf (A.modE u j f)=⟨(lsOf A).nodes,upd2 (lsOf A).en u j (f d.2),(lsOf A).bag⟩:=by
 unfold lsOf
 simp only[LS.mk.injEq]
 refine⟨?_,?_,rfl⟩
 ·funext x
  rw[sps_modE]
  cases A.sps[x]? with
  |none=>rfl
  |some s=>simp only[Option.map_some];split<;>rfl
 ·funext x y
  rw[sides_modE]
  simp only[upd2]
  by_cases e:x=u∧y=j
  ·obtain⟨rfl,rfl⟩:=e
   rw[hd];simp
  ·rw[if_neg e]
   have e2:¬(u=x∧j=y):=fun c=>e ⟨c.1.symm,c.2.symm⟩
   cases A.side x y<;>simp[e2]
theorem ls_modN{A:AN}{u:Nat}{s:AS}(hs:A.sps[u]?=some s)(f:Nod→Nod):lsOf (A.modN u f)=⟨upd (lsOf A).nodes u (f s.n),(lsOf A).en,(lsOf A).bag⟩:=by
 unfold lsOf
 simp only[LS.mk.injEq]
 refine⟨?_,?_,rfl⟩
 ·funext x
  rw[sps_modN]
  simp only[upd]
  by_cases e:x=u
  ·subst e;rw[hs];simp
  ·rw[if_neg e]
   have e2:¬(u=x):=fun c=>e c.symm
   cases A.sps[x]? <;>simp[e2]
 ·funext x y
  rw[sides_modN]
structure Sf{G:Gr}(T:Top G)(A:AN):Prop where
 shp:∀u j,(A.side u j).map Prod.fst=if j<T.dg u then some (T.nb u j)else none
 bg:∀x∈A.bag,(x.sp=false→∃f,FrOk f∧x.l=Fr.enc f)∧(x.sp=true→frmOf x.l=none)∧G.adj x.t x.f
 kept:∀u j d,A.side u j=some d→KOk d.2
 wait:∀u j d,A.side u j=some d→∀m∈d.2.wait,MOk m
 out:∀u j d,A.side u j=some d→d.2.out=[]
 well:∀(u:Nat) (s:AS),A.sps[u]?=some s→NWell s.n
def Bd(A:AN)(r:Nat→Nat)(C:Nat):Prop:=∀(u j:Nat) (s:AS) (d:Nat×En),A.sps[u]?=some s→A.side u j=some d→d.2.first+d.2.wait.length+mu s.n+r u≤C
def Qt(A:AN):Prop:=∀(u:Nat) (s:AS),A.sps[u]?=some s→s.n.sent=[]
theorem Sf.at{G:Gr}{T:Top G}{A:AN}(h:Sf T A){u j:Nat}(hj:j<T.dg u):∃d s,A.side u j=some d∧d.1=T.nb u j∧A.sps[u]?=some s:=by
 have h1:=h.shp u j
 rw[if_pos hj]at h1
 obtain⟨d,hd,e⟩:=Option.map_eq_some_iff.1 h1
 obtain⟨s,hs,_⟩:=side_get hd
 exact⟨d,s,hd,e,hs⟩
theorem Sf.lt{G:Gr}{T:Top G}{A:AN}(h:Sf T A){u j:Nat}{d:Nat×En}(hd:A.side u j=some d):j<T.dg u∧d.1=T.nb u j:=by
 have h1:=h.shp u j
 rw[hd]at h1
 simp only[Option.map_some]at h1
 split at h1
 ·rename_i e;exact⟨e,by simpa using h1⟩
 ·cases h1
theorem adds_sps(i t:Nat):∀(l:List Fr.Frm) (A:AN),(A.adds i t l).sps=A.sps∧(A.adds i t l).es=A.es
 |[],A=>⟨rfl,rfl⟩
 |f::r,A=>by
  have h1:=adds_sps i t r (A.add ⟨i,t,Fr.enc f,false⟩)
  have h2:=add_sps A ⟨i,t,Fr.enc f,false⟩
  exact⟨h1.1.trans h2.1,h1.2.trans h2.2⟩
theorem adds_mem(i t:Nat):∀(l:List Fr.Frm) (A:AN) (x:AP),x∈(A.adds i t l).bag→x∈A.bag∨∃f∈l,x=⟨i,t,Fr.enc f,false⟩
 |[],A,x,h=>Or.inl h
 |f::r,A,x,h=>by
  rcases adds_mem i t r (A.add ⟨i,t,Fr.enc f,false⟩) x h with h1|⟨g,h1,h2⟩
  ·rcases mem_add h1 with h2|h2
   ·exact Or.inl h2
   ·exact Or.inr ⟨f,by simp,h2⟩
  ·exact Or.inr ⟨g,by simp[h1],h2⟩
theorem ls_adds{i t:Nat}{l:List Fr.Frm}{A:AN}(hl:∀f∈l,FrOk f):lsOf (A.adds i t l)=⟨(lsOf A).nodes,(lsOf A).en,(lsOf (A.adds i t l)).bag⟩∧∀x y f,(x,y,some f)∈(lsOf (A.adds i t l)).bag→(x,y,some f)∈(lsOf A).bag∨(x=i∧y=t∧f∈l):=by
 have h1:=(adds_sps i t l A).1
 constructor
 ·unfold lsOf
  simp only[LS.mk.injEq,and_true]
  refine⟨?_,?_⟩
  ·funext x;rw[h1]
  ·funext x y;rw[side_at,side_at,h1]
 ·intro x y f hm
  obtain⟨p,hp,e⟩:=List.mem_map.1 hm
  rcases adds_mem i t l A p hp with h2|⟨g,h2,rfl⟩
  ·exact Or.inl (List.mem_map.2 ⟨p,h2,e⟩)
  ·simp only[Prod.mk.injEq]at e
   rw[frmOf_enc (hl g h2)]at e
   obtain⟨e1,e2,e3⟩:=e
   cases e3
   exact Or.inr ⟨e1.symm,e2.symm,h2⟩
theorem carry_ls{G:Gr}{T:Top G}{A:AN}(hS:Sf T A){u j:Nat}{d:Nat×En}(hd:A.side u j=some d)(f:En→En)(ho:∀g∈(f d.2).out,FrOk g)(hk:KOk (f d.2))(hw:∀m∈(f d.2).wait,MOk m):
 ∃bag',lsOf ((A.modE u j f).carry u j)=⟨(lsOf A).nodes,upd2 (lsOf A).en u j (f d.2).outs,bag'⟩∧(∀x y g,(x,y,some g)∈bag'→(x,y,some g)∈(lsOf A).bag∨(x=u∧y=T.nb u j∧g∈(f d.2).out))∧Sf T ((A.modE u j f).carry u j)∧
  (∀(r r':Nat→Nat) (C:Nat),Bd A r C→(f d.2).first+(f d.2).wait.length+r' u≤d.2.first+d.2.wait.length+r u→(∀x,r' x≤r x)→Bd ((A.modE u j f).carry u j) r' C)∧((A.modE u j f).carry u j).sps.map AS.n=A.sps.map AS.n∧((A.modE u j f).carry u j).es=A.es:=by
 obtain⟨hj,hd1⟩:=hS.lt hd
 rw[carry_eq hd f,hd1]
 have hsp:=(adds_sps u (T.nb u j) (f d.2).out (A.modE u j (fun e=>(f e).outs))).1
 have hes:=(adds_sps u (T.nb u j) (f d.2).out (A.modE u j (fun e=>(f e).outs))).2
 have hside:∀x y,((A.modE u j (fun e=>(f e).outs)).adds u (T.nb u j) (f d.2).out).side x y=(A.side x y).map (fun d=>if u=x∧j=y then (d.1,(f d.2).outs)else d):=fun x y=>by
  rw[side_at,hsp,←side_at,sides_modE]
 have hsps:∀x,((A.modE u j (fun e=>(f e).outs)).adds u (T.nb u j) (f d.2).out).sps[x]?=(A.sps[x]?).map (fun s=>if u=x then { s with ss:=s.ss.modify j (fun d=>(d.1,(f d.2).outs))}else s):=fun x=>by
  rw[hsp,sps_modE]
 have hget:∀x y e,((A.modE u j (fun e=>(f e).outs)).adds u (T.nb u j) (f d.2).out).side x y=some e→(u=x∧j=y∧e=(d.1,(f d.2).outs))∨(¬(u=x∧j=y)∧A.side x y=some e):=fun x y e he=>by
  rw[hside]at he
  obtain⟨d',h1,h2⟩:=Option.map_eq_some_iff.1 he
  by_cases c:u=x∧j=y
  ·rw[if_pos c]at h2
   rw[←c.1,←c.2,hd]at h1
   cases h1
   exact Or.inl ⟨c.1,c.2,h2.symm⟩
  ·rw[if_neg c]at h2
   exact Or.inr ⟨c,by rw[h1,h2]⟩
 have hgn:∀(x:Nat) (s:AS),((A.modE u j (fun e=>(f e).outs)).adds u (T.nb u j) (f d.2).out).sps[x]?=some s→∃s0:AS,A.sps[x]?=some s0∧s.n=s0.n:=fun x s hs=>by
  rw[hsps]at hs
  obtain⟨s0,h1,h2⟩:=Option.map_eq_some_iff.1 hs
  refine⟨s0,h1,?_⟩
  rw[←h2]
  split<;>rfl
 obtain⟨a1,a2⟩:=ls_adds (A:=A.modE u j (fun e=>(f e).outs)) (i:=u) (t:=T.nb u j) ho
 refine⟨(lsOf ((A.modE u j (fun e=>(f e).outs)).adds u (T.nb u j) (f d.2).out)).bag,?_,fun x y g hg=>?_,⟨fun x y=>?_,fun x hx=>?_,fun x y e he=>?_,fun x y e he=>?_,fun x y e he=>?_,fun x s hs=>?_⟩,fun r r' C hB h1 h2=>fun x y s e hs he=>?_,?_,hes⟩
 ·rw[a1,ls_modE hd]
 ·have:=a2 x y g hg
  rw[ls_modE hd]at this
  exact this
 ·rw[hside]
  rw[←hS.shp x y]
  cases A.side x y with
  |none=>rfl
  |some e=>simp only[Option.map_some];split<;>rfl
 ·rcases adds_mem _ _ _ _ x hx with h1|⟨g,h1,rfl⟩
  ·exact hS.bg x h1
  ·exact⟨fun _=>⟨g,ho g h1,rfl⟩,(fun e=>by cases e),G.sym _ _ (T.adj u j hj)⟩
 ·rcases hget x y e he with⟨_,_,rfl⟩|⟨_,h1⟩
  ·exact hk
  ·exact hS.kept x y e h1
 ·rcases hget x y e he with⟨_,_,rfl⟩|⟨_,h1⟩
  ·exact hw
  ·exact hS.wait x y e h1
 ·rcases hget x y e he with⟨_,_,rfl⟩|⟨_,h1⟩
  ·rfl
  ·exact hS.out x y e h1
 ·obtain⟨s0,h1,h2⟩:=hgn x s hs
  rw[h2];exact hS.well x s0 h1
 ·obtain⟨s0,h3,h4⟩:=hgn x s hs
  rw[h4]
  rcases hget x y e he with⟨rfl,rfl,rfl⟩|⟨_,h5⟩
  ·have:=hB u j s0 d h3 hd
   show (f d.2).first+(f d.2).wait.length+mu s0.n+r' u≤C
   omega
  ·have:=hB x y s0 e h3 h5
   have:=h2 x
   omega
 ·apply List.ext_getElem?
  intro x
  rw[List.getElem?_map,List.getElem?_map,hsps]
  cases A.sps[x]? with
  |none=>rfl
  |some s=>simp only[Option.map_some];split<;>rfl
theorem show_ok{e:En}(h0:e.out=[])(hw:∀m∈e.wait,MOk m)(hl:e.first+e.wait.length≤65536)(k:Nat):∀g∈(e.showFrom k).out,FrOk g:=fun g hg=>by
 rcases show_mem e k g hg with h|⟨i,m,hi,hm,rfl⟩
 ·rw[h0]at h;cases h
 ·have:=(shown_le e).1
  exact frok_data (by omega) (hw m (List.mem_of_getElem? hm))
theorem send_ok{e:En}(h0:e.out=[])(hw:∀m∈e.wait,MOk m){x:Fr.Msg}(hx:MOk x)(hl:e.first+e.wait.length<65536):(∀g∈(e.send x).out,FrOk g)∧(∀m∈(e.send x).wait,MOk m):=by
 have h1:∀m∈(e.put x).wait,MOk m:=fun m hm=>by
  rcases List.mem_append.1 hm with hm|hm
  ·exact hw m hm
  ·rw[List.mem_singleton.1 hm];exact hx
 refine⟨show_ok (e:=e.put x) h0 h1 ?_ _,h1⟩
 show e.first+(e.wait++[x]).length≤65536
 simp;omega
theorem ack_ok{e:En}(h0:e.out=[])(hw:∀m∈e.wait,MOk m)(hl:e.first+e.wait.length≤65536)(k:Nat):(∀g∈(e.ack k).out,FrOk g)∧(∀m∈(e.ack k).wait,MOk m)∧(e.ack k).first+(e.ack k).wait.length=e.first+e.wait.length:=by
 unfold En.ack
 split
 ·rename_i h
  have hs:=(shown_le e).1
  have h1:∀m∈(e.drop (k - e.first)).wait,MOk m:=fun m hm=>hw m (List.mem_of_mem_drop hm)
  have h2:(e.drop (k - e.first)).first+(e.drop (k - e.first)).wait.length=e.first+e.wait.length:=by
   show e.first+(k - e.first)+(e.wait.drop (k - e.first)).length=_
   rw[List.length_drop];omega
  exact⟨show_ok (e:=e.drop (k - e.first)) h0 h1 (by rw[h2];exact hl) _,h1,h2⟩
 ·exact⟨fun g hg=>(by rw[h0]at hg;cases hg),hw,rfl⟩
theorem keep_same(e:En)(n:Nat)(x:Fr.Msg):(e.keep n x).out=e.out∧(e.keep n x).wait=e.wait∧(e.keep n x).first=e.first:=by
 unfold En.keep
 split
 ·split<;>exact⟨rfl,rfl,rfl⟩
 ·exact⟨rfl,rfl,rfl⟩
theorem came_ok{e:En}(h0:e.out=[])(n:Nat)(x:Fr.Msg):(∀g∈(e.came n x).out,FrOk g)∧(e.came n x).wait=e.wait∧(e.came n x).first=e.first:=by
 obtain⟨k1,k2,k3⟩:=keep_same e n x
 unfold En.came En.answer
 split
 ·rename_i h
  refine⟨fun g hg=>?_,k2,k3⟩
  rcases List.mem_append.1 hg with hg|hg
  ·have hg':g∈(e.keep n x).out:=hg
   rw[k1,h0]at hg';cases hg'
  ·rw[List.mem_singleton.1 hg];exact frok_ans h
 ·refine⟨fun g hg=>?_,k2,k3⟩
  have hg':g∈(e.keep n x).out:=hg
  rw[k1,h0]at hg';cases hg'
theorem sendOne_ls{G:Gr}{T:Top G}{A:AN}(hS:Sf T A){u:Nat}{c:Nat×Fr.Msg}(hc:c.1<T.dg u)(hm:MOk c.2){r:Nat→Nat}{C k:Nat}(hB:Bd A r C)(hr:r u=k+1)(hC:C<65536):
 LS.sendOne T (lsOf A) (lsOf (A.sendOne u c)) u c∧Sf T (A.sendOne u c)∧Bd (A.sendOne u c) (upd r u k) C∧(A.sendOne u c).sps.map AS.n=A.sps.map AS.n∧(A.sendOne u c).es=A.es:=by
 obtain⟨d,s,hd,hd1,hs⟩:=hS.at hc
 have hb:=hB u c.1 s d hs hd
 have hf:d.2.try c.2=d.2.send c.2:=by
  unfold En.try
  rw[if_pos ⟨hm,by omega⟩]
 obtain⟨o1,o2⟩:=send_ok (hS.out u c.1 d hd) (hS.wait u c.1 d hd) hm (by omega)
 obtain⟨bag',b1,b2,b3,b4,b5,b6⟩:=carry_ls hS hd (fun e=>e.try c.2) (by rw[hf];exact o1) (by rw[hf];exact hS.kept u c.1 d hd) (by rw[hf];exact o2)
 rw[hf]at b1 b2 b4
 have e1:=en_at hd
 refine⟨⟨?_,?_,?_⟩,b3,b4 r _ C hB ?_ ?_,b5,b6⟩
 ·show (lsOf ((A.modE u c.1 (fun e=>e.try c.2)).carry u c.1)).nodes=_
  rw[b1]
 ·show (lsOf ((A.modE u c.1 (fun e=>e.try c.2)).carry u c.1)).en=_
  rw[b1,e1]
 ·intro x y f hx
  have hx':(x,y,some f)∈(lsOf ((A.modE u c.1 (fun e=>e.try c.2)).carry u c.1)).bag:=hx
  rw[b1]at hx'
  rw[e1]
  exact b2 x y f hx'
 ·rw[upd_at]
  show d.2.first+(d.2.wait++[c.2]).length+k≤_
  simp;omega
 ·intro x
  simp only[upd]
  split
  ·rename_i e;rw[e];omega
  ·exact Nat.le_refl _
theorem sends_ls{G:Gr}{T:Top G}{u C:Nat}(hC:C<65536):∀(l:List (Nat×Fr.Msg)) {A:AN} {r:Nat→Nat},Sf T A→(∀c∈l,c.1<T.dg u∧MOk c.2)→Bd A r C→r u=l.length→
 LS.sends T u (lsOf A) l (lsOf (A.sends u l))∧Sf T (A.sends u l)∧Bd (A.sends u l) (upd r u 0) C∧(A.sends u l).sps.map AS.n=A.sps.map AS.n∧(A.sends u l).es=A.es
 |[],A,r,hS,hl,hB,hr=>⟨LS.sends.nil _,hS,by
  have : upd r u 0 = r := by funext x; simp only [upd]; split
                             ·rename_i e;rw[e];simpa using hr.symm
                             ·rfl
  rw[this];exact hB,rfl,rfl⟩
 |c::l,A,r,hS,hl,hB,hr=>by
  have hc:=hl c (by simp)
  obtain⟨a1,a2,a3,a4,a5⟩:=sendOne_ls hS hc.1 hc.2 hB (k:=l.length) (by simpa using hr) hC
  obtain⟨b1,b2,b3,b4,b5⟩:=sends_ls hC l a2 (fun d hd=>hl d (by simp[hd])) a3 (by rw[upd_at])
  refine⟨LS.sends.cons a1 b1,b2,?_,b4.trans a4,b5.trans a5⟩
  have:upd (upd r u l.length) u 0=upd r u 0:=upd_upd _ _ _ _
  rw[this]at b3
  exact b3
theorem sf_modN{G:Gr}{T:Top G}{A:AN}(hS:Sf T A){u:Nat}{s:AS}(hs:A.sps[u]?=some s)(f:Nod→Nod)(hf:NWell (f s.n)):Sf T (A.modN u f):=by
 refine⟨fun x y=>?_,hS.bg,fun x y d hd=>?_,fun x y d hd=>?_,fun x y d hd=>?_,fun x s' hs'=>?_⟩
 ·rw[sides_modN];exact hS.shp x y
 ·rw[sides_modN]at hd;exact hS.kept x y d hd
 ·rw[sides_modN]at hd;exact hS.wait x y d hd
 ·rw[sides_modN]at hd;exact hS.out x y d hd
 ·rw[sps_modN]at hs'
  obtain⟨s0,h1,h2⟩:=Option.map_eq_some_iff.1 hs'
  by_cases e:u=x
  ·subst e
   rw[hs]at h1;cases h1
   rw[if_pos rfl]at h2
   rw[←h2];exact hf
  ·rw[if_neg e]at h2
   rw[←h2];exact hS.well x s0 h1
theorem bd_modN{A:AN}{r r':Nat→Nat}{C K:Nat}(hB:Bd A r C){u:Nat}{s:AS}(hs:A.sps[u]?=some s)(f:Nod→Nod)(hf:mu (f s.n)+r' u≤mu s.n+r u+K)(hr:∀x,x≠u→r' x≤r x):Bd (A.modN u f) r' (C+K):=by
 intro x y s' d hs' hd
 rw[sides_modN]at hd
 rw[sps_modN]at hs'
 obtain⟨s0,h1,h2⟩:=Option.map_eq_some_iff.1 hs'
 have:=hB x y s0 d h1 hd
 by_cases e:u=x
 ·subst e
  rw[hs]at h1;cases h1
  rw[if_pos rfl]at h2
  rw[←h2]
  show d.2.first+d.2.wait.length+mu (f s.n)+r' u≤C+K
  omega
 ·rw[if_neg e]at h2
  rw[←h2]
  have:=hr x (fun c=>e c.symm)
  omega
theorem nodes_eq{A A':AN}(h:A'.sps.map AS.n=A.sps.map AS.n):(lsOf A').nodes=(lsOf A).nodes:=by
 funext x
 have h1:(A'.sps.map AS.n)[x]?=(A.sps.map AS.n)[x]?:=by rw[h]
 rw[List.getElem?_map,List.getElem?_map]at h1
 unfold lsOf
 dsimp only
 cases e1:A'.sps[x]? with
 |none=>
  cases e2:A.sps[x]? with
  |none=>rfl
  |some s=>rw[e1,e2]at h1;cases h1
 |some s'=>
  cases e2:A.sps[x]? with
  |none=>rw[e1,e2]at h1;cases h1
  |some s=>rw[e1,e2]at h1;simpa using h1
theorem qt_eq{A A':AN}(h:A'.sps.map AS.n=A.sps.map AS.n)(hq:Qt A):Qt A':=fun u s hs=>by
 have h1:(A'.sps.map AS.n)[u]?=(A.sps.map AS.n)[u]?:=by rw[h]
 rw[List.getElem?_map,List.getElem?_map,hs]at h1
 cases e2:A.sps[u]? with
 |none=>rw[e2]at h1;cases h1
 |some s0=>
  rw[e2]at h1
  have:s.n=s0.n:=by simpa using h1
  rw[this];exact hq u s0 e2
theorem Net.elen{G:Gr}{T:Top G}{Q:Nat→Prop}{nodes:Nat→Nod}{chan:Nat→Nat→List NMsg}(h:Net G T Q nodes chan)(u:Nat):(nodes u).edges.length=T.dg u:=by
 obtain⟨P,⟨s,g,h',hR,hI,a,b⟩,hl⟩:=h.good
 exact(hR.nr u).len
structure AI{G:Gr}(T:Top G)(A:AN)(C:Nat):Prop where
 sf:Sf T A
 bd:Bd A (fun _=>0) C
 qt:Qt A
 inv:∃H,LInv G T (lsOf A) H no2 no2
theorem qt_ps{A:AN}(h:Qt A){u:Nat}{s:AS}(hs:A.sps[u]?=some s):PS s.n:=fun c hc=>by rw[h u s hs]at hc;cases hc
theorem toEdge_eq{G:Gr}{T:Top G}{A:AN}(hS:Sf T A){v k:Nat}(hk:k<T.dg v):A.toEdge v (T.nb v k)=k:=by
 obtain⟨d,s,hd,hd1,hs⟩:=hS.at hk
 have hg:∀i x,s.ss[i]?=some x→i<T.dg v∧x.1=T.nb v i:=fun i x hx=>hS.lt (by rw[side_at,hs];exact hx)
 have hdk:s.ss[k]?=some d:=by rw[side_at,hs]at hd;exact hd
 have hkl:=(List.getElem?_eq_some_iff.1 hdk).1
 unfold AN.toEdge
 rw[hs]
 dsimp only
 have h1:s.ss.findIdx (fun d=>d.1==T.nb v k)<s.ss.length:=by
  rw[List.findIdx_lt_length]
  exact⟨d,List.mem_of_getElem? hdk,by simp[hd1]⟩
 have h2:=List.findIdx_getElem (w:=h1)
 have h3:=hg _ _ (List.getElem?_eq_getElem h1)
 refine T.inj v _ _ h3.1 hk ?_
 rw[←h3.2]
 simpa using h2
def ed3(e:E3):Ed:=⟨(e.a:Int),(e.b:Int),(e.w:Int)⟩
theorem own_ed3(u:Nat):∀L:List E3,ownE u (L.map ed3)=(own u L).map ed3
 |[]=>rfl
 |e::L=>by
  have h:=own_ed3 u L
  unfold ownE own at h⊢
  rw[List.map_cons,List.filter_cons,List.filter_cons]
  by_cases c:e.a=u∨e.b=u
  ·have c1:decide ((ed3 e).a=(u:Int)∨(ed3 e).b=(u:Int))=true:=decide_eq_true (by show (e.a:Int)=(u:Int)∨(e.b:Int)=(u:Int);omega)
   have c2:(e.a==u||e.b==u)=true:=by simp;omega
   rw[if_pos c1,if_pos c2,List.map_cons,h]
  ·have c1:¬decide ((ed3 e).a=(u:Int)∨(ed3 e).b=(u:Int))=true:=fun c1=>by
    have c1':(e.a:Int)=(u:Int)∨(e.b:Int)=(u:Int):=of_decide_eq_true c1
    omega
   have c2:¬(e.a==u||e.b==u)=true:=by simp;omega
   rw[if_neg c1,if_neg c2,h]
theorem fresh_sps(n:Nat)(es:List Ed)(u:Nat):(AN.fresh n es).sps[u]?=if u<n then some (freshS es u)else none:=by
 unfold AN.fresh
 simp only[List.getElem?_map]
 by_cases h:u<n
 ·rw[List.getElem?_range h,if_pos h];rfl
 ·rw[if_neg h,List.getElem?_eq_none (by simp;omega)];rfl
theorem topL_nb{n:Nat}{L:List E3}(h:Simple n L)(u j:Nat)(e:E3)(he:(own u L)[j]?=some e):(topL h).nb u j=other u e:=by
 show (match (own u L)[j]? with|some e=>other u e|none=>0)=_
 rw[he]
theorem fresh_side{n:Nat}{L:List E3}(h:Simple n L)(u j:Nat):(AN.fresh n (L.map ed3)).side u j=if j<(topL h).dg u then some ((topL h).nb u j,En.new)else none:=by
 rw[side_at,fresh_sps]
 have hdg:(topL h).dg u=(own u L).length:=rfl
 rw[hdg]
 by_cases hu:u<n
 ·rw[if_pos hu]
  simp only[Option.bind_some,freshS,List.getElem?_map,own_ed3]
  by_cases hj:j<(own u L).length
  ·rw[if_pos hj,List.getElem?_eq_getElem hj]
   simp only[Option.map_some,Option.some.injEq,Prod.mk.injEq,and_true]
   rw[topL_nb h u j _ (List.getElem?_eq_getElem hj)]
   unfold other ed3
   dsimp only
   omega
  ·rw[if_neg hj,List.getElem?_eq_none (by omega)];rfl
 ·rw[if_neg hu]
  have:(own u L).length=0:=by
   rw[List.length_eq_zero_iff]
   apply List.eq_nil_iff_forall_not_mem.2
   intro e he
   obtain⟨h1,h2⟩:=own_mem.1 he
   have:=h.ok e h1
   omega
  rw[this,if_neg (Nat.not_lt_zero _)];rfl
theorem AI.fresh{n:Nat}{L:List E3}(h:Simple n L)(hw:∀(u:Nat) (s:AS),(AN.fresh n (L.map ed3)).sps[u]?=some s→NWell s.n):AI (topL h) (AN.fresh n (L.map ed3)) 1:=by
 have hg:∀u j d,(AN.fresh n (L.map ed3)).side u j=some d→d.2=En.new:=fun u j d hd=>by
  rw[fresh_side h]at hd
  split at hd
  ·cases hd;rfl
  ·cases hd
 have hn:∀(u:Nat) (s:AS),(AN.fresh n (L.map ed3)).sps[u]?=some s→s.n=Nod.new (wts (ownE u (L.map ed3))):=fun u s hs=>by
  rw[fresh_sps]at hs
  split at hs
  ·cases hs;rfl
  ·cases hs
 refine⟨⟨fun u j=>?_,(fun x hx=>by cases hx),fun u j d hd=>?_,fun u j d hd=>?_,fun u j d hd=>?_,hw⟩,fun u j s d hs hd=>?_,fun u s hs=>?_,fun _ _=>[],?_⟩
 ·rw[fresh_side h];split<;>rfl
 ·rw[hg u j d hd]
  intro m hm
  simp[En.new]at hm
 ·rw[hg u j d hd]
  intro m hm
  simp[En.new]at hm
 ·rw[hg u j d hd];rfl
 ·rw[hg u j d hd,hn u s hs]
  exact Nat.le_refl _
 ·rw[hn u s hs];rfl
 ·refine LInv.start _ _ _ (fun u=>?_) (fun u j=>?_) rfl
  ·unfold lsOf
   dsimp only
   rw[fresh_sps]
   have hdg:(topL h).dg u=(own u L).length:=rfl
   by_cases hu:u<n
   ·rw[if_pos hu]
    show Nod.new (wts (ownE u (L.map ed3)))=_
    congr 1
    rw[own_ed3]
    apply List.ext_getElem?
    intro j
    unfold wts
    rw[List.getElem?_map,List.getElem?_map,List.getElem?_map,hdg]
    by_cases hj:j<(own u L).length
    ·rw[List.getElem?_range hj,List.getElem?_eq_getElem hj]
     simp only[Option.map_some,Option.some.injEq]
     rw[topL_nb h u j _ (List.getElem?_eq_getElem hj)]
     have:=(w_other h (List.getElem_mem hj)).1
     show (ed3 (own u L)[j]).wt.toNat=wOf L u (other u (own u L)[j])
     rw[this];rfl
    ·rw[List.getElem?_eq_none (by omega),List.getElem?_eq_none (by simp;omega)];rfl
   ·rw[if_neg hu]
    have:(own u L).length=0:=by
     rw[List.length_eq_zero_iff]
     apply List.eq_nil_iff_forall_not_mem.2
     intro e he
     obtain⟨h1,h2⟩:=own_mem.1 he
     have:=h.ok e h1
     omega
    rw[hdg,this];rfl
  ·unfold lsOf
   dsimp only
   rw[fresh_side h]
   split
   ·rename_i d hd
    split at hd
    ·cases hd;rfl
    ·cases hd
   ·rfl
theorem AI.br{n:Nat}{L:List E3}{h:Simple n L}{A:AN}{C:Nat}(hA:AI (topL h) A C){u j:Nat}(hj:j<(topL h).dg u):A.branch u ((topL h).nb u j)=true↔((lsOf A).nodes u).st j=1:=by
 obtain⟨d,s,hd,hd1,hs⟩:=hA.sf.at hj
 obtain⟨H,hI⟩:=hA.inv
 obtain⟨chan,hN,_⟩:=hI.net
 have hl:=hN.elen u
 rw[nodes_at hs]at hl⊢
 unfold AN.branch Nod.st
 rw[hs]
 dsimp only
 rw[toEdge_eq hA.sf hj,List.getElem?_eq_getElem (by omega)]
 simp
theorem AI.edge{n:Nat}{L:List E3}{h:Simple n L}{A:AN}{C:Nat}(hA:AI (topL h) A C){e:E3}(he:e∈L)(hb:A.branch e.a e.b=true∨A.branch e.b e.a=true):e∈(krs L).2:=by
 obtain⟨H,hI⟩:=hA.inv
 obtain⟨chan,hN,_⟩:=hI.net
 have key:∀u v,(grL h).adj u v→A.branch u v=true→∃x∈(krs L).2,(x.a=u∧x.b=v)∨(x.a=v∧x.b=u):=fun u v ha hb=>by
  obtain⟨j,hj,ej⟩:=(topL h).sur u v ha
  have h1:=(hA.br hj).1 (by rw[ej];exact hb)
  have h2:=hN.branch hj h1
  rw[ej]at h2
  rcases h2 with h2|⟨x,x1,x2⟩
  ·exact h2
  ·exact⟨x,x1,x2.symm⟩
 have fin:(∃x∈(krs L).2,(x.a=e.a∧x.b=e.b)∨(x.a=e.b∧x.b=e.a))→e∈(krs L).2:=fun⟨x,x1,x2⟩=>by
  have hx:x∈L:=by
   rcases kr_from L _ x x1 with c|c
   ·cases c
   ·exact c
  have:x=e:=pw_eq h.one twin_symm hx he x2
  rw[←this];exact x1
 rcases hb with hb|hb
 ·exact fin (key e.a e.b ⟨e,he,Or.inl ⟨rfl,rfl⟩⟩ hb)
 ·obtain⟨x,x1,x2⟩:=key e.b e.a ⟨e,he,Or.inr ⟨rfl,rfl⟩⟩ hb
  exact fin ⟨x,x1,x2.symm⟩
theorem AI.low{n:Nat}{L:List E3}{h:Simple n L}(hn:n≤8){A:AN}{C:Nat}(hA:AI (topL h) A C){u:Nat}(hu:u<n):((lsOf A).nodes u).level≤3:=by
 obtain⟨H,hI⟩:=hA.inv
 obtain⟨chan,hN,_⟩:=hI.net
 have h1:2 ^ ((lsOf A).nodes u).level≤n:=hN.low (u:=u) hu
 apply Classical.byContradiction
 intro hc
 have h2:2 ^ 4≤2 ^ ((lsOf A).nodes u).level:=Nat.pow_le_pow_right (by omega) (by omega)
 have:(2:Nat) ^ 4=16:=by decide
 omega
theorem AI.over{n:Nat}{L:List E3}{h:Simple n L}{A:AN}{C:Nat}(hA:AI (topL h) A C)(hes:A.es=L.map ed3)(hconn:∀S:Nat→Prop,S 0→(∀e∈L,S e.a↔S e.b)→∀k,k<n→S k){u:Nat}(hu:u<n)(ho:((lsOf A).nodes u).over=true):n≤A.tree.length+1:=by
 obtain⟨H,hI⟩:=hA.inv
 obtain⟨chan,hN,_⟩:=hI.net
 obtain⟨c,c1,p,p1,p2⟩:=hN.over ho hu (fun S hS hcl z hz=>by
  have hcl2:∀e∈L,S e.a↔S e.b:=fun e he=>⟨fun x=>hcl _ _ x ⟨e,he,Or.inl ⟨rfl,rfl⟩⟩,fun x=>hcl _ _ x ⟨e,he,Or.inr ⟨rfl,rfl⟩⟩⟩
  by_cases h0:S 0
  ·exact hconn S h0 hcl2 z hz
  ·have:=hconn (fun k=>¬S k) h0 (fun e he=>not_congr (hcl2 e he)) u hu
   exact(this hS).elim)
 have h2:=span_len (E:=L.filter (fun e=>A.branch e.a e.b||A.branch e.b e.a)) c1 p (fun z hz hzc=>by
  obtain⟨j,hj,ej,es⟩:=p1 z hz hzc
  have hb:=(hA.br hj).2 es
  obtain⟨e,he,hh⟩:=(topL h).adj z j hj
  rw[ej]at hb hh
  refine⟨e,List.mem_filter.2 ⟨he,?_⟩,hh⟩
  rw[Bool.or_eq_true]
  rcases hh with⟨e1,e2⟩|⟨e1,e2⟩
  ·left;rw[e1,e2];exact hb
  ·right;rw[e1,e2];exact hb) p2
 have h3:A.tree=(L.filter (fun e=>A.branch e.a e.b||A.branch e.b e.a)).map ed3:=by
  unfold AN.tree
  rw[hes,List.filter_map]
  rfl
 rw[h3,List.length_map]
 exact h2
end Go.Proofs.YtlfijfodklhplaaGreat.Ghs
