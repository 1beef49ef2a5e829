import Derived.Test.YtlfijfodklhplaaGreatTn40
set_option linter.unusedVariables false
set_option linter.unusedSimpArgs false
namespace Go.Proofs.YtlfijfodklhplaaGreat.Ghs
open Go.RowKit
open NMsg
def sentF(l:List (Nat×Fr.Msg))(j:Nat):List Fr.Msg:=(l.filter (fun c=>c.1==j)).map (fun c=>c.2)
theorem sentTo_F(n:Nod)(j:Nat):sentTo n j=(sentF n.sent j).map typed:=by simp[sentTo,sentF,List.map_map]
theorem LInv.start(G:Gr)(T:Top G)(S:LS)(hn:∀u,S.nodes u=Nod.new ((List.range (T.dg u)).map (fun j=>G.w u (T.nb u j))))(he:∀u j,S.en u j=En.new)(hb:S.bag=[]):LInv G T S (fun _ _=>[]) (fun _ _=>[]) (fun _ _=>[]):=by
 refine⟨fun u j k _ _ _=>?_,fun u j=>by rw[he];rfl,_,Net.start G T S.nodes hn,fun x y z _ _ _=>by simp⟩
 rw[he,he,hb]
 exact Dir.new.less (fun f hf=>by cases hf) (fun f hf=>by cases hf)
def LS.sendOne{G:Gr}(T:Top G)(S S':LS)(u:Nat)(c:Nat×Fr.Msg):Prop:=
 S'.nodes=S.nodes∧S'.en=upd2 S.en u c.1 ((S.en u c.1).send c.2).outs∧∀x y f,(x,y,some f)∈S'.bag→(x,y,some f)∈S.bag∨(x=u∧y=T.nb u c.1∧f∈((S.en u c.1).send c.2).out)
inductive LS.sends {G:Gr} (T:Top G) (u:Nat):LS→List (Nat×Fr.Msg)→LS→Prop
 |nil (S:LS):LS.sends T u S [] S
 |cons {S S1 S2:LS} {c:Nat×Fr.Msg} {l:List (Nat×Fr.Msg)}:LS.sendOne T S S1 u c→LS.sends T u S1 l S2→LS.sends T u S (c::l) S2
theorem sentF_cons(c:Nat×Fr.Msg)(l:List (Nat×Fr.Msg))(j:Nat):sentF (c::l) j=(if c.1=j then [c.2]else [])++sentF l j:=by
 by_cases e:c.1=j<;>simp[sentF,e]
def no2:Nat→Nat→List Fr.Msg:=fun _ _=>[]
theorem nodup_sub_len{α:Type}:∀(l m:List α),l.Nodup→(∀x∈l,x∈m)→l.length≤m.length
 |[],m,_,_=>Nat.zero_le _
 |a::l,m,h1,h2=>by
  obtain⟨X,Y,rfl⟩:=List.append_of_mem (h2 a (by simp))
  have h3:=List.nodup_cons.1 h1
  have:=nodup_sub_len l (X++Y) h3.2 (fun x hx=>by
   have h4:=h2 x (by simp[hx])
   have h5:x≠a:=fun e=>h3.1 (e▸hx)
   simp at h4⊢
   rcases h4 with h4|h4|h4
   ·exact Or.inl h4
   ·exact(h5 h4).elim
   ·exact Or.inr h4)
  simp at this⊢
  omega
theorem map_nodup{α β:Type}(f:α→β):∀(l:List α),l.Nodup→(∀x∈l,∀y∈l,f x=f y→x=y)→(l.map f).Nodup
 |[],_,_=>by simp
 |a::l,h1,h2=>by
  have h3:=List.nodup_cons.1 h1
  rw[List.map_cons]
  refine List.nodup_cons.2 ⟨fun hm=>?_,map_nodup f l h3.2 (fun x hx y hy=>h2 x (by simp[hx]) y (by simp[hy]))⟩
  obtain⟨b,hb,e⟩:=List.mem_map.1 hm
  have:=h2 b (by simp[hb]) a (by simp) e
  exact h3.1 (this▸hb)
open Classical in
theorem span_len{n:Nat}{E:List E3}{c:Nat}(hc:c<n)(p:Nat→Nat)(h1:∀z,z<n→z≠c→∃e∈E,(e.a=z∧e.b=p z)∨(e.a=p z∧e.b=z))(h2:∀z z',z<n→z'<n→z≠c→z'≠c→¬(p z=z'∧p z'=z)):n≤E.length+1:=by
 let f:Nat→Option E3:=fun z=>if h:∃e∈E,(e.a=z∧e.b=p z)∨(e.a=p z∧e.b=z)then some h.choose else none
 have hf:∀z,z<n→z≠c→∃e,f z=some e∧e∈E∧((e.a=z∧e.b=p z)∨(e.a=p z∧e.b=z)):=fun z z1 z2=>by
  have h:=h1 z z1 z2
  exact⟨h.choose,dif_pos h,h.choose_spec.1,h.choose_spec.2⟩
 have hm:∀z,z∈(List.range n).erase c↔z<n∧z≠c:=fun z=>by
  rw[List.Nodup.mem_erase_iff List.nodup_range,List.mem_range];exact And.comm
 have hnd:(((List.range n).erase c).map f).Nodup:=by
  refine map_nodup f _ (List.Nodup.erase _ List.nodup_range) (fun x hx y hy e=>?_)
  obtain⟨x1,x2⟩:=(hm x).1 hx
  obtain⟨y1,y2⟩:=(hm y).1 hy
  obtain⟨e1,a1,a2,a3⟩:=hf x x1 x2
  obtain⟨e2,b1,b2,b3⟩:=hf y y1 y2
  rw[a1,b1]at e
  cases e
  apply Classical.byContradiction
  intro hne
  have:=h2 x y x1 y1 x2 y2
  omega
 have hlen:=nodup_sub_len _ (E.map some) hnd (fun o ho=>by
  obtain⟨z,hz,rfl⟩:=List.mem_map.1 ho
  obtain⟨z1,z2⟩:=(hm z).1 hz
  obtain⟨e,a1,a2,a3⟩:=hf z z1 z2
  rw[a1]
  exact List.mem_map.2 ⟨e,a2,rfl⟩)
 rw[List.length_map,List.length_map,List.length_erase,List.length_range]at hlen
 split at hlen<;>omega
def inOrder(es:List E3):List E3:=(List.range' 1 1000).flatMap (fun w=>es.filter (fun e=>e.w==w))
theorem inOrder_mem{es:List E3}(h:∀e∈es,1≤e.w∧e.w≤1000)(e:E3):e∈inOrder es↔e∈es:=by
 unfold inOrder
 rw[List.mem_flatMap]
 constructor
 ·rintro⟨w,_,h2⟩;exact(List.mem_filter.1 h2).1
 ·intro he
  have:=h e he
  refine⟨e.w,List.mem_range'_1.2 (by omega),List.mem_filter.2 ⟨he,by simp⟩⟩
theorem inOrder_inc{es:List E3}(h:es.Pairwise (fun x y=>x.w≠y.w)):(inOrder es).Pairwise (fun x y=>x.w<y.w):=by
 unfold inOrder
 rw[List.pairwise_flatMap]
 constructor
 ·intro w _
  refine List.Pairwise.imp_of_mem ?_ (h.filter _)
  intro a b ha hb hne
  have h1:=(List.mem_filter.1 ha).2
  have h2:=(List.mem_filter.1 hb).2
  simp at h1 h2
  omega
 ·refine List.Pairwise.imp ?_ List.pairwise_lt_range'
  intro a b hab x hx y hy
  have h1:=(List.mem_filter.1 hx).2
  have h2:=(List.mem_filter.1 hy).2
  simp at h1 h2
  omega
theorem krs_loop(w:Nat):∀(es:List E3) (c:(Nat→Nat)×List E3),es.foldl (fun c e=>if e.w=w then krOne c e else c) c=(es.filter (fun e=>e.w==w)).foldl krOne c
 |[],c=>rfl
 |e::es,c=>by
  rw[List.foldl_cons,krs_loop w es]
  by_cases h:e.w=w
  ·simp[h]
  ·simp[h]
theorem krs_loops(es:List E3):(List.range' 1 1000).foldl (fun c w=>es.foldl (fun c e=>if e.w=w then krOne c e else c) c) (fun k=>k,[])=krs (inOrder es):=by
 unfold krs inOrder
 rw[List.foldl_flatMap]
 congr 1
 funext c w
 exact krs_loop w es c
def twin(x y:E3):Prop:=(x.a=y.a∧x.b=y.b)∨(x.a=y.b∧x.b=y.a)
structure Simple(n:Nat)(L:List E3):Prop where
 ok:∀e∈L,e.a<n∧e.b<n∧e.a≠e.b∧1≤e.w∧e.w≤1000
 inc:L.Pairwise (fun x y=>x.w<y.w)
 one:L.Pairwise (fun x y=>¬twin x y)
theorem pw_eq{α:Type}{R:α→α→Prop}{L:List α}(h:L.Pairwise (fun x y=>¬R x y))(hs:∀x y,R x y→R y x){x y:α}(hx:x∈L)(hy:y∈L)(hr:R x y):x=y:=by
 obtain⟨i,hi,rfl⟩:=List.getElem_of_mem hx
 obtain⟨j,hj,rfl⟩:=List.getElem_of_mem hy
 have:=List.pairwise_iff_getElem.1 h
 rcases Nat.lt_trichotomy i j with c|c|c
 ·exact(this i j hi hj c hr).elim
 ·subst c;rfl
 ·exact(this j i hj hi c (hs _ _ hr)).elim
theorem twin_symm(x y:E3)(h:twin x y):twin y x:=by unfold twin at *;omega
def wOf(L:List E3)(u v:Nat):Nat:=match L.find? (fun e=>(e.a==u&&e.b==v)||(e.a==v&&e.b==u))with
 |some e=>e.w
 |none=>0
theorem wOf_symm(L:List E3)(u v:Nat):wOf L u v=wOf L v u:=by
 unfold wOf
 have:(fun e:E3=>(e.a==u&&e.b==v)||(e.a==v&&e.b==u))=fun e=>(e.a==v&&e.b==u)||(e.a==u&&e.b==v):=by
  funext e;exact Bool.or_comm _ _
 rw[this]
theorem wOf_mem{n:Nat}{L:List E3}(h:Simple n L)(e:E3)(he:e∈L):wOf L e.a e.b=e.w:=by
 unfold wOf
 cases hf:L.find? (fun x=>(x.a==e.a&&x.b==e.b)||(x.a==e.b&&x.b==e.a))with
 |none=>
  have:=List.find?_eq_none.1 hf e he
  simp at this
 |some x=>
  have h1:=List.find?_some hf
  have h2:=List.mem_of_find?_eq_some hf
  have:x=e:=pw_eq h.one twin_symm h2 he (by unfold twin;simp at h1;omega)
  rw[this]
def grL{n:Nat}{L:List E3}(h:Simple n L):Gr:=grOf n L h.ok h.inc (wOf L) (wOf_symm L) (wOf_mem h)
def own(u:Nat)(L:List E3):List E3:=L.filter (fun e=>e.a==u||e.b==u)
theorem own_mem{u:Nat}{L:List E3}{e:E3}:e∈own u L↔e∈L∧(e.a=u∨e.b=u):=by
 unfold own;rw[List.mem_filter];simp
def other(u:Nat)(e:E3):Nat:=e.a+e.b - u
theorem w_other{n:Nat}{L:List E3}(h:Simple n L){u:Nat}{e:E3}(he:e∈own u L):wOf L u (other u e)=e.w∧(grL h).adj u (other u e):=by
 obtain⟨h1,h2⟩:=own_mem.1 he
 rcases h2 with rfl|rfl
 ·have:other e.a e=e.b:=by unfold other;omega
  rw[this]
  exact⟨wOf_mem h e h1,e,h1,Or.inl ⟨rfl,rfl⟩⟩
 ·have:other e.b e=e.a:=by unfold other;omega
  rw[this,wOf_symm]
  exact⟨wOf_mem h e h1,e,h1,Or.inr ⟨rfl,rfl⟩⟩
def topL{n:Nat}{L:List E3}(h:Simple n L):Top (grL h) where
 nb u j:=match (own u L)[j]? with|some e=>other u e|none=>0
 dg u:=(own u L).length
 adj:=fun u j hj=>by
  rw[List.getElem?_eq_getElem hj]
  exact(w_other h (List.getElem_mem hj)).2
 inj:=fun u j k hj hk e=>by
  rw[List.getElem?_eq_getElem hj,List.getElem?_eq_getElem hk]at e
  dsimp only at e
  have h1:=own_mem.1 (List.getElem_mem hj)
  have h2:=own_mem.1 (List.getElem_mem hk)
  have ht:twin (own u L)[j] (own u L)[k]:=by unfold twin;unfold other at e;omega
  have hp:(own u L).Pairwise (fun x y=>¬twin x y):=h.one.filter _
  have:=List.pairwise_iff_getElem.1 hp
  rcases Nat.lt_trichotomy j k with c|c|c
  ·exact(this j k hj hk c ht).elim
  ·exact c
  ·exact(this k j hk hj c (twin_symm _ _ ht)).elim
 sur:=fun u v ⟨e,he,hh⟩=>by
  have hm:e∈own u L:=own_mem.2 ⟨he,by omega⟩
  obtain⟨j,hj,rfl⟩:=List.getElem_of_mem hm
  refine⟨j,hj,?_⟩
  rw[List.getElem?_eq_getElem hj]
  show other u _=v
  unfold other;omega
 inc:=fun u j k hjk hk=>by
  have hj:j<(own u L).length:=by omega
  rw[List.getElem?_eq_getElem hj,List.getElem?_eq_getElem hk]
  have hp:(own u L).Pairwise (fun x y=>x.w<y.w):=h.inc.filter _
  have h1:=List.pairwise_iff_getElem.1 hp j k hj hk hjk
  have h2:=(w_other h (List.getElem_mem hj)).1
  have h3:=(w_other h (List.getElem_mem hk)).1
  show wOf L u (other u _)≤wOf L u (other u _)
  omega
end Go.Proofs.YtlfijfodklhplaaGreat.Ghs
