import Derived.Test.YtlfijfodklhplaaGreatTn39
import Derived.Test.YtlfijfodklhplaaGreatTn06
set_option linter.unusedVariables false
set_option linter.unusedSimpArgs false
namespace Go.Proofs.YtlfijfodklhplaaGreat.Ghs
open Go.RowKit
open NMsg
theorem Inv.whole{G:Gr}{s:St}{g:Gh}{h:Gs}(hI:Inv G s g h){u:Nat}(hall:∀z,z<G.n→g.fr u z)(hu:u<G.n):
 ∃c,c<G.n∧∃p:Nat→Nat,(∀z,z<G.n→z≠c→p z<G.n∧G.adj z (p z)∧s.se z (p z)=1∧s.se (p z) z=1)∧∀z z',z<G.n→z'<G.n→z≠c→z'≠c→¬(p z=z'∧p z'=z):=by
 have hp:∀z q,g.par z=some q→q<G.n∧G.adj z q∧s.se z q=1∧s.se q z=1:=fun z q e=>by
  have h1:=hI.st.pr z q e
  have h2:=(hI.st.sa z q (by have:=h1.1;omega)).1
  exact⟨G.lt _ _ (G.sym _ _ h2),h2,h1.1,h1.2⟩
 by_cases hr:∃r,r<G.n∧g.par r=none
 ·obtain⟨r,r1,r2⟩:=hr
  refine⟨r,r1,fun z=>(g.par z).getD 0,fun z z1 z2=>?_,fun z z' z1 z2 z3 z4 z5=>?_⟩
  ·cases e:g.par z with
   |none=>exact(z2 (hI.st.rt z r e r2 (hI.st.f3 _ _ _ (hI.st.f2 _ _ (hall z z1)) (hall r r1)))).elim
   |some q=>simpa [e]using hp z q e
  ·dsimp only at z5
   have e1:g.par z=some z':=by
    cases e:g.par z with
    |none=>exact(z3 (hI.st.rt z r e r2 (hI.st.f3 _ _ _ (hI.st.f2 _ _ (hall z z1)) (hall r r1)))).elim
    |some q=>rw[e]at z5;simp at z5;rw[z5.1]
   have e2:g.par z'=some z:=by
    cases e:g.par z' with
    |none=>exact(z4 (hI.st.rt z' r e r2 (hI.st.f3 _ _ _ (hI.st.f2 _ _ (hall z' z2)) (hall r r1)))).elim
    |some q=>rw[e]at z5;simp at z5;rw[z5.2]
   have h1:=(hI.st.co z z' ⟨e1,e2⟩).1
   have h2:=hI.st.f4 z r (hI.st.f3 _ _ _ (hI.st.f2 _ _ (hall z z1)) (hall r r1))
   exact(hI.st.p0 r (by omega)).2 r2
 ·have hsome:∀z,z<G.n→∃q,g.par z=some q:=fun z hz=>by
   cases e:g.par z with
   |none=>exact(hr ⟨z,hz,e⟩).elim
   |some q=>exact⟨q,rfl⟩
  have hcore:∀d z,g.dep z<d→z<G.n→∃a b,core g a b∧a<G.n:=by
   intro d
   induction d with
   |zero=>intro z h1;omega
   |succ d ih=>
    intro z h1 h2
    obtain⟨q,e⟩:=hsome z h2
    by_cases e2:g.par q=some z
    ·exact⟨z,q,⟨e,e2⟩,h2⟩
    ·have:=hI.st.dp q z ⟨e,e2⟩
     exact ih q (by omega) (hp z q e).1
  obtain⟨a,b,hc,ha⟩:=hcore (g.dep u+1) u (by omega) hu
  refine⟨a,ha,fun z=>(g.par z).getD 0,fun z z1 z2=>?_,fun z z' z1 z2 z3 z4 z5=>?_⟩
  ·obtain⟨q,e⟩:=hsome z z1
   simpa [e]using hp z q e
  ·obtain⟨q,e⟩:=hsome z z1
   obtain⟨q',e'⟩:=hsome z' z2
   simp[e,e']at z5
   have h1:=hI.st.cu z z' a b ⟨by rw[e,z5.1],by rw[e',z5.2]⟩ hc (hI.st.f3 _ _ _ (hI.st.f2 _ _ (hall z z1)) (hall a ha))
   rcases h1 with h1|h1
   ·exact z3 h1.1
   ·exact z4 h1.2
theorem Net.over{G:Gr}{T:Top G}{Q:Nat→Prop}{nodes:Nat→Nod}{chan:Nat→Nat→List NMsg}(h:Net G T Q nodes chan){u:Nat}(ho:(nodes u).over=true)(hu:u<G.n)(hconn:∀S:Nat→Prop,S u→(∀z v,S z→G.adj z v→S v)→∀z,z<G.n→S z):
 ∃c,c<G.n∧∃p:Nat→Nat,(∀z,z<G.n→z≠c→∃j,j<T.dg z∧T.nb z j=p z∧(nodes z).st j=1)∧∀z z',z<G.n→z'<G.n→z≠c→z'≠c→¬(p z=z'∧p z'=z):=by
 obtain⟨P,⟨s,g,h',hR,hI,a,b⟩,hl⟩:=h.good
 have hov:=hI.bs.ov u (by rw[(hR.nr u).over];exact ho)
 have hall:=hconn (g.fr u) (hI.st.f1 u) (fun z v hz hv=>hI.st.f3 _ _ _ hz (hov z v hz hv))
 obtain⟨c,c1,p,p1,p2⟩:=hI.whole hall hu
 refine⟨c,c1,p,fun z z1 z2=>?_,p2⟩
 obtain⟨q1,q2,q3,q4⟩:=p1 z z1 z2
 obtain⟨j,hj,e⟩:=T.sur z (p z) q2
 exact⟨j,hj,e,by rw[←(hR.nr z).se j hj,e];exact q3⟩
structure E3 where
 a:Nat
 b:Nat
 w:Nat
def krOne(c:(Nat→Nat)×List E3)(e:E3):(Nat→Nat)×List E3:=
 if c.1 e.a=c.1 e.b then c else (fun k=>if c.1 k=c.1 e.b then c.1 e.a else c.1 k,c.2++[e])
def krs(L:List E3):(Nat→Nat)×List E3:=L.foldl krOne (fun k=>k,[])
def KJ(c:(Nat→Nat)×List E3):Prop:=∀x y,c.1 x=c.1 y→∀S:Nat→Prop,(∀e∈c.2,(S e.a↔S e.b))→(S x↔S y)
theorem kj_one{c:(Nat→Nat)×List E3}(h:KJ c)(e:E3):KJ (krOne c e):=by
 unfold krOne
 split
 ·exact h
 ·intro x y hxy S hS
  dsimp only at hxy hS
  have h1:∀e∈c.2,(S e.a↔S e.b):=fun e he=>hS e (by simp[he])
  have h2:S e.a↔S e.b:=hS e (by simp)
  have hx:=h x e.b
  have hy:=h y e.b
  have hx2:=h x e.a
  have hy2:=h y e.a
  have hxy2:=h x y
  by_cases c1:c.1 x=c.1 e.b
  ·by_cases c2:c.1 y=c.1 e.b
   ·rw[hx c1 S h1,hy c2 S h1]
   ·rw[if_pos c1,if_neg c2]at hxy
    rw[hx c1 S h1,hy2 hxy.symm S h1,h2]
  ·by_cases c2:c.1 y=c.1 e.b
   ·rw[if_neg c1,if_pos c2]at hxy
    rw[hx2 hxy S h1,hy c2 S h1,h2]
   ·rw[if_neg c1,if_neg c2]at hxy
    exact hxy2 hxy S h1
theorem kj_fold:∀(L:List E3) {c:(Nat→Nat)×List E3},KJ c→KJ (L.foldl krOne c)
 |[],c,h=>h
 |e::L,c,h=>kj_fold L (kj_one h e)
theorem kr_mono:∀(L:List E3) (c:(Nat→Nat)×List E3) (e:E3),e∈c.2→e∈(L.foldl krOne c).2
 |[],c,e,h=>h
 |x::L,c,e,h=>kr_mono L (krOne c x) e (by unfold krOne;split<;>simp[h])
theorem kr_from:∀(L:List E3) (c:(Nat→Nat)×List E3) (e:E3),e∈(L.foldl krOne c).2→e∈c.2∨e∈L
 |[],c,e,h=>Or.inl h
 |x::L,c,e,h=>by
  rcases kr_from L (krOne c x) e h with h1|h1
  ·unfold krOne at h1
   split at h1
   ·exact Or.inl h1
   ·simp at h1
    rcases h1 with h1|h1
    ·exact Or.inl h1
    ·right;simp[h1]
  ·right;simp[h1]
theorem kr_cut{L:List E3}(hL:L.Pairwise (fun x y=>x.w<y.w)){e:E3}(he:e∈L)(S:Nat→Prop)(hS:¬(S e.a↔S e.b))(hm:∀x∈L,¬(S x.a↔S x.b)→e.w≤x.w):e∈(krs L).2:=by
 obtain⟨X,Y,rfl⟩:=List.append_of_mem he
 unfold krs
 rw[List.foldl_append,List.foldl_cons]
 refine kr_mono Y _ e ?_
 have hj:KJ (X.foldl krOne (fun k=>k,[])):=kj_fold X (fun x y hxy S _=>by dsimp only at hxy;rw[hxy])
 have hf:=kr_from X (fun k=>k,[])
 generalize X.foldl krOne (fun k=>k,[])=c at hj hf
 unfold krOne
 split
 ·rename_i heq
  exfalso
  refine hS (hj _ _ heq S fun x hx=>?_)
  apply Classical.byContradiction
  intro hn
  have hxX:x∈X:=by
   rcases hf x hx with h1|h1
   ·cases h1
   ·exact h1
  have h1:=hm x (by simp[hxX]) hn
  have h2:=(List.pairwise_append.1 hL).2.2 x hxX e (by simp)
  omega
 ·simp
def grOf(n:Nat)(L:List E3)(h1:∀e∈L,e.a<n∧e.b<n∧e.a≠e.b∧1≤e.w∧e.w≤1000)(hL:L.Pairwise (fun x y=>x.w<y.w))
 (w:Nat→Nat→Nat) (hw:∀u v,w u v=w v u) (hwe:∀e∈L,w e.a e.b=e.w):Gr where
 n:=n
 adj u v:=∃e∈L,(e.a=u∧e.b=v)∨(e.a=v∧e.b=u)
 w:=w
 sym:=fun u v ⟨e,he,h⟩=>⟨e,he,h.symm⟩
 irr:=fun u ⟨e,he,h⟩=>by
  have:=(h1 e he).2.2.1
  rcases h with⟨h2,h3⟩|⟨h2,h3⟩<;>exact this (h2.trans h3.symm)
 lt:=fun u v ⟨e,he,h⟩=>by
  have:=h1 e he
  rcases h with⟨h2,h3⟩|⟨h2,h3⟩<;>omega
 ws:=hw
 w1:=fun u v ⟨e,he,h⟩=>by
  have h2:=h1 e he
  have h3:=hwe e he
  rcases h with⟨rfl,rfl⟩|⟨rfl,rfl⟩
  ·omega
  ·rw[hw];omega
 wd:=fun u v x y ⟨e,he,h⟩ ⟨f,hf,k⟩ hh=>by
  have h3:=hwe e he
  have h4:=hwe f hf
  have hs:=hw
  have e1:w u v=e.w:=by
   rcases h with⟨rfl,rfl⟩|⟨rfl,rfl⟩
   ·exact h3
   ·rw[hw];exact h3
  have e2:w x y=f.w:=by
   rcases k with⟨rfl,rfl⟩|⟨rfl,rfl⟩
   ·exact h4
   ·rw[hw];exact h4
  have hef:e=f:=by
   apply Classical.byContradiction
   intro hne
   have:=List.pairwise_iff_getElem.1 hL
   obtain⟨i,hi,rfl⟩:=List.getElem_of_mem he
   obtain⟨j,hj,rfl⟩:=List.getElem_of_mem hf
   rcases Nat.lt_trichotomy i j with c|c|c
   ·have:=this i j hi hj c;omega
   ·subst c;exact hne rfl
   ·have:=this j i hj hi c;omega
  subst hef
  rcases h with⟨rfl,rfl⟩|⟨rfl,rfl⟩<;>rcases k with⟨rfl,rfl⟩|⟨rfl,rfl⟩<;>simp
 mst u v:=∃e∈(krs L).2,(e.a=u∧e.b=v)∨(e.a=v∧e.b=u)
 cut:=fun S u v ⟨e,he,h⟩ hu hv hm=>by
  refine⟨e,kr_cut hL he S ?_ ?_,h⟩
  ·rcases h with⟨rfl,rfl⟩|⟨rfl,rfl⟩
   ·exact fun x=>hv (x.1 hu)
   ·exact fun x=>hv (x.2 hu)
  ·intro x hx hn
   have e1:w u v=e.w:=by
    rcases h with⟨rfl,rfl⟩|⟨rfl,rfl⟩
    ·exact hwe e he
    ·rw[hw];exact hwe e he
   have e2:=hwe x hx
   by_cases c:S x.a
   ·have c2:¬S x.b:=fun c2=>hn ⟨fun _=>c2,fun _=>c⟩
    have:=hm x.a x.b ⟨x,hx,Or.inl ⟨rfl,rfl⟩⟩ c c2
    omega
   ·have c2:S x.b:=Classical.byContradiction fun c2=>hn ⟨fun y=>(c y).elim,fun y=>(c2 y).elim⟩
    have:=hm x.b x.a ⟨x,hx,Or.inr ⟨rfl,rfl⟩⟩ c2 c
    have e3:=hw x.b x.a
    omega
structure Dir(s r:En)(out back:Fr.Frm→Prop)(H:List Fr.Msg):Prop where
 data:∀f,out f→f.data=true→H[f.seq]?=some f.m∧f.seq<s.first+s.shown
 acks:∀f,back f→f.data=false→f.seq≤r.await
 lo:s.first≤r.await
 hi:r.await≤s.first+s.shown
 len:s.first+s.wait.length=H.length
 wait:∀i m,s.wait[i]?=some m→H[s.first+i]?=some m
 kept:∀i m,r.kept[i]?=some (some m)→H[r.await+i]?=some m∧r.await+i<s.first+s.shown
 four:r.kept.length=4
theorem shown_le(e:En):e.shown≤e.wait.length∧e.shown≤4:=by unfold En.shown;omega
theorem frames_mem(n:Nat)(l:List Fr.Msg)(f:Fr.Frm)(h:f∈En.frames n l):∃i m,l[i]?=some m∧f=⟨true,n+i,m⟩:=by
 induction l generalizing n with
 |nil=>simp[En.frames]at h
 |cons x r ih=>
  rcases List.mem_cons.1 h with rfl|h
  ·exact⟨0,x,rfl,rfl⟩
  ·obtain⟨i,m,hi,rfl⟩:=ih (n+1) h
   exact⟨i+1,m,by simpa using hi,by rw[Nat.add_right_comm,Nat.add_assoc]⟩
theorem show_mem(e:En)(k:Nat)(f:Fr.Frm)(h:f∈(e.showFrom k).out):f∈e.out∨∃i m,i<e.shown∧e.wait[i]?=some m∧f=⟨true,e.first+i,m⟩:=by
 rcases List.mem_append.1 h with h|h
 ·exact Or.inl h
 ·obtain⟨i,m,hi,rfl⟩:=frames_mem _ _ _ h
  rw[List.getElem?_drop]at hi
  have hlt:=(List.getElem?_eq_some_iff.1 hi).1
  rw[List.length_take]at hlt
  rw[List.getElem?_take_of_lt (by omega)]at hi
  exact Or.inr ⟨k+i,m,by unfold En.shown;omega,hi,by rw[Nat.add_assoc]⟩
theorem Dir.new:Dir En.new En.new (fun _=>False) (fun _=>False) []:=by
 refine⟨fun _ h=>h.elim,fun _ h=>h.elim,Nat.le_refl _,by simp[En.new],rfl,fun i m h=>by simp[En.new]at h,fun i m h=>?_,rfl⟩
 have:i=0∨i=1∨i=2∨i=3∨4≤i:=by omega
 rcases this with rfl|rfl|rfl|rfl|h4
 ·simp[En.new]at h
 ·simp[En.new]at h
 ·simp[En.new]at h
 ·simp[En.new]at h
 ·have:=(List.getElem?_eq_some_iff.1 h).1
  simp[En.new]at this
  omega
theorem Dir.less{s r:En}{out back out' back':Fr.Frm→Prop}{H:List Fr.Msg}(h:Dir s r out back H)(ho:∀f,out' f→out f)(hb:∀f,back' f→back f):Dir s r out' back' H:=
 { h with data:=fun f hf=>h.data f (ho f hf),acks:=fun f hf=>h.acks f (hb f hf)}
theorem get_app{H:List Fr.Msg}{i:Nat}{m x:Fr.Msg}(h:H[i]?=some m):(H++[x])[i]?=some m:=by
 have:=(List.getElem?_eq_some_iff.1 h).1
 rw[List.getElem?_append_left this];exact h
theorem Dir.send{s r:En}{out back out':Fr.Frm→Prop}{H:List Fr.Msg}(h:Dir s r out back H)(x:Fr.Msg)(ho:∀f,out' f→out f∨f∈(s.send x).out)(hs:∀f∈s.out,out f):Dir (s.send x) r out' back (H++[x]):=by
 have hw:∀i m,(s.send x).wait[i]?=some m→(H++[x])[s.first+i]?=some m:=by
  intro i m hm
  have hm':(s.wait++[x])[i]?=some m:=hm
  by_cases hi:i<s.wait.length
  ·rw[List.getElem?_append_left hi]at hm'
   exact get_app (h.wait i m hm')
  ·rw[List.getElem?_append_right (by omega)]at hm'
   have hj:=(List.getElem?_eq_some_iff.1 hm').1
   simp at hj
   have:i - s.wait.length=0:=by omega
   rw[this]at hm'
   have hl:=h.len
   rw[List.getElem?_append_right (by omega),show s.first+i - H.length=0 by omega]
   exact hm'
 have hsh:s.first+s.shown≤(s.send x).first+(s.send x).shown:=by
  show s.first+s.shown≤s.first+min (s.wait++[x]).length 4
  unfold En.shown;simp;omega
 refine { data:=?_,acks:=h.acks,lo:=h.lo,hi:=Nat.le_trans h.hi hsh,len:=?_,wait:=hw,kept:=fun i m hm=>⟨get_app (h.kept i m hm).1,Nat.lt_of_lt_of_le (h.kept i m hm).2 hsh⟩,four:=h.four}
 ·intro f hf hd
  have old:out f→(H++[x])[f.seq]?=some f.m∧f.seq<(s.send x).first+(s.send x).shown:=fun hf=>⟨get_app (h.data f hf hd).1,Nat.lt_of_lt_of_le (h.data f hf hd).2 hsh⟩
  rcases ho f hf with hf|hf
  ·exact old hf
  ·rcases show_mem (s.put x) _ f hf with hf|⟨i,m,hi,hm,rfl⟩
   ·exact old (hs f hf)
   ·exact⟨hw i m hm,by show s.first+i<s.first+_;exact Nat.add_lt_add_left hi _⟩
 ·show s.first+(s.wait++[x]).length=(H++[x]).length
  have:=h.len
  simp;omega
theorem Dir.tick{s r:En}{out back out':Fr.Frm→Prop}{H:List Fr.Msg}(h:Dir s r out back H)(ho:∀f,out' f→out f∨f∈s.tick.out)(hs:∀f∈s.out,out f):Dir s.tick r out' back H:=by
 refine { data:=?_,acks:=h.acks,lo:=h.lo,hi:=h.hi,len:=h.len,wait:=h.wait,kept:=h.kept,four:=h.four}
 intro f hf hd
 rcases ho f hf with hf|hf
 ·exact h.data f hf hd
 ·rcases show_mem s 0 f hf with hf|⟨i,m,hi,hm,rfl⟩
  ·exact h.data f (hs f hf) hd
  ·exact⟨h.wait i m hm,Nat.add_lt_add_left hi _⟩
theorem Dir.ack{s r:En}{out back out':Fr.Frm→Prop}{H:List Fr.Msg}(h:Dir s r out back H)(n:Nat)(hn:n≤r.await)(ho:∀f,out' f→out f∨f∈(s.ack n).out)(hs:∀f∈s.out,out f):Dir (s.ack n) r out' back H:=by
 have hhi:=h.hi
 by_cases hc:s.first<n∧n≤s.first+s.shown
 ·have hk:n - s.first≤s.shown:=by omega
  have hle:=shown_le s
  have e1:s.ack n=(s.drop (n - s.first)).showFrom (s.shown - (n - s.first)):=by unfold En.ack;rw[if_pos hc]
  rw[e1]at ho⊢
  obtain⟨k,hk'⟩:∃k,k=n - s.first:=⟨_,rfl⟩
  rw[←hk']at hk ho⊢
  have hsh:s.first+s.shown≤(s.first+k)+(s.drop k).shown:=by
   show s.first+s.shown≤s.first+k+min (s.wait.drop k).length 4
   unfold En.shown at hk⊢;simp;omega
  have hw:∀i m,(s.wait.drop k)[i]?=some m→H[s.first+k+i]?=some m:=by
   intro i m hm
   rw[List.getElem?_drop]at hm
   rw[Nat.add_assoc]
   exact h.wait _ m hm
  refine { data:=?_,acks:=h.acks,lo:=?_,hi:=Nat.le_trans h.hi hsh,len:=?_,wait:=hw,kept:=fun i m hm=>⟨(h.kept i m hm).1,Nat.lt_of_lt_of_le (h.kept i m hm).2 hsh⟩,four:=h.four}
  ·intro f hf hd
   have old:out f→H[f.seq]?=some f.m∧f.seq<s.first+k+(s.drop k).shown:=fun hf=>⟨(h.data f hf hd).1,Nat.lt_of_lt_of_le (h.data f hf hd).2 hsh⟩
   rcases ho f hf with hf|hf
   ·exact old hf
   ·rcases show_mem (s.drop k) _ f hf with hf|⟨i,m,hi,hm,rfl⟩
    ·exact old (hs f hf)
    ·exact⟨hw i m hm,Nat.add_lt_add_left hi _⟩
  ·show s.first+k≤r.await
   omega
  ·show s.first+k+(s.wait.drop k).length=H.length
   have:=h.len
   simp;omega
 ·have e1:s.ack n=s:=by unfold En.ack;rw[if_neg hc]
  rw[e1]at ho⊢
  exact h.less (fun f hf=>(ho f hf).elim id (fun x=>hs f x)) (fun f hf=>hf)
theorem ready_get(l:List (Option Fr.Msg))(i:Nat)(m:Fr.Msg)(h:(En.ready l)[i]?=some m):l[i]?=some (some m):=by
 induction l generalizing i with
 |nil=>simp[En.ready]at h
 |cons x r ih=>
  cases x with
  |none=>simp[En.ready]at h
  |some y=>
   cases i with
   |zero=>simpa [En.ready]using h
   |succ i=>simpa using ih i (by simpa [En.ready]using h)
theorem ready_len(l:List (Option Fr.Msg)):(En.ready l).length≤l.length:=by
 induction l with
 |nil=>simp[En.ready]
 |cons x r ih=>cases x<;>simp[En.ready];exact ih
theorem Dir.came{s r:En}{out back back':Fr.Frm→Prop}{H:List Fr.Msg}(h:Dir s r out back H)(n:Nat)(x:Fr.Msg)(hx:H[n]?=some x)(hn:n<s.first+s.shown)(hb:∀f,back' f→back f∨f∈(r.came n x).out)(hs:∀f∈r.out,back f):
 Dir s (r.came n x) out back' H∧(r.came n x).await=r.await+(r.told n x).length∧H.drop r.await=r.told n x++H.drop (r.came n x).await:=by
 obtain⟨k,hk⟩:∃k,k=r.keep n x:=⟨_,rfl⟩
 have ka:k.await=r.await:=by
  rw[hk];unfold En.keep
  split
  ·split<;>rfl
  ·rfl
 have ko:k.out=r.out:=by
  rw[hk];unfold En.keep
  split
  ·split<;>rfl
  ·rfl
 have k4:k.kept.length=4:=by
  rw[hk];unfold En.keep
  split
  ·split
   ·simp[h.four]
   ·exact h.four
  ·exact h.four
 have kk:∀i m,k.kept[i]?=some (some m)→H[r.await+i]?=some m∧r.await+i<s.first+s.shown:=by
  intro i m hm
  rw[hk]at hm
  unfold En.keep at hm
  by_cases h1:r.await≤n
  ·rw[if_pos h1]at hm
   split at hm
   ·simp only[List.getElem?_set]at hm
    by_cases h2:n - r.await=i
    ·subst h2
     rw[if_pos rfl]at hm
     split at hm
     ·simp at hm
      rw[←hm]
      have:r.await+(n - r.await)=n:=by omega
      rw[this];exact⟨hx,hn⟩
     ·cases hm
    ·rw[if_neg h2]at hm
     exact h.kept i m hm
   ·exact h.kept i m hm
  ·rw[if_neg h1]at hm
   exact h.kept i m hm
 obtain⟨j,hj⟩:∃j,j=(En.ready k.kept).length:=⟨_,rfl⟩
 have hj4:j≤4:=by have:=ready_len k.kept;omega
 have ht:∀i m,(En.ready k.kept)[i]?=some m→H[r.await+i]?=some m∧r.await+i<s.first+s.shown:=fun i m hm=>kk i m (ready_get _ i m hm)
 have htop:r.await+j≤s.first+s.shown:=by
  by_cases h0:j=0
  ·have:=h.hi;omega
  ·have hlast:=ht (j - 1) _ (List.getElem?_eq_getElem (by omega))
   omega
 have ca:(r.came n x).await=r.await+j:=by
  have:(k.take.answer).await=k.take.await:=by unfold En.answer;split<;>rfl
  show (En.answer (En.take (r.keep n x))).await=_
  rw[←hk,this]
  show k.await+(En.ready k.kept).length=_
  rw[ka,hj]
 have ck:(r.came n x).kept=k.kept.drop j++List.replicate j none:=by
  have:(k.take.answer).kept=k.take.kept:=by unfold En.answer;split<;>rfl
  show (En.answer (En.take (r.keep n x))).kept=_
  rw[←hk,this,hj];rfl
 have co:∀f,f∈(r.came n x).out→f∈r.out∨f=⟨false,r.await+j,Fr.none0⟩:=by
  intro f hf
  have e1:(r.came n x).out=k.take.answer.out:=by rw[hk];rfl
  rw[e1]at hf
  unfold En.answer at hf
  split at hf
  ·rcases List.mem_append.1 hf with x|x
   ·exact Or.inl (by rw[←ko];exact x)
   ·simp at x
    refine Or.inr ?_
    rw[x,hj,←ka];rfl
  ·exact Or.inl (by rw[←ko];exact hf)
 have et:r.told n x=En.ready k.kept:=by unfold En.told;rw[hk]
 have hlen:=h.len
 have hle:=shown_le s
 refine⟨{ data:=h.data,acks:=?_,lo:=?_,hi:=?_,len:=h.len,wait:=h.wait,kept:=?_,four:=?_},by rw[ca,et,←hj],?_⟩
 ·intro f hf hd
  rw[ca]
  rcases hb f hf with hf|hf
  ·have:=h.acks f hf hd;omega
  ·rcases co f hf with hf|rfl
   ·have:=h.acks f (hs f hf) hd;omega
   ·exact Nat.le_refl _
 ·rw[ca];have:=h.lo;omega
 ·rw[ca];exact htop
 ·intro i m hm
  rw[ck]at hm
  rw[ca]
  by_cases hi:i<(k.kept.drop j).length
  ·rw[List.getElem?_append_left hi,List.getElem?_drop]at hm
   have:=kk _ m hm
   rw[Nat.add_assoc];exact this
  ·rw[List.getElem?_append_right (by omega),List.getElem?_replicate]at hm
   split at hm<;>simp at hm
 ·rw[ck];simp;omega
 ·rw[ca,et]
  apply List.ext_getElem?
  intro i
  rw[List.getElem?_drop]
  by_cases hi:i<j
  ·rw[List.getElem?_append_left (by omega),List.getElem?_eq_getElem (l:=En.ready k.kept) (by omega)]
   exact(ht i _ (List.getElem?_eq_getElem (by omega))).1
  ·rw[List.getElem?_append_right (by omega),List.getElem?_drop,←hj]
   congr 1;omega
theorem Dir.congr{s r s' r':En}{out back out' back':Fr.Frm→Prop}{H:List Fr.Msg}(h:Dir s r out back H)(e1:s'.first=s.first)(e2:s'.wait=s.wait)(e3:r'.await=r.await)(e4:r'.kept=r.kept)(ho:∀f,out' f→out f)(hb:∀f,back' f→back f):Dir s' r' out' back' H:=by
 have es:s'.shown=s.shown:=by unfold En.shown;rw[e2]
 exact⟨fun f hf hd=>by rw[e1,es];exact h.data f (ho f hf) hd,fun f hf hd=>by rw[e3];exact h.acks f (hb f hf) hd,by rw[e1,e3];exact h.lo,by rw[e1,e3,es];exact h.hi,by rw[e1,e2];exact h.len,fun i m hm=>by rw[e1];rw[e2]at hm;exact h.wait i m hm,fun i m hm=>by rw[e4]at hm;rw[e1,e3,es];exact h.kept i m hm,by rw[e4];exact h.four⟩
structure LS where
 nodes:Nat→Nod
 en:Nat→Nat→En
 bag:List (Nat×Nat×Option Fr.Frm)
structure LInv(G:Gr)(T:Top G)(S:LS)(H D R:Nat→Nat→List Fr.Msg):Prop where
 dir:∀u j k,j<T.dg u→k<T.dg (T.nb u j)→T.nb (T.nb u j) k=u→Dir (S.en u j) (S.en (T.nb u j) k) (fun f=>(u,T.nb u j,some f)∈S.bag) (fun f=>(T.nb u j,u,some f)∈S.bag) (H u (T.nb u j))
 out:∀u j,(S.en u j).out=[]
 net:∃chan,Net G T (fun _=>True) S.nodes chan∧∀u j k,j<T.dg u→k<T.dg (T.nb u j)→T.nb (T.nb u j) k=u→chan u (T.nb u j)=(D u (T.nb u j)++(H u (T.nb u j)).drop (S.en (T.nb u j) k).await++R u (T.nb u j)).map typed
theorem back{G:Gr}(T:Top G){u j:Nat}(hj:j<T.dg u):∃k,k<T.dg (T.nb u j)∧T.nb (T.nb u j) k=u:=T.sur _ _ (G.sym _ _ (T.adj u j hj))
theorem Dir.await_le{s r:En}{out back:Fr.Frm→Prop}{H:List Fr.Msg}(h:Dir s r out back H):r.await≤H.length:=by
 have:=h.hi;have:=h.len;have:=shown_le s;omega
end Go.Proofs.YtlfijfodklhplaaGreat.Ghs
