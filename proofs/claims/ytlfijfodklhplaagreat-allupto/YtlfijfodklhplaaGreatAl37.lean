import Derived.Test.YtlfijfodklhplaaGreatAl36
import Derived.Test.YtlfijfodklhplaaGreatAl35
set_option linter.all false
open Go.RowKit Go.Proofs.Tryz
open Go.Value renaming int->I,slice->L,pointer->P
open Go.IntKind renaming i64->J
open Option renaming some->S,none->N
open Bool renaming true->T,false->F
namespace Go.Proofs.YtlfijfodklhplaaGreat
structure iO(c:Nt)(e:Dn):Prop where
 b:e.a=c.a
 a:dw c.a 3400
 d:jb c.a
 j:tM c.a
 g:Ghs.V.jv c.aK.length c.a
def qg(j k:FuncId)(g:Value->Array Value)(b:Nt)(d:Dn):Prop:=∃(h:Int)(e:AN),Ghs.V.jv b.aK.length e/\
 (∀a,bn a b->Calls prog j (g (P (S ⟨b.nb,0,N⟩))) a λl c=>∃i,l= .returned i/\i=I J h/\Nx a c b 3404 e)/\
 (∀a,bP a d->Cr k (g (P (S ⟨d.b,0,N⟩))) a (I J h) λc=>∃f,bP c f/\f.a=e/\dR a c d f)
def iO.c{a c}(b:iO a c):c.aE.length=a.aK.length/\c.aV.length=a.aS.length/\a.aS.length<=300/\a.aK.length<=10:=by have e:=Vj (λd:AN=>d.bd.length) b.b;have f:=Vj (λd:AN=>d.fu.length) b.b;simp[Dn.a,Nt.a]at e f;have g:=b.a.b;rw[bn.b.1]at g;exact⟨e,f,g,b.g.b⟩
def iO.h{c e}(f:iO c e){a}(g:a<c.aK.length):∃d b,c.aK[a]?=S d/\e.aE[a]?=S b/\c.a.bd[a]?=S b.a/\d.a=b.a:=by
 obtain⟨d,h⟩:∃d,c.aK[a]?=S d:=⟨_,Um g⟩
 obtain⟨b,i⟩:∃b,e.aE[a]?=S b:=⟨_,Um (by rw[f.c.1];exact g)⟩
 have j:e.a.bd[a]?=S b.a:=by simp[Dn.a,i]
 have k:=jH h;rw[f.b]at j;grind
def iO.f{b d}(e:iO b d){k}(f:k<b.aS.length):∃c a,b.aS[k]?=S c/\d.aV[k]?=S a/\b.a.fu[k]?=S a.b/\c.f=a.b:=by
 obtain⟨c,g⟩:∃c,b.aS[k]?=S c:=⟨_,Um f⟩
 obtain⟨a,h⟩:∃a,d.aV[k]?=S a:=⟨_,Um (by rw[e.c.2.1];exact f)⟩
 have i:d.a.fu[k]?=S a.b:=by simp[Dn.a,h]
 have j:=s7 g;rw[e.b]at i;grind
def iO.i{c a}(b:iO c a):gI a.a:=by rw[b.b];exact b.a.c
def iO.e{b d}(a:iO b d){c}(e:bn c b):sQ c b 3400:=⟨e,a.a,a.d,a.j,a.g.d⟩
def iO.l{d a e b h w'}(i:Ghs.V.jv d.aK.length b)(c:sQ w' a 3404)(f:a.a=b)(t:du h w' d a)(j:e.a=b):iO a e:=by
 have g:Ghs.V.jv a.aK.length a.a:=by rw[t.p,f];exact i
 exact⟨j.trans f.symm,g.m c.d,c.e,c.b,g⟩
def tu{k l g c b}(h:iO c b)(z)(m:∀a,bn a c->Calls prog k (g (P (S ⟨c.nb,0,N⟩))) a λi d=>∃j,i= .returned j/\j= .int J z/\ae aa a d)(n:∀a,bP a b->Cr l (g (P (S ⟨b.b,0,N⟩))) a (.int J z) λd=>ae aa a d):qg k l g c b:=by refine⟨z,c.a,h.g,λa e=>(m a e).mono ?_,λa e=>(n a e).mono ?_⟩;rintro i d ⟨j,rfl,rfl,f⟩;exact⟨_,rfl,rfl,(h.e e).g f (by omega)⟩;rintro i d ⟨rfl,f⟩;exact⟨rfl,b,e.a f,h.b,dR.c b f⟩
def Ql{b f}(a:iO b f)(k):qg 15 91 (λm=> #[m,.int J k]) b f:=by
 obtain⟨x,y,z,A⟩:=a.c;by_cases n:0<=k/\k<(b.aK.length:Int);obtain⟨d,rfl⟩:∃d:Nat,k=(d:Int):=⟨k.toNat,by omega⟩
 have g:d<b.aK.length:=by omega
 obtain⟨o,h,p,i,j,C⟩:=a.h g;have l:=a.g.e j;refine⟨0,b.a.D d,a.g.p g j,λc e=>?_,λc e=>?_⟩;refine Ew b.nb d c ((PA b d o 3400 c e p a.a a.d).mono ?_);rintro D E ⟨rfl,G,q,r,s,t,u,v⟩;exact⟨_,rfl,rfl,(a.e e).a q r s t u (by omega) v⟩;have w:=a.d d h.n (by rw[<-a.b];exact BK i);have:=MP f d h c e i a.i w (by omega) l.1 l.2;rw[a.b]at this;exact this;refine tu a 6 (λc e=>Ew b.nb k c ((PD b k c e n).mono ?_)) (λc e=>MO f k c e (by omega));grind
def Qk{b g}(a:iO b g)(k):qg 33 97 (λi=> #[i,.int J k]) b g:=by
 obtain⟨w,x,y,z⟩:=a.c;by_cases j:0<=k/\k<(b.aK.length:Int);obtain⟨c,rfl⟩:∃c:Nat,k=(c:Int):=⟨k.toNat,by omega⟩
 have l:c<b.aK.length:=by omega
 obtain⟨m,f,n,o,h,A⟩:=a.h l;have C:=a.g.e h;refine⟨0,b.a.y c,a.g.o c,λd e=>?_,λd e=>?_⟩;refine Ev b.nb c d ((Pu b c m 3400 d e n a.a a.d).mono ?_);rintro D E ⟨rfl,G,p,q,r,s,t,u⟩;exact⟨_,rfl,rfl,(a.e e).a p q r s t (by omega) u⟩;have v:f.ss.length<=100:=by
  have H:=(a.a.a c f.a h).2.1;have K:f.a.ss.length=f.ss.length:=by simp[Ds.a]
  omega
 have:=ML g c f d e o a.i (by omega) v;rw[a.b]at this;exact this;refine tu a 6 (λd e=>Ev b.nb k d ((Pv b k d e j).mono ?_)) (λd e=>MK g k d e (by omega));grind
def Qi{a f}(c:iO a f)(k):qg 35 94 (λj=> #[j,.int J k]) a f:=by
 obtain⟨u,v,w,x⟩:=c.c;by_cases l:0<=k/\k<(a.aS.length:Int);obtain⟨d,rfl⟩:∃d:Nat,k=(d:Int):=⟨k.toNat,by omega⟩
 have m:d<a.aS.length:=by omega
 obtain⟨n,y,o,z,A,C⟩:=c.f m;refine⟨0,a.a.f d,c.g.l d,λb e=>?_,λb e=>(EX f d b e (by omega) (by omega)).mono ?_⟩;refine El a.nb d b ((Pc a d n 3400 b e o c.a).mono ?_);rintro p q ⟨rfl,D,h,g,i,r,s⟩;exact⟨_,rfl,rfl,(c.e e).a h g i r s (by omega) (by rw[g];exact c.d)⟩;rintro p q ⟨rfl,t,h,g,i,_⟩;exact⟨rfl,t,h,by rw[g,c.b],i⟩;refine tu c 7 (λb e=>El a.nb k b ((Pb a k b e l).mono ?_)) (λb e=>Mj f k b e (by omega));grind
def SY{a}(b:jb a)(k):jb (a.q k):=by unfold AN.q;split;exact b;unfold jb;rw[Gv];exact b
def SZ{b}(a:jb b)(k c d):jb (b.s k c d):=by unfold AN.s;split;exact a;split;exact a;exact a
def Qf{a f}(b:iO a f)(k):qg 36 95 (λm=> #[m,.int J k]) a f:=by
 obtain⟨w,x,y,z⟩:=b.c;by_cases n:0<=k/\k<(a.aS.length:Int);obtain⟨c,rfl⟩:∃c:Nat,k=(c:Int):=⟨k.toNat,by omega⟩
 have o:c<a.aS.length:=by omega
 obtain⟨h,i,j,p,A,q⟩:=b.f o;have g:=bn.h b.a j;have r:h.l=i.l:=Vj AP.l q;rw[r]at g;refine⟨0,a.a.q c,b.g.f c,λd e=>?_,λd e=>?_⟩;refine Ea a.nb c d ((OV a c h 3400 d e j b.a).mono ?_);rintro C D ⟨rfl,E,s,l,t,u,v⟩;exact⟨_,rfl,rfl,(b.e e).a s l t u v (by omega) (by rw[l];exact SY b.d c)⟩;have:=L7 f c i d e p (by omega) g.1 g.2.1;rw[b.b]at this;exact this;refine tu b 7 (λd e=>Ea a.nb k d ((OU a k d e n).mono ?_)) (λd e=>L4 f k d e (by omega));grind
def GL{e j}(f:iO e j)(k g)(a:Nat)(n:a<256):qg 37 96 (λh=> #[h,.int J k,.int J g,.int .u8 (a:Int)]) e j:=by
 obtain⟨K,M,O,Q⟩:=f.c;by_cases y:0<=k/\k<(e.aS.length:Int);obtain⟨c,rfl⟩:∃c:Nat,k=(c:Int):=⟨k.toNat,by omega⟩
 have z:c<e.aS.length:=by omega
 obtain⟨i,l,o,r,R,s⟩:=f.f z;have t:=bn.h f.a o;have u:i.l=l.l:=Vj AP.l s;have v:i.sp=l.sp:=Vj AP.sp s;by_cases m:i.sp=T\/g<0\/(i.l.length:Int)<=g\/a=0;refine tu f 8 (λb d=>AY e.nb c g a b ((Pq e c i 3400 b d o f.a g a m).mono ?_)) (λb d=>MD j c g a l b d r (by rw[<-u,<-v];exact m));grind;obtain⟨h,rfl⟩:∃h:Nat,g=(h:Int):=⟨g.toNat,by omega⟩
 have p:i.sp=F:=by
  cases A:i.sp with
  |true=>exact(m (Ur A)).elim
  |false=>rfl
 have q:h<i.l.length:=by omega
 have w:a≠0:=λC=>m (Up (Up (Up C)));refine⟨0,e.a.s c h a,f.g.n c h a n,λb d=>?_,λb d=>?_⟩;refine AY e.nb c h a b ((Ps e c h a i 3400 b d o f.a n p q w).mono ?_);rintro U V ⟨W,rfl,rfl,X,D,x,E,G,H⟩;exact⟨_,rfl,rfl,(f.e d).a D x E G H (by omega) (by rw[x];exact SZ f.d c h a)⟩;rw[u]at t q;rw[v]at p;have:=MF j c h a l b d r p q w n t.2.2;rw[f.b]at this;exact this;refine tu f 7 (λb d=>AY e.nb k g a b ((Pr e k g a b d y).mono ?_)) (λb d=>ME j k g a b d (by omega));grind
def GK{c o}(d:iO c o)(k){w0}(K:bn w0 c):qg 32 93 (λp=> #[p,.int J k]) c o:=by
 obtain⟨aI,aJ,M,aK⟩:=d.c;by_cases O:0<=k/\k<(c.aS.length:Int);obtain⟨e,rfl⟩:∃e:Nat,k=(e:Int):=⟨k.toNat,by omega⟩
 have Q:e<c.aS.length:=by omega
 obtain⟨s,b,A,R,U,u⟩:=d.f Q;have v:=bn.h d.a A;have V:s.l=b.l:=Vj AP.l u;rw[V]at v;have W:c.a.fu.length<=300:=by rw[bn.b.1];exact M
 refine⟨0,c.a.x e,d.g.h W e,λw i=>?_,λw i=>?_⟩;refine Ek c.nb e w ((OZ c e s 3400 w i A d.a d.d (by omega)).mono ?_);rintro aL aM ⟨rfl,aN,X,Y,Z,aa,ab,ac⟩;exact⟨_,rfl,rfl,(d.e i).a X Y Z aa ab (by omega) ac⟩;obtain⟨g,ad,ae,af,ag⟩:=d.g.g U;have q:=af;unfold AN.e at q;cases l:c.a.bd[b.b.t]? with
 |none=>rw[l]at q;cases q
 |some ah=>
  rw[l]at q;have t:=q;have ai:b.b.t<c.aK.length:=by have:=(Ul.1 l).1;rw[bn.b.2]at this;exact this
  obtain⟨x,a,aj,ak,C,al⟩:=d.h ai;rw[l]at C;have am:ah=a.a:=Wn C;subst am;have D:(a.ss.map λa=>(a.t,a.e))[g]?=S ad:=t;rw[Uz]at D;obtain⟨f,an,ao⟩:=UD.1 D;subst ao;have y:a.a.ss.findIdx (λh=>h.1==b.b.f)=g:=by have:(c.a.f e).w b.b.t b.b.f=g:=ae;unfold AN.w at this;have aO:(c.a.f e).bd[b.b.t]?=S a.a:=l;grind
  have ap:g<a.a.ss.length:=(Ul.1 t).1;have aq:f.t=b.f:=by
   have z:a.a.ss.findIdx (λh=>h.1==b.b.f)<a.a.ss.length:=by rw[y];exact ap
   have n:=List.findIdx_getElem (p:=λh:Nat×En=>h.1==b.b.f) (xs:=a.a.ss) (w:=z);have m:a.a.ss[a.a.ss.findIdx λh=>h.1==b.b.f]?=S (f.t,f.e):=by rw[y];exact t
   rw[Um z]at m;rw[Wn m]at n;exact(eq_of_beq n)
  have ar:∀j r,j<g->a.ss[j]?=S r->r.t≠b.f:=λj r au aP aQ=>by
   have z:j<a.a.ss.findIdx (λh=>h.1==b.b.f):=by rw[y];exact au
   have m:a.a.ss[j]?=S (r.t,r.e):=by show (a.ss.map λa=>(a.t,a.e))[j]?=_;grind
   obtain⟨aR,aS⟩:=Ul.1 m;grind
  have aT:=d.g.e l;have av:a.ss.length<=100:=by
   have n:=(d.a.a _ a.a l).2.1;have m:a.a.ss.length=a.ss.length:=by simp[Ds.a]
   omega
  have E:(∀(e:Nat)(s:Fr.cF),f.e.aO[e]?=S (S s)->f.e.aT+e<65536)/\f.e.aT<=65536:=by
   have n:(x.ss.map Sd.b)[g]?=S (f.t,f.e):=by
    have:x.a.ss[g]?=S (f.t,f.e):=by rw[al];exact t
    exact this
   rw[Uz]at n;obtain⟨G,m,aw⟩:=UD.1 n;have H:=K.j8 _ x aj g G m;have ax:G.e=f.e:=Vj Prod.snd aw;rw[<-ax];exact⟨H.kn,H.vD⟩
  have ay:wQ (((o.a.f e).a b.t g λu=>u.d (eK b.l)).d b.t g) b.t g (f.e.b (eK b.l)):=by rw[d.b];intro j az aA;obtain⟨aB,aC,aD,aE,aF,aG,aH⟩:=ag j az aA;exact⟨aB,aC,aD,MI aE,aF,aG,aH⟩
  have:=Ma o e b a g f w i R (by omega) d.i ak an aq ar (by omega) av v.2.2 v.2.1 E.1 E.2 ay;rw[d.b]at this;exact this
 refine tu d 7 (λw i=>Ek c.nb k w ((OY c k w i O).mono ?_)) (λw i=>L9 o k w i (by omega));grind
structure Mp where
 cP:Nt
 D:Dn
structure AH(w:World)(tag:Nat->Nat)(c:Nat)(b:Mp):Prop where
 oq:bn w b.cP
 qV:bP w b.D
 tp:∀a,b.cP.c a->tag a=22+4*c
 tr:∀a,b.D.cE a≠(0,0,0)->tag a=23+4*c
def bP.h{w a}(b:bP w a){k}(c:a.cE k≠(0,0,0)):k<w.heap.size:=by apply UC;intro d;exact c (b.jc k (by omega))
def AH.a{f w w' tag tag' d g}(c:AH w tag d g)(k:ae f w w')(e:∀k,k<w.heap.size->(tag k=22+4*d\/tag k=23+4*d)->¬f k/\tag' k=tag k):AH w' tag' d g where
 oq:=c.oq.a k λa b=>(e a (c.oq.e b) (Ur (c.tp a b))).1
 qV:=c.qV.g k λa b h=>by apply UC;intro i;exact(e a b (Up (c.tr a i))).1 h
 tp:=λa b=>(e a (c.oq.e b) (Ur (c.tp a b))).2.trans (c.tp a b)
 tr:=λa b=>(e a (c.qV.h b) (Up (c.tr a b))).2.trans (c.tr a b)
def rk(a:Mp):List Value:=[P (S ⟨a.cP.nb,0,N⟩),P (S ⟨a.D.b,0,N⟩)]
def m9(l:List Mp):List Value:=l.flatMap rk
def P3(l m):m9 (l++m)=m9 l++m9 m:=by simp[m9]
def P4(l a b)(d:l[a]?=S b):(m9 l)[a*2]?=S (P (S ⟨b.cP.nb,0,N⟩))/\(m9 l)[a*2+1]?=S (P (S ⟨b.D.b,0,N⟩)):=
 ⟨pD (f:=rk) (c:=2) (λ_=>rfl) l a b d 0 (by omega),pD (f:=rk) (c:=2) (λ_=>rfl) l a b d 1 (by omega)⟩
def GF(l a c d)(b:l[a]?=S c)(e:rk d=rk c):m9 (l.set a d)=m9 l:=by
 induction l generalizing a with
 |nil=>simp at b
 |cons g h f=>
  cases a with
  |zero=>simp at b;subst b;simp[m9,e]
  |succ a=>
   have:=f a b;simp only[m9,UB,Vs]at this|-;rw[this]
structure ix(na:Option Addr)(nc:Nat)(l:List Mp)(w:World)(tag:Nat->Nat):Prop where
 b:RV w 103 2 na l.length nc (m9 l)
 c:∀d,ag na d->tag d=18
 a:∀e f,l[e]?=S f->AH w tag e f
def ix.d(na nc l):qZ (ix na nc l):=λf w w' tag tag' c a g=>by have e:∀a,a<w.heap.size->(tag a=18\/(20<=tag a/\2<=tag a%4))->¬f a/\tag' a=tag a:=λa h i=>g a h (Up i);refine⟨c.b.a a λb d=>(e b (c.b.b b d) (Ur (c.c b d))).1,λb d=>(e b (c.b.b b d) (Ur (c.c b d))).2.trans (c.c b d),λj k m=>(c.a j k m).a a λn o p=>e n o (Up (by omega))⟩
section
variable {W0 w w' : World} {tag tag' : Nat → Nat} {yb : Nat} {ea : Option Addr} {ec : Nat} {l : List Lp} {p1 : Value} {R : Nat → Rw} {Y Y' Z : World → (Nat → Nat) → Prop}
def LS.q{g}(c:LS W0 w tag yb ea ec l p1 R Y Z)(h:qZ Y')(k:ae g w w')(e:∀a,a<w.heap.size->g a->tag a=18\/(20<=tag a/\2<=tag a%4))(f:∀a,a<w.heap.size->tag' a=tag a)(j:∀a,w'.heap.size<=a->tag' a=0)(m:Y' w' tag'):LS W0 w' tag' yb ea ec l p1 R Y' Z:=by refine⟨h,c.z,c.b.d (C':=ql W0 R ea ec l Y' Z h c.z) k (λa b d=>by have:=e a b d;omega) (λa b _=>f a b) j ⟨?_,m,?_⟩ rfl⟩;exact c.g.a k (λa b i=>⟨λd=>by have:=e a b d;omega,f a b⟩);exact c.z _ _ _ _ _ c.e k λa b i=>⟨λd=>by have:=e a b d;unfold zt at i;omega,f a b⟩
end
def Gi{l:List Mp}{a d c}(e:l[a]?=S d){b z}(f:(l.set a c)[b]?=S z):(b=a/\z=c)\/(b≠a/\l[b]?=S z):=by by_cases g:b=a;grind;grind
section
variable {W0 w w' : World} {tag : Nat → Nat} {yb : Nat} {ea : Option Addr} {ec : Nat} {l : List Lp} {p1 : Value} {R : Nat → Rw} {Z : World → (Nat → Nat) → Prop} {na : Option Addr} {nc : Nat} {m : List Mp}
def LS.x(d:LS W0 w tag yb ea ec l p1 R (ix na nc m) Z){i f}(p:m[i]?=S f){j}(t:bn w' j)(q:du w w' f.cP j):
 ∃tag',LS W0 w' tag' yb ea ec l p1 R (ix na nc (m.set i {f with cP:=j})) Z/\(∀a,a<w.heap.size->tag' a=tag a):=by
 classical
 obtain⟨tag',r⟩:∃tag':Nat->Nat,tag'=λa=>if a<w.heap.size then tag a else if j.c a then 22+4*i else 0:=⟨_,rfl⟩
 have g:∀a,a<w.heap.size->tag' a=tag a:=λa e=>by rw[r];simp only[e,VR]
 have e:=q.b;have b:=d.c.a i f p;refine⟨tag',d.q (ix.d _ _ _) e (λa n c=>by have:=b.tp a c;omega) g (λa n=>?_) ?_,g⟩;have A:=e.size;rw[r];simp only;rw[Us (by omega),Us λc=>by have:=t.e c;omega];refine⟨?_,λh o=>?_,λx y s=>?_⟩;rw[UA,GF m i f {f with cP:=j} p (by simp[rk,q.a])];exact d.c.b.a e (λh o c=>by have:=b.tp h c;have:=d.c.c h o;omega);rw[g h (d.c.b.b h o)];exact d.c.c h o;obtain⟨rfl,rfl⟩|⟨C,s⟩:=Gi p s;refine⟨t,b.qV.g e λa n c=>?_,λa k=>?_,λa k=>?_⟩;apply UC;intro z;have:=b.tp a c;have:=b.tr a z;omega;by_cases u:a<w.heap.size;rw[g a u];obtain v|v:=q.d a k;exact b.tp a v;omega;rw[r];simp only;rw[Us u,UG k];rw[g a (b.qV.h k)];exact b.tr a k;exact(d.c.a x y s).a e λa n D=>⟨λc=>by have:=b.tp a c;omega,g a n⟩
def LS.v(d:LS W0 w tag yb ea ec l p1 R (ix na nc m) Z){j g}(p:m[j]?=S g){k}(t:bP w' k)(q:dR w w' g.D k):
 ∃tag',LS W0 w' tag' yb ea ec l p1 R (ix na nc (m.set j {g with D:=k})) Z/\(∀a,a<w.heap.size->tag' a=tag a):=by
 obtain⟨tag',r⟩:∃tag':Nat->Nat,tag'=λa=>if a<w.heap.size then tag a else if k.cE a≠(0,0,0)then 23+4*j else 0:=⟨_,rfl⟩
 have h:∀a,a<w.heap.size->tag' a=tag a:=λa e=>by rw[r];simp only[e,VR]
 have e:=q.e;have b:=d.c.a j g p;refine⟨tag',d.q (ix.d _ _ _) e (λa n c=>by have:=b.tr a c;omega) h (λa n=>?_) ?_,h⟩;have z:=e.size;rw[r];simp only;rw[Us (by omega),Us λc=>c (t.jc a n)];refine⟨?_,λi o=>?_,λx y s=>?_⟩;rw[UA,GF m j g {g with D:=k} p (by simp[rk,q.b])];exact d.c.b.a e (λi o c=>by have:=b.tr i c;have:=d.c.c i o;omega);rw[h i (d.c.b.b i o)];exact d.c.c i o;obtain⟨rfl,rfl⟩|⟨A,s⟩:=Gi p s;refine⟨b.oq.a e (λa f c=>by have:=b.tp a f;have:=b.tr a c;omega),t,λa f=>?_,λa f=>?_⟩;rw[h a (b.oq.e f)];exact b.tp a f;by_cases u:a<w.heap.size;rw[h a u];obtain v|v:=q.f a f;exact b.tr a v;omega;rw[r];simp only;rw[Us u,UG f];exact(d.c.a x y s).a e λa n C=>⟨λc=>by have:=b.tr a c;omega,h a n⟩
end
def fe(W0 w:World)(yb a:Nat):Prop:=∃(na:Option Addr)(nc:Nat)(m:List Mp),fQ W0 w yb (L na m.length nc) (ix na nc m) a/\(∀b∈m,iO b.cP b.D)/\(m.length:Int)<=a
def fe.c{W0 w w' yb a}(b:fe W0 w yb a)(k:ae aa w w'):fe W0 w' yb a:=
 let ⟨na,nc,m,c,d,e⟩:=b;⟨na,nc,m,c.b k,d,e⟩
def fe.a{W0 w yb a b}(c:fe W0 w yb a)(d:a<=b):fe W0 w yb b:=
 let ⟨na,nc,m,e,f,g⟩:=c;⟨na,nc,m,e.a d,f,by omega⟩
def O0{m:List Mp}{b a z}(c:z∈m.set b a):z∈m\/z=a:=VK c
def Gn{W0 w tag yb ea ec l R Z na nc m}(y:LS W0 w tag yb ea ec l (L na m.length nc) R (ix na nc m) Z)(an:hU l){z}(ao:bZ R l<=z)(ap:(m.length:Int)<=z)(U:∀a∈m,iO a.cP a.D){c a}(k:m[c]?=S a){A C n}(V:qg A C n a.cP a.D):
 ∃h,Calls prog A (n (P (S ⟨a.cP.nb,0,N⟩))) w λo p=>∃q,o= .returned q/\q= .int J h/\ae (λb=>tag b=22+4*c) w p/\
  ∀i,ae aa p i->Cr C (n (P (S ⟨a.D.b,0,N⟩))) i (.int J h) λr=>ae (λb=>tag b=22+4*c\/tag b=23+4*c) w r/\
   ∃tag' g s,LS W0 r tag' yb ea ec l (L na g.length nc) R (ix na nc g) Z/\(∀a∈g,iO a.cP a.D)/\g.length=m.length/\g[c]?=S s/\s.cP.nb=a.cP.nb/\s.D.b=a.D.b/\(∀e,e<w.heap.size->tag' e=tag e):=by
 obtain⟨h,aq,W,X,Y⟩:=V;have t:=y.c.a c a k;refine⟨h,(X w t.oq).mono ?_⟩;rintro o p ⟨q,rfl,rfl,j,E,ab,f,ar⟩;refine⟨_,rfl,rfl,f.b.d λb _ d=>t.tp b d,λi u=>?_⟩;obtain⟨ac,ad,G⟩:=y.x k E.c f;have H:=ad.a u;have K:=(Ul.1 k).1;have M:(m.set c {a with cP:=j})[c]?=S {a with cP:=j}:=UQ K;have O:=H.c.a c _ M;refine(Y i O.qV).mono ?_;rintro o r ⟨rfl,Q,af,ag,v⟩;obtain⟨ah,ai,aj⟩:=H.v M af v;have au:=UM f.b.size u.size;rw[Xu]at ai;refine⟨rfl,?_,ah,m.set c {cP:=j,D:=Q}, {cP:=j,D:=Q},?_,λak x=>?_,by simp,UQ K,f.a,v.b,λe al=>?_⟩;exact(((f.b.d λb _ d=>t.tp b d).c (u.d λ_ _ d=>d.elim)).d λb _ d=>Ur d).g (v.e.d (ex':=λb=>ac b=23+4*c) λb _ d=>O.tr b d) (λb am d=>Up (by rw[<-G b am];exact d));grind;obtain x|rfl:=O0 x;exact U ak x;exact iO.l W E ab f ag;rw[aj e (by omega),G e al]
end Go.Proofs.YtlfijfodklhplaaGreat
