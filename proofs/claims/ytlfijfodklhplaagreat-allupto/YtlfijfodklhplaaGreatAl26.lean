import Derived.Test.YtlfijfodklhplaaGreatAl25
import Derived.Test.YtlfijfodklhplaaGreatAl19
import Derived.Deep.CutBlock
set_option maxRecDepth 100000
set_option maxHeartbeats 4000000
set_option linter.all false
open Go.RowKit Go.Proofs.Tryz
open Go.Value renaming int->I,slice->L,pointer->P,bool->B
open Go.IntKind renaming i64->J
open Option renaming some->S,none->N
open Bool renaming true->T,false->F
namespace Go.Proofs.YtlfijfodklhplaaGreat
def RV.e{g a h i j c b e}(k:RV g a h (S ⟨c,b,N⟩) i j e)(d)(t:d<e.length)(f):RV (g.setCell ⟨c,b+d,N⟩ f) a h (S ⟨c,b,N⟩) i j (e.set d f):=by obtain⟨l,m,n⟩:=k;obtain⟨a,_⟩|⟨u,v,a,o,p,q,r,s⟩:=n;cases a;cases a;refine⟨by simpa using l,m,Up ⟨c,b,rfl,o,p,?_,r,by simpa using s⟩⟩;have:=q.f (b+d) f;grind
def QJ(e):∀a c b,e[a]?=S c->b.e=c.e->b.a=c.a->b.b=c.b->eZ (e.set a b)=(eZ e).set (a*4+3) (B b.sp):=by
 induction e with
 |nil=>intro a c b d;simp at d
 |cons l o m=>
  intro a c b d i j k;have f:∀(g:Pk)(h:List Pk),eZ (g::h)=nf g++eZ h:=λg h=>by simp[eZ]
  cases a with
  |zero=>
   simp only[U8,VO]at d;subst d;rw[UE,f,f,Ws _ _ (by simp[nf])];simp[nf,i,j,k]
  |succ a=>
   have n:(nf l).length=4:=rfl;rw[UB,f,f,m a c b d i j k,Vy _ _ (by omega),n,show (a+1)*4+3-4=a*4+3 by omega]
def Nt.m(a:Nt)(k:Nat)(b:Pk)(c d:Nat):Nt:= {a with aS:=a.aS.set k {b with l:=b.l.set c d,sp:=T}}
def bn.C{s d}(f:bn s d){k g v:Nat}{c}(x:d.aS[k]?=S c)(ak:g<c.l.length){h t}(R:d.ba=S ⟨h,t,N⟩):
 bn ((s.setCell ⟨c.g,g,N⟩ (.int .u8 (v:Int))).setCell ⟨h,t+k*4+3,N⟩ (B T)) (d.m k c g v)/\du s ((s.setCell ⟨c.g,g,N⟩ (.int .u8 (v:Int))).setCell ⟨h,t+k*4+3,N⟩ (B T)) d (d.m k c g v):=by
 have U:=Uo x;have az:=(Ul.1 x).1;have z:d.b .eY c.g:=⟨c,U,rfl⟩
 have A:d.b .dY h:=by show ag d.ba h;rw[R];exact eN h t
 have al:c.g≠h:=λa=>by have:=f.fk .eY .dY h (a▸z) A;cases this
 obtain⟨C,E⟩:=ah (s.setCell ⟨c.g,g,N⟩ (I .u8 (v:Int)));obtain⟨V,G⟩:=ah (C.setCell ⟨h,t+k*4+3,N⟩ (B T));have W:ae (ap c.g) s C:=by rw[E];exact(ae.a (ap c.g) s).e (p:=⟨c.g,g,N⟩) (λ_=>rfl) _
 have X:ae (ap h) C V:=by rw[G];exact(ae.a (ap h) C).e (p:=⟨h,t+k*4+3,N⟩) (λ_=>rfl) _
 have n:=(W.d λ_ _ a=>Ur a).c (X.d λ_ _ a=>Up a);rw[<-E,<-G];have Y:(d.aS.set k {c with l:=c.l.set g v,sp:=T}).map Pk.g=d.aS.map Pk.g:=yH Pk.g _ _ _ _ x rfl;have H:∀j b,(d.m k c g v).b j b->d.b j b:=λj b e=>by
  cases j with
  |eY=>
   obtain⟨o,K,rfl⟩:=e;have i:o.g∈(d.aS.set k {c with l:=c.l.set g v,sp:=T}).map Pk.g:=Vb.2 ⟨o,K,rfl⟩;rw[Y]at i;obtain⟨am,an,a⟩:=Vb.1 i;exact⟨am,an,a⟩
  |cZ m aA=>exact e
  |_=>exact e
 have u:∀(j:Pt)(b:Nat),d.b j b->j≠ .eY->j≠ .dY->¬(b=c.g\/b=h):=λj b D i w a=>by obtain a|a:=a;exact i (f.fk _ _ b D (a▸z));exact w (f.fk _ _ b D (a▸A))
 refine⟨⟨?_,?_,?_,?_,?_,?_,?_,?_,?_,?_,?_⟩,⟨?_,?_,rfl,rfl,rfl,rfl,rfl,rfl,rfl,rfl⟩⟩;have:=f.fq.c n (u .fV d.nb rfl (by simp) (by simp));simpa [Nt.cells,Nt.m]using this;exact f.oy.a n (λb e=>u .iB b e (by simp) (by simp));exact f.pu.a n (λb e=>u .gk b e (by simp) (by simp));have i:=f.pt.a W λb e a=>by rw[show b=c.g from a]at e;have:=f.fk .dY .eY c.g e z;cases this
 show RV V 200 4 d.ba (d.aS.set k _).length d.bc (eZ (d.aS.set k _));rw[R]at i|-;have w:=i.e (k*4+3) (by rw[wD];omega) (B T);rw[<-UI,<-G]at w;rw[UA,QJ d.aS k c {c with l:=c.l.set g v,sp:=T} x rfl rfl (by simp[Pk.b])];exact w;intro o K;have ao:o∈d.aS.set k {c with l:=c.l.set g v,sp:=T}:=K;obtain⟨M,aq,ar⟩:=U3 ao;have au:(d.aS.set k {c with l:=c.l.set g v,sp:=T})[M]?=S o:=by rw[Um aq,ar]
 obtain⟨_,rfl⟩|⟨av,Z⟩:=lL au;have i:=(f.l5 c U).e g (by simpa using ak) (I .u8 (v:Int));rw[Ve,<-E]at i;have w:=i.a X (λb e a=>by rw[cM.1 e]at a;exact al a);unfold jw;rw[UA,Wl];exact w;have aw:o.g≠c.g:=λa=>by
  have O:=f.oz;rw[Vv]at O;obtain⟨aa,ab⟩:=(Ul.1 Z)
  obtain⟨ac,ad⟩:=(Ul.1 x)
  obtain Q|Q:=Nat.lt_or_gt_of_ne av;have:=O M k aa ac Q;rw[ab,ad]at this;exact this a;have:=O k M ac aa Q;rw[ab,ad]at this;exact this a.symm
 have af:=Uo Z;refine(f.l5 o af).a n λb e a=>?_;rw[cM.1 e]at a;obtain a|a:=a;exact aw a;have:=f.fk .eY .dY h ⟨o,af,a⟩ A;cases this;have:=f.oz;have i:(d.aS.map Pk.g).Pairwise (· ≠·):=Wm.2 this;rw[<-Y]at i;exact Wm.1 i;exact λm q r=>(f.kI m q r).b n (λb e=>u (.cZ m .ic) b ⟨q,r,e⟩ (by simp) (by simp));exact λm q r=>(f.nH m q r).a n (λb e=>u (.cZ m .fP) b ⟨q,r,e⟩ (by simp) (by simp));exact λm q r y ai aj=>(f.j8 m q r y ai aj).a n (λb e=>u (.cZ m (.dX y)) b ⟨q,r,ai,aj,e⟩ (by simp) (by simp));exact λb e=>Un (f.oA b e) n.size;exact λm y b ax ay=>f.fk m y b (H m b ax) (H y b ay);refine n.d λb _ a=>?_;obtain a|a:=a;exact⟨.eY,by simp,a▸z⟩;exact⟨.dY,by simp,a▸A⟩;rintro b ⟨j,D,e⟩;exact Ur ⟨j,D,H j b e⟩
def KD{d e}(a:dw d e)(k h f)(i:f<256):dw (d.s k h f) e:=by unfold AN.s;split;exact a;rename_i j l;split;refine⟨a.d,a.a,a.c,a.f,by simpa using a.b,λb c=>?_,a.g⟩;obtain m|rfl:=VK c;exact a.e b m;obtain⟨o,p,q,r⟩:=a.e j (Uo l);refine⟨λv s=>?_,by simpa using p,by simpa using q,r⟩;obtain⟨w,t,rfl⟩:=U3 s;obtain⟨b,c,u⟩:=km (Um t);have g:=o b (Uo c);rw[u];split;exact Xq (n:=8) g i;exact g;exact a
def Ke{N:Nt}{k b c d a}(f:N.aS[k]?=S a)(g:a.sp=F)(e:a.l[b]?=S d)(h:c≠0):(N.m k a b (d ^^^ c)).a=N.a.s k b c:=by unfold AN.s;rw[s7 f];simp only;rw[UG ⟨g,((Ul.1 e).1),h⟩];simp only[Nt.a,Nt.m,Wl,Pk.f];rw[pE e]
def Pr(a k d)(e:Nat)(b)(f:bn b a)(i:¬(0<=k/\k<(a.aS.length:Int))):
 Cr 70 #[P (S ⟨a.nb,0,N⟩),.int J k,.int J d,.int .u8 (e:Int)] b (.int J 7) λg=>ae aa b g:=by
 have h(_:=()):∀c,_:=λc=>rY a.ba a.aS.length a.bc k c;have j:=f.c;go_enter func70,ntmps70;go_wp2_with fail;refine Uq (h () _) ?_;rintro l c ⟨rfl,m⟩;go_wp2;go_ret;simp_all
def vU{b:Type}{c:b->List Value}{d}(f:∀e,(c e).length=d)(a:List b):(a.flatMap c).length=a.length*d:=by
 induction a with
 |nil=>simp
 |cons e a g=>rw[Vs,Uu,g,f,Vg,Xv];omega
def pD{j:Type}{f:j->List Value}{c}(h:∀a,(f a).length=c):∀(e:List j)(g:Nat)(a:j),e[g]?=S a->∀b,b<c->(e.flatMap f)[g*c+b]?=(f a)[b]?
 |[],g,a,d,b,i=>by simp at d
 |k::e,0,a,d,b,i=>by simp only[U8,VO]at d;subst d;rw[Vs,Xr,Ve,Ux (by rw[h];exact i)]
 |k::e,g+1,a,d,b,i=>by rw[UH]at d;have:=pD h e g a d b i;rw[Vs,Xv,Ut (by rw[h];omega),h,<-this];congr 1;omega
def ti{l:Type}{h:l->List Value}{m}(i:∀a,(h a).length=m):∀(d:List l)(e:Nat)(a f:l),d[e]?=S a->∀b,b<m->∀g,(h a).set b g=h f->(d.flatMap h).set (e*m+b) g=(d.set e f).flatMap h
 |[],e,a,f,c,b,j,g,k=>by simp at c
 |n::d,0,a,f,c,b,j,g,k=>by simp only[U8,VO]at c;subst c;rw[Vs,Xr,Ve,Ws _ _ (by rw[i];exact j),k,UE,Vs]
 |n::d,e+1,a,f,c,b,j,g,k=>by rw[UH]at c;have:=ti i d e a f c b j g k;rw[Vs,Xv,Vy _ _ (by rw[i];omega),i,UB,Vs,<-this];congr 2;omega
def fX(a:Nat):Int:=if a=1001 then 1073741824 else (a:Int)
structure Dd where
 t:Nat
 b:Nat
 e:En
 r:Rf
 p:Rp
def Dd.a(a:Dd):Nat×Nat:=(a.t,a.b)
def vP(a:(Nat×Nat)×(Nat×Nat)):List Value:=[I J (a.1.1:Int),I J (a.2.1:Int),I J (a.1.2:Int),P (S ⟨a.2.2,0,N⟩)]
def lJ(a:List (Nat×Nat))(b:List Dd):List Value:=(a.zip (b.map Dd.a)).flatMap vP
structure Ds where
 n:ay
 sa:Option Addr
 sc:Nat
 ss:List Dd
 oa:Option Addr
 oc:Nat
def eJ(a:Ds):List Value:=[I J (a.n.aP:Int),I J (a.n.aM:Int),I J (a.n.cX:Int),L a.sa a.ss.length a.sc,I J (oi a.n.cq),I J (oi a.n.dj),I J (fX a.n.bw),I J (oi a.n.cB),I J a.n.bI,B a.n.iy,L a.oa a.n.an.length a.oc]
def jS(a:List Ds):List Value:=a.flatMap eJ
def wB(a:Nat×bV):List Value:=I J (a.1:Int)::dy a.2.a
def hQ(a:List (Nat×bV)):List Value:=a.flatMap wB
structure Dk where
 f:Nat
 t:Nat
 l:List Nat
 g:Nat
 c:Nat
 sp:Bool
def nJ(a:Dk):List Value:=[I J (a.f:Int),I J (a.t:Int),L (S ⟨a.g,0,N⟩) a.l.length a.c,B a.sp]
def fI(a:List Dk):List Value:=a.flatMap nJ
structure Dn where
 b:Nat
 d:List Ed
 l:Option Addr
 m:Nat
 c:Nat
 i:Nat
 aE:List Ds
 aV:List Dk
 ba:Option Addr
 bc:Nat
 cE:Nat->Nat×Nat×Nat
def Ds.a(a:Ds):AS:=⟨a.n,a.ss.map λb=>(b.t,b.e)⟩
def Dk.b(a:Dk):AP:=⟨a.f,a.t,a.l,a.sp⟩
def Dn.a(a:Dn):AN:=⟨a.d,a.aE.map Ds.a,a.aV.map Dk.b⟩
def Dn.cells(a:Dn):Array Value:= #[L a.l a.d.length a.m,L (S ⟨a.c,0,N⟩) a.aE.length a.i,L a.ba a.aV.length a.bc]
structure bP(f:World)(a:Dn):Prop where
 dk:aq f a.b a.cells 216
 jq:RV f 30 3 a.l a.d.length a.m (cA a.d)
 jL:RV f 220 11 (S ⟨a.c,0,N⟩) a.aE.length a.i (jS a.aE)
 iG:RV f 229 4 a.ba a.aV.length a.bc (fI a.aV)
 iH:∀(d:Nat)(b:Ds),a.aE[d]?=S b->RV f 222 4 b.sa b.ss.length b.sc (lJ b.n.ai b.ss)
 gL:∀(d:Nat)(b:Ds),a.aE[d]?=S b->b.n.ai.length=b.ss.length
 jd:∀(d:Nat)(b:Ds),a.aE[d]?=S b->RV f 289 5 b.oa b.n.an.length b.oc (hQ b.n.an)
 eC:∀(d:Nat)(b:Ds),a.aE[d]?=S b->∀(h:Nat)(e:Dd),b.ss[h]?=S e->cV f e.b e.r e.p/\Lk e.e e.r
 fD:∀g∈a.aV,gp f g.g g.l g.c/\g.l.length<=g.c
 kP:(a.aV.map (·.g)).Nodup
 t1:a.cE a.b=(1,0,0)
 t2:a.cE a.c=(2,0,0)
 t3:∀c,ag a.ba c->a.cE c=(3,0,0)
 t4:∀g∈a.aV,a.cE g.g=(4,0,0)
 t5:∀c,ag a.l c->a.cE c=(5,0,0)
 t6:∀(d:Nat)(b:Ds),a.aE[d]?=S b->∀c,ag b.sa c->a.cE c=(6,d,0)
 t7:∀(d:Nat)(b:Ds),a.aE[d]?=S b->∀c,ag b.oa c->a.cE c=(7,d,0)
 t8:∀(d:Nat)(b:Ds),a.aE[d]?=S b->∀(h:Nat)(e:Dd),b.ss[h]?=S e->∀c,hJ e.b e.p c->a.cE c=(8,d,h)
 jc:∀c,f.heap.size<=c->a.cE c=(0,0,0)
structure dR(i w':World)(a h:Dn):Prop where
 b:h.b=a.b
 d:h.c=a.c
 g:h.aE.map (·.sa)=a.aE.map (·.sa)
 e:ae (λc=>a.cE c≠(0,0,0)) i w'
 f:∀c,h.cE c≠(0,0,0)->a.cE c≠(0,0,0)\/i.heap.size<=c
def za{a:List Ds}{b c d}(e:a[b]?=S c)(f:d.sa=c.sa):(a.set b d).map (·.sa)=a.map (·.sa):=by apply Vc;intro g;grind
def dR.h(a b):dR a a b b:=⟨rfl,rfl,rfl,ae.a _ _,λ_ c=>Ur c⟩
def dR.a{e w1 f g h i}(a:dR e w1 g h)(k:dR w1 f h i):dR e f g i:=
 ⟨k.b.trans a.b,k.d.trans a.d,k.g.trans a.g,a.e.g k.e (λb j d=>(a.f b d).elim id λc=>by omega),λb d=>(k.f b d).elim (λc=>a.f b c) λc=>Up (UM a.e.size c)⟩
def dR.c{a w1}(b)(k:ae aa a w1):dR a w1 b b:=⟨rfl,rfl,rfl,k.d λ_ _ c=>c.elim,λ_ d=>Ur d⟩
def gz{a c d b}(e:b=(a,c,d))(f:a≠0):b≠(0,0,0):=by rw[e];intro g;cases g;exact f rfl
def uV{a:Dn}{b t}(c:ag (S ⟨a.c,0,N⟩) b)(d:a.cE a.c=t):a.cE b=t:=by rw[show b=a.c from cM.1 c];exact d
def bP.g{p j w' l}(a:bP j l)(k:ae p j w')(s:∀g,g<j.heap.size->p g->l.cE g=(0,0,0)):bP w' l:=by have no:∀ {g:Nat} {r t h:Nat},l.cE g=(r,t,h)->r≠0->g<j.heap.size->¬p g:=λu v q i=>gz u v (s _ q i);exact {dk:=a.dk.c k (no a.t1 (by omega) a.dk.b),jq:=a.jq.a k (λc b=>no (a.t5 c b) (by omega) (a.jq.b c b)),jL:=a.jL.a k (λc b=>no (uV b a.t2) (by omega) (a.jL.b c b)),iG:=a.iG.a k (λc b=>no (a.t3 c b) (by omega) (a.iG.b c b)),iH:=λd e f=>(a.iH d e f).a k (λc b=>no (a.t6 d e f c b) (by omega) ((a.iH d e f).b c b)),gL:=a.gL,jd:=λd e f=>(a.jd d e f).a k (λc b=>no (a.t7 d e f c b) (by omega) ((a.jd d e f).b c b)),eC:=λd e f m h n=>⟨(a.eC d e f m h n).1.a k (λc b=>no (a.t8 d e f m h n c b) (by omega) ((a.eC d e f m h n).1.b c b)),(a.eC d e f m h n).2⟩,fD:=λi o=>⟨(a.fD i o).1.a k (no (a.t4 i o) (by omega) (a.fD i o).1.b),(a.fD i o).2⟩,kP:=a.kP,t1:=a.t1,t2:=a.t2,t3:=a.t3,t4:=a.t4,t5:=a.t5,t6:=a.t6,t7:=a.t7,t8:=a.t8,jc:=λg q=>a.jc g (UM k.size q)}
def bP.a{a w' b}(c:bP a b)(k:ae aa a w'):bP w' b:=c.g k λ_ _ d=>d.elim
def qm(a):(eJ a).length=11:=rfl
def yn(a):(vP a).length=4:=rfl
def yo(a):(nJ a).length=4:=rfl
def GH(a):(wB a).length=5:=rfl
def bP.b{f b}(i:bP f b){c d}(g:b.aE[c]?=S d)(a e)(h:(eJ d)[a]?=S e):f.cell? ⟨b.c,c*11+a,N⟩=S e:=by
 have m:=(Ul.1 g).1;obtain⟨n,o,j,k⟩:=ja i.jL (by omega);cases j;have l:a<11:=by have:=(Ul.1 h).1;rw[qm]at this;exact this
 have:=k.a (c*11+a) e (by rw[<-h];exact pD qm b.aE c d g a l);grind
def bP.o{b a}(d:bP b a){e:Nat}{f}(g:a.aE[e]?=S f)(c):b.frozen? ⟨a.c,c,N⟩=F:=by have j:=(Ul.1 g).1;obtain⟨k,l,h,i⟩:=ja d.jL (by omega);cases h;exact i.c c
def bP.d{b a}(c:bP b a):a.c<b.heap.size:=c.jL.b a.c (cM.2 rfl)
def bP.f{e i}(n:bP e i){f a}(o:i.aE[f]?=S a){c j}(p:a.ss[c]?=S j){k}(s:a.n.ai[c]?=S k):∃b g,a.sa=S ⟨b,g,N⟩/\b<e.heap.size/\i.cE b=(6,f,0)/\(∀l,e.frozen? ⟨b,l,N⟩=F)/\∀d h,(vP (k,j.a))[d]?=S h->e.cell? ⟨b,g+c*4+d,N⟩=S h:=by
 have v:=(Ul.1 p).1;obtain⟨b,g,q,m⟩:=ja (n.iH f a o) (by omega);refine⟨b,g,q,m.b,n.t6 f a o b (by rw[q];exact eN _ _),λl=>m.c l,λd h r=>?_⟩;have t:d<4:=by have:=(Ul.1 r).1;rw[yn]at this;exact this
 have u:(a.n.ai.zip (a.ss.map Dd.a))[c]?=S (k,j.a):=by rw[WM,Uz,p];exact⟨s,rfl⟩
 have:=m.a (c*4+d) h (by rw[<-r];exact pD yn _ c _ u d t);rw[<-UI]at this;exact this
def nP{e:Type}{c:List e}{a k b d}(f:(c.set a d)[k]?=S b):(k=a/\b=d)\/(k≠a/\c[k]?=S b):=by by_cases g:k=a;grind;grind
def bP.q{u b}(a:bP u b){j k}(G:b.aE[j]?=S k)(n')(V:n'.ai=k.n.ai)(W:n'.an=k.n.an)(o v)(O:o<11)(Q:(eJ k).set o v=eJ {k with n:=n'}):
 bP (u.setCell ⟨b.c,j*11+o,N⟩ v) {b with aE:=b.aE.set j {k with n:=n'}}/\dR u (u.setCell ⟨b.c,j*11+o,N⟩ v) b {b with aE:=b.aE.set j {k with n:=n'}}:=by
 have r:ae (ap b.c) u (u.setCell ⟨b.c,j*11+o,N⟩ v):=(ae.a (ap b.c) u).e (p:=⟨b.c,j*11+o,N⟩) (λ_=>rfl) _;have X:=(Ul.1 G).1;have no:∀ {C:Nat} {K R w:Nat},b.cE C=(K,R,w)->K≠2->¬ap b.c C:=λD Y d=>by rw[show _=b.c from d,a.t2]at D;grind
 have U:(b.aE.set j {k with n:=n'}).length=b.aE.length:=UA;have x:∀ {e:Nat} {d:Ds},(b.aE.set j {k with n:=n'})[e]?=S d->∃c,b.aE[e]?=S c/\d.sa=c.sa/\d.sc=c.sc/\d.ss=c.ss/\d.oa=c.oa/\d.oc=c.oc/\d.n.ai=c.n.ai/\d.n.an=c.n.an:=λ{e d} h=>by obtain⟨l,q⟩|⟨l,q⟩:=nP h;grind;grind
 refine⟨{dk:=?_,jq:=a.jq.a r (λi f=>no (a.t5 i f) (by omega)),jL:=?_,iG:=a.iG.a r (λi f=>no (a.t3 i f) (by omega)),iH:=λe d h=>?_,gL:=λe d h=>?_,jd:=λe d h=>?_,eC:=λe d h E w y=>?_,fD:=λd H=>⟨(a.fD d H).1.a r (no (a.t4 d H) (by omega)),(a.fD d H).2⟩,kP:=a.kP,t1:=a.t1,t2:=a.t2,t3:=a.t3,t4:=a.t4,t5:=a.t5,t6:=λe d h i f=>?_,t7:=λe d h i f=>?_,t8:=λe d h E w y i f=>?_,jc:=λC M=>a.jc C (by rw[VS]at M;exact M)},rfl,rfl,za G rfl,r.d (λC _ D=>by rw[show C=b.c from D];exact gz a.t2 (by omega)),λ_ D=>Ur D⟩
 have l:({b with aE:=b.aE.set j {k with n:=n'}}:Dn).cells=b.cells:=by unfold Dn.cells;rw[U]
 rw[l];exact a.dk.c r (no a.t1 (by omega));have:=a.jL.e (j*11+o) (by unfold jS;rw[vU qm];omega) v;have l:(jS b.aE).set (j*11+o) v=jS (b.aE.set j {k with n:=n'}):=ti qm b.aE j k {k with n:=n'} G o O v Q;grind;obtain⟨c,g,l,q,m,s,z,t,A⟩:=x h;rw[l,q,m,t];exact(a.iH e c g).a r (λi f=>no (a.t6 e c g i f) (by omega));obtain⟨c,g,l,q,m,s,z,t,A⟩:=x h;rw[m,t];exact a.gL e c g;obtain⟨c,g,l,q,m,s,z,t,A⟩:=x h;rw[s,z,A];exact(a.jd e c g).a r (λi f=>no (a.t7 e c g i f) (by omega));obtain⟨c,g,l,q,m,s,z,t,A⟩:=x h;rw[m]at y;exact⟨(a.eC e c g E w y).1.a r (λi f=>no (a.t8 e c g E w y i f) (by omega)),(a.eC e c g E w y).2⟩;obtain⟨c,g,l,q,m,s,z,t,A⟩:=x h;rw[l]at f;exact a.t6 e c g i f;obtain⟨c,g,l,q,m,s,z,t,A⟩:=x h;rw[s]at f;exact a.t7 e c g i f;obtain⟨c,g,l,q,m,s,z,t,A⟩:=x h;rw[m]at y;exact a.t8 e c g E w y i f
def bP.u{z i}(b:bP z i){o a}(v:i.aE[o]?=S a){h M}(O:a.ss[h]?=S M){u K}(R:a.sa=S ⟨u,K,N⟩)(l:Nat):
 bP (z.setCell ⟨u,K+h*4+2,N⟩ (.int J l)) {i with aE:=i.aE.set o {a with n:=a.n.e h l}}/\dR z (z.setCell ⟨u,K+h*4+2,N⟩ (.int J l)) i {i with aE:=i.aE.set o {a with n:=a.n.e h l}}:=by
 have w:ae (ap u) z (z.setCell ⟨u,K+h*4+2,N⟩ (I J l)):=(ae.a (ap u) z).e (p:=⟨u,K+h*4+2,N⟩) (λ_=>rfl) _;have U:=b.t6 o a v u (by rw[R];exact eN _ _);have V:=(Ul.1 O).1;obtain⟨s,W⟩:∃s,a.n.ai[h]?=S s:=⟨_,Um (by rw[b.gL o a v];exact V)⟩
 have no:∀ {e:Nat} {X x t:Nat},i.cE e=(X,x,t)->(X,x,t)≠(6,o,0)->¬ap u e:=λq ac c=>by rw[show _=u from c,U]at q;grind
 have Y:(i.aE.set o {a with n:=a.n.e h l}).length=i.aE.length:=UA;have Z:(a.n.e h l).ai=a.n.ai.set h (s.1,l):=by unfold ay.e ay.p;rw[W]
 have D:∀ {d:Nat} {c:Ds},(i.aE.set o {a with n:=a.n.e h l})[d]?=S c->∃f,i.aE[d]?=S f/\c.sa=f.sa/\c.sc=f.sc/\c.ss=f.ss/\c.oa=f.oa/\c.oc=f.oc/\c.n.an=f.n.an/\c.n.ai.length=f.n.ai.length:=λ{d c} m=>by obtain⟨j,r⟩|⟨j,r⟩:=nP m;subst j;subst r;exact⟨a,v,rfl,rfl,rfl,rfl,rfl,rfl,by rw[Z,UA]⟩;grind
 refine⟨{dk:=?_,jq:=b.jq.a w (λe g=>no (b.t5 e g) (by simp)),jL:=?_,iG:=b.iG.a w (λe g=>no (b.t3 e g) (by simp)),iH:=λd c m=>?_,gL:=λd c m=>?_,jd:=λd c m=>?_,eC:=λd c m t x A=>?_,fD:=λc Q=>⟨(b.fD c Q).1.a w (no (b.t4 c Q) (by simp)),(b.fD c Q).2⟩,kP:=b.kP,t1:=b.t1,t2:=b.t2,t3:=b.t3,t4:=b.t4,t5:=b.t5,t6:=λd c m e g=>?_,t7:=λd c m e g=>?_,t8:=λd c m t x A e g=>?_,jc:=λe g=>b.jc e (by rw[VS]at g;exact g)},rfl,rfl,za v rfl,w.d (λe _ q=>by rw[show e=u from q];exact gz U (by omega)),λ_ q=>Ur q⟩
 have j:({i with aE:=i.aE.set o {a with n:=a.n.e h l}}:Dn).cells=i.cells:=by unfold Dn.cells;rw[Y]
 rw[j];exact b.dk.c w (no b.t1 (by simp));rw[Y];have j:jS (i.aE.set o {a with n:=a.n.e h l})=jS i.aE:=by unfold jS;have:=ti qm i.aE o a {a with n:=a.n.e h l} v 0 (by omega) (I J a.n.aP) rfl;rw[<-this];apply Vc;intro t;by_cases q:t=o*11+0;subst q;by_cases ab:o*11+0<(i.aE.flatMap eJ).length;rw[UQ ab,pD qm i.aE o a v 0 (by omega)];rfl;rw[VI (by rw[UA];omega),VI (by omega)];rw[Vt λs=>q s.symm]
 rw[j];exact b.jL.a w (λe g=>no (uV g b.t2) (by simp));obtain⟨j,r⟩|⟨j,r⟩:=nP m;subst j;subst r;have aa:=b.iH d a v;rw[R]at aa|-;have k:(a.n.ai.zip (a.ss.map Dd.a))[h]?=S (s,M.a):=by rw[WM,Uz,O];exact⟨W,rfl⟩
 have ad:=aa.e (h*4+2) (by unfold lJ;rw[vU yn,List.length_zip,UX,b.gL d a v];omega) (I J l);have j:(lJ a.n.ai a.ss).set (h*4+2) (I J l)=lJ (a.n.e h l).ai a.ss:=by unfold lJ;rw[ti yn _ h (s,M.a) ((s.1,l),M.a) k 2 (by omega) _ rfl,Z];congr 1;apply Vc;intro t;by_cases q:t=h;subst q;rw[UQ ((Ul.1 k).1)];symm;rw[WM];exact⟨UQ (by rw[b.gL d a v];exact V),by rw[Uz,O];rfl⟩;rw[Vt λs=>q s.symm];unfold List.zip;rw[Wd,Wd,Vt λs=>q s.symm]
 grind;exact(b.iH d c r).a w (λe g=>no (b.t6 d c r e g) (by intro q;cases q;exact j rfl));obtain⟨f,k,j,r,y,C,E,G,H⟩:=D m;rw[H,y];exact b.gL d f k;obtain⟨f,k,j,r,y,C,E,G,H⟩:=D m;rw[C,E,G];exact(b.jd d f k).a w (λe g=>no (b.t7 d f k e g) (by simp));obtain⟨f,k,j,r,y,C,E,G,H⟩:=D m;rw[y]at A;exact⟨(b.eC d f k t x A).1.a w (λe g=>no (b.t8 d f k t x A e g) (by simp)),(b.eC d f k t x A).2⟩;obtain⟨f,k,j,r,y,C,E,G,H⟩:=D m;rw[j]at g;exact b.t6 d f k e g;obtain⟨f,k,j,r,y,C,E,G,H⟩:=D m;rw[C]at g;exact b.t7 d f k e g;obtain⟨f,k,j,r,y,C,E,G,H⟩:=D m;rw[y]at A;exact b.t8 d f k t x A e g
noncomputable def Dn.e(b:Dn)(z:Nat)(c:Nat->Prop)(t:Nat×Nat×Nat):Nat->Nat×Nat×Nat:=by classical exact λa=>if z<=a/\c a then t else b.cE a
def oQ{a:Dn}{z b t k}(c:k<z):a.e z b t k=a.cE k:=by unfold Dn.e;rw[Us (by omega)]
def yw{b:Dn}{z a t k}(c:z<=k)(d:a k):b.e z a t k=t:=by unfold Dn.e;grind
def vV{a:Dn}{z b t k}(c:¬b k):a.e z b t k=a.cE k:=by unfold Dn.e;grind
def yv{a:Dn}{z c t k}(b:a.e z c t k≠(0,0,0)):a.cE k≠(0,0,0)\/z<=k:=by by_cases d:z<=k;omega;rw[oQ (by omega)]at b;exact Ur b
noncomputable def Dn.j(a:Dn)(z b:Nat)(c:Ds)(d:Nat)(f:Dd)(h:En)(i:Rf)(g:Rp):Dn:=
 {a with aE:=a.aE.set b {c with ss:=c.ss.set d {f with e:=h,r:=i,p:=g}},cE:=a.e z (hJ f.b g) (8,b,d)}
def bP.j{A w' j}(b:bP A j){o d}(C:j.aE[o]?=S d){l h}(Q:d.ss[l]?=S h)(e' u s)(W:cV w' h.b u s)(ac:Lk e' u)(R:fR A w' h.b h.p s):
 bP w' (j.j A.heap.size o d l h e' u s)/\dR A w' j (j.j A.heap.size o d l h e' u s):=by
 have w:=R.b;have X:∀a,mI h.b h.p a->j.cE a=(8,o,l):=λa c=>b.t8 o d C l h Q a (Ur c);have no:∀ {a:Nat} {U t k:Nat},j.cE a=(U,t,k)->(U,t,k)≠(8,o,l)->¬mI h.b h.p a:=λD ad f=>by grind
 have V:(j.aE.set o {d with ss:=d.ss.set l {h with e:=e',r:=u,p:=s}}).length=j.aE.length:=UA;have ae:(d.ss.set l {h with e:=e',r:=u,p:=s}).map Dd.a=d.ss.map Dd.a:=by rw[Wl];apply Vc;intro k;by_cases D:k=l;subst D;rw[UQ (by rw[UX];exact((Ul.1 Q).1)),Uz,Q];rfl;rw[Vt λy=>D y.symm]
 have M:∀ {g:Nat} {f:Ds},(j.aE.set o {d with ss:=d.ss.set l {h with e:=e',r:=u,p:=s}})[g]?=S f->∃i,j.aE[g]?=S i/\f.sa=i.sa/\f.sc=i.sc/\f.oa=i.oa/\f.oc=i.oc/\f.n=i.n/\f.ss.length=i.ss.length/\f.ss.map Dd.a=i.ss.map Dd.a:=λ{g f} w=>by obtain⟨n,q⟩|⟨n,q⟩:=nP w;grind;grind
 have E:∀ {a:Nat},a<A.heap.size->j.e A.heap.size (hJ h.b s) (8,o,l) a=j.cE a:=λc=>oQ c;have Y:jS (j.aE.set o {d with ss:=d.ss.set l {h with e:=e',r:=u,p:=s}})=jS j.aE:=by
  have n:eJ {d with ss:=d.ss.set l {h with e:=e',r:=u,p:=s}}=eJ d:=by unfold eJ;dsimp only;rw[UA]
  have:=ti qm j.aE o d {d with ss:=d.ss.set l {h with e:=e',r:=u,p:=s}} C 0 (by omega) (I J d.n.aP) (by rw[n];rfl);unfold jS;rw[<-this];apply Vc;intro k;by_cases D:k=o*11+0;subst D;by_cases Z:o*11+0<(j.aE.flatMap eJ).length;rw[UQ Z,pD qm j.aE o d C 0 (by omega)];rfl;rw[VI (by rw[UA];omega),VI (by omega)];rw[Vt λy=>D y.symm]
 refine⟨{dk:=?_,jq:=b.jq.a w (λa c=>no (b.t5 a c) (by simp)),jL:=?_,iG:=b.iG.a w (λa c=>no (b.t3 a c) (by simp)),iH:=λg f m=>?_,gL:=λg f m=>?_,jd:=λg f m=>?_,eC:=λg f m k t G=>?_,fD:=λf m=>⟨(b.fD f m).1.a w (no (b.t4 f m) (by simp)),(b.fD f m).2⟩,kP:=b.kP,t1:=(E b.dk.b).trans b.t1,t2:=(E b.d).trans b.t2,t3:=λa c=>(E (b.iG.b a c)).trans (b.t3 a c),t4:=λf m=>(E (b.fD f m).1.b).trans (b.t4 f m),t5:=λa c=>(E (b.jq.b a c)).trans (b.t5 a c),t6:=λg f m a c=>?_,t7:=λg f m a c=>?_,t8:=λg f m k t G a c=>?_,jc:=λa c=>?_},rfl,rfl,za C rfl,w.d (λa _ D=>gz (X a D) (by omega)),λg D=>yv D⟩
 have n:(j.j A.heap.size o d l h e' u s).cells=j.cells:=by unfold Dn.cells Dn.j;dsimp only;rw[V]
 rw[n];exact b.dk.c w (no b.t1 (by simp));show RV _ _ _ _ (j.aE.set o {d with ss:=d.ss.set l {h with e:=e',r:=u,p:=s}}).length _ (jS (j.aE.set o {d with ss:=d.ss.set l {h with e:=e',r:=u,p:=s}}));rw[V,Y];exact b.jL.a w (λa c=>no (uV c b.t2) (by simp));obtain⟨i,x,n,q,z,v,H,K,O⟩:=M m;have aa:lJ f.n.ai f.ss=lJ i.n.ai i.ss:=by unfold lJ;rw[O,H]
 rw[n,q,K,aa];exact(b.iH g i x).a w (λa c=>no (b.t6 g i x a c) (by simp));obtain⟨i,x,n,q,z,v,H,K,O⟩:=M m;rw[H,K];exact b.gL g i x;obtain⟨i,x,n,q,z,v,H,K,O⟩:=M m;rw[z,v,H];exact(b.jd g i x).a w (λa c=>no (b.t7 g i x a c) (by simp));obtain⟨n,q⟩|⟨n,q⟩:=nP m;subst n;subst q;obtain⟨z,v⟩|⟨z,v⟩:=nP (show (d.ss.set l {h with e:=e',r:=u,p:=s})[k]?=S t from G);grind;exact⟨(b.eC g d C k t v).1.a w (λa c=>no (b.t8 g d C k t v a c) (by intro y;cases y;exact z rfl)),(b.eC g d C k t v).2⟩;exact⟨(b.eC g f q k t G).1.a w (λa c=>no (b.t8 g f q k t G a c) (by intro y;cases y;exact n rfl)),(b.eC g f q k t G).2⟩;obtain⟨i,x,n,q,z,v,H,K,O⟩:=M m;rw[n]at c;exact(E ((b.iH g i x).b a c)).trans (b.t6 g i x a c);obtain⟨i,x,n,q,z,v,H,K,O⟩:=M m;rw[z]at c;exact(E ((b.jd g i x).b a c)).trans (b.t7 g i x a c);obtain⟨n,q⟩|⟨n,q⟩:=nP m;subst n;subst q;obtain⟨z,v⟩|⟨z,v⟩:=nP (show (d.ss.set l {h with e:=e',r:=u,p:=s})[k]?=S t from G);subst z;subst v;by_cases ab:a<A.heap.size;refine(E ab).trans ?_;obtain y|y:=R.d a c;exact b.t8 g d C k h Q a y;omega;exact yw (by omega) c;exact(E ((b.eC g d C k t v).1.b a c)).trans (b.t8 g d C k t v a c);exact(E ((b.eC g f q k t G).1.b a c)).trans (b.t8 g f q k t G a c);show j.e A.heap.size (hJ h.b s) (8,o,l) a=_;rw[vV λy=>by have:=W.b a y;omega];exact b.jc a (UM w.size c)
def xZ{c:Dn}{z d a e b}(h:c.aE[d]?=S a)(i:a.ss[e]?=S b)(f j k g)(n:g b.e=f):(c.j z d a e b f j k).a=c.a.a d e g:=by
 have l:c.a.bd[d]?=S a.a:=by simp[Dn.a,h]
 have m:a.a.ss[e]?=S (b.t,b.e):=by simp[Ds.a,i]
 unfold AN.a;rw[pE l,pE m];unfold Dn.a Dn.j;unfold Ds.a;simp_all
def Ec{a:Dn}{b c}(f:a.aE[b]?=S c)(d e)(h:e c.n=d):({a with aE:=a.aE.set b {c with n:=d}}:Dn).a=a.a.b b e:=by
 have g:a.a.bd[b]?=S c.a:=by simp[Dn.a,f]
 unfold AN.b;rw[pE g];unfold Dn.a;rw[Wl];unfold Ds.a;grind
def Dn.n(b:Nat->Nat×Nat×Nat)(c:Nat):Nat->Nat×Nat×Nat:=λa=>if a=c then (4,0,0)else b a
def NI(b a):Dn.n b a a=(4,0,0):=UG rfl
def tj{a b k}(c:k≠b):Dn.n a b k=a k:=Us c
noncomputable def Dn.f(a:Dn)(z:Nat)(b:Dk)(c:Option Addr)(d:Nat):Dn:=
 {a with aV:=a.aV++[b],ba:=c,bc:=d,cE:=Dn.n (a.e z (ag c) (3,0,0)) b.g}
def bP.n{w0 j w1 e}(D:ae aa w0 j)(c:bP j e)(h)(E:gp j h.g h.l h.c)(R:h.l.length<=h.c)(A:(e.cE h.g=(0,0,0)/\w0.heap.size<=h.g)\/∃m n,e.cE h.g=(8,m,n)/\∀t o,e.aE[m]?=S t->t.ss[n]?=S o->¬hJ o.b o.p h.g)(a' c')(G:RV w1 229 4 a' (e.aV.length+1) c' (fI e.aV++nJ h))(C:∀f,ag a' f->ag e.ba f\/j.heap.size<=f)(H:ae (ag e.ba) j w1):
 bP (w1.setCell ⟨e.b,2,N⟩ (L a' (e.aV.length+1) c')) (e.f j.heap.size h a' c')/\dR w0 (w1.setCell ⟨e.b,2,N⟩ (L a' (e.aV.length+1) c')) e (e.f j.heap.size h a' c'):=by
 have K:ae (ap e.b) w1 (w1.setCell ⟨e.b,2,N⟩ (L a' (e.aV.length+1) c')):=(ae.a (ap e.b) w1).e (p:=⟨e.b,2,N⟩) (λ_=>rfl) _;have s:=(H.d λ_ _ i=>Ur i).c (K.d λ_ _ i=>Up i);have no:∀ {b:Nat} {u q r:Nat},e.cE b=(u,q,r)->u≠3->u≠1->¬(ag e.ba b\/b=e.b):=λi U y a=>by obtain a|a:=a;rw[c.t3 _ a]at i;cases i;exact U rfl;rw[a,c.t1]at i;cases i;exact y rfl
 have Z:=E.b;have v:∀ {b u q r:Nat},e.cE b=(u,q,r)->u≠0->u≠8->b≠h.g:=λi ab M a=>by obtain⟨k,_⟩|⟨m,n,k,_⟩:=A;grind;grind
 have w:∀ {b:Nat},b<j.heap.size->b≠h.g->(e.f j.heap.size h a' c').cE b=e.cE b:=λd V=>(tj V).trans (oQ d);have W:∀f,ag a' f->f≠h.g:=λf X i=>by obtain a|a:=C f X;exact v (c.t3 f a) (by omega) (by omega) i;omega
 have M:∀ {m n:Nat} {t:Ds} {o:Dd},e.aE[m]?=S t->t.ss[n]?=S o->∀b,hJ o.b o.p b->b≠h.g:=λ{m n t o} O Q b d i=>by obtain⟨k,_⟩|⟨ac,ad,k,af⟩:=A;have:=c.t8 m t O n o Q b d;rw[i,k]at this;cases this;have:=c.t8 m t O n o Q b d;rw[i,k]at this;cases this;grind
 refine⟨{dk:=?_,jq:=c.jq.a s (λb d=>no (c.t5 b d) (by omega) (by omega)),jL:=c.jL.a s (λb d=>no (uV d c.t2) (by omega) (by omega)),iG:=?_,iH:=λf a g=>(c.iH f a g).a s (λb d=>no (c.t6 f a g b d) (by omega) (by omega)),gL:=c.gL,jd:=λf a g=>(c.jd f a g).a s (λb d=>no (c.t7 f a g b d) (by omega) (by omega)),eC:=λf a g r q x=>⟨(c.eC f a g r q x).1.a s (λb d=>no (c.t8 f a g r q x b d) (by omega) (by omega)),(c.eC f a g r q x).2⟩,fD:=λa g=>?_,kP:=?_,t1:=(w c.dk.b (v c.t1 (by omega) (by omega))).trans c.t1,t2:=(w c.d (v c.t2 (by omega) (by omega))).trans c.t2,t3:=λb d=>?_,t4:=λa g=>?_,t5:=λb d=>(w (c.jq.b b d) (v (c.t5 b d) (by omega) (by omega))).trans (c.t5 b d),t6:=λf a g b d=>(w ((c.iH f a g).b b d) (v (c.t6 f a g b d) (by omega) (by omega))).trans (c.t6 f a g b d),t7:=λf a g b d=>(w ((c.jd f a g).b b d) (v (c.t7 f a g b d) (by omega) (by omega))).trans (c.t7 f a g b d),t8:=λf a g r q x b d=>(w ((c.eC f a g r q x).1.b b d) (M g x b d)).trans (c.t8 f a g r q x b d),jc:=λb d=>?_},rfl,rfl,rfl,(D.d λ_ _ i=>i.elim).c (s.d λb _ i=>i.elim (λa=>gz (c.t3 b a) (by omega)) λa=>by rw[a];exact gz c.t1 (by omega)),λf i=>?_⟩
 have y:=(c.dk.c H λa=>by have:=c.t3 _ a;rw[c.t1]at this;cases this).f 2 (L a' (e.aV.length+1) c');have z:e.cells.setIfInBounds 2 (L a' (e.aV.length+1) c')=(e.f j.heap.size h a' c').cells:=by unfold Dn.cells Dn.f;simp
 rw[z]at y;exact y;show RV _ _ _ a' (e.aV++[h]).length c' (fI (e.aV++[h]));have z:fI (e.aV++[h])=fI e.aV++nJ h:=by simp[fI]
 rw[z,Uu];refine G.a K λb d i=>?_;rw[show b=e.b from i]at d;obtain a|a:=C _ d;have:=c.t3 _ a;rw[c.t1]at this;cases this;have:=c.dk.b;omega;obtain l|l:=UP.1 g;exact⟨(c.fD a l).1.a s (no (c.t4 a l) (by omega) (by omega)),(c.fD a l).2⟩;rw[UY.1 l];refine⟨E.a s ?_,R⟩;obtain⟨k,_⟩|⟨m,n,k,_⟩:=A;exact no k (by omega) (by omega);exact no k (by omega) (by omega);show ((e.aV++[h]).map (·.g)).Nodup;rw[Vm];refine Wb.2 ⟨c.kP,by simp,λu Y b d i=>?_⟩;obtain⟨a,g,rfl⟩:=Vb.1 Y;simp at d;subst d;exact v (c.t4 a g) (by omega) (by omega) i;refine(tj (W b d)).trans ?_;obtain a|a:=C b d;rw[oQ (c.iG.b b a)];exact c.t3 b a;exact yw a d;obtain l|l:=UP.1 g;exact(w (c.fD a l).1.b (v (c.t4 a l) (by omega) (by omega))).trans (c.t4 a l);rw[UY.1 l];exact NI _ _;have y:=UM s.size d;refine(tj (by omega)).trans ?_;rw[vV λa=>by have:=G.b b a;rw[VS]at d;omega];exact c.jc b y;by_cases z:f=h.g;obtain⟨_,k⟩|⟨m,n,k,_⟩:=A;omega;grind;rw[show (e.f j.heap.size h a' c').cE f=e.e j.heap.size (ag a') (3,0,0) f from tj z]at i;exact(yv i).imp id λa=>UM D.size a
def yp:(prog.info? 229).map (λa=>(a.zero,a.size,a.bytes))=S (S (.agg #[.int J 0,.int J 0,L N 0 0,B F]),4,48):=by kernel_rfl
def Ej(c:AN)(a t){b:List Fr.ff}{k d}(e:b[k]?=S d):c.l a t (b.take (k+1))=(c.l a t (b.take k)).j ⟨a,t,Fr.bi d,F⟩:=by unfold AN.l;rw[pM e,V5];rfl
structure qP(u wr:World)(v m:Dn)(w:AN)(n o:Nat)(j:Dd)(s:Nat)(x:Array Value)(k:Nat):Prop where
 a:bP wr m
 g:m.a=w.l n j.t (j.r.bD.take k)
 f:RV wr 56 1 j.p.fa j.r.bD.length j.p.fc (pI j.p.gs j.r.bD)
 h:∀l,ag j.p.fa l->m.cE l=(8,n,o)
 e:∀(p:Nat)(l:Nat×Nat)(q:Fr.ff),k<=p->j.p.gs[p]?=S l->j.r.bD[p]?=S q->gp wr l.1 (Fr.bi q) l.2/\ee q<=l.2/\m.cE l.1=(8,n,o)
 i:∀(t:Ds)(r:Dd),m.aE[n]?=S t->t.ss[o]?=S r->∀l,(∃y,(l,y)∈j.p.gs)->¬hJ r.b r.p l
 c:aq wr s x 222
 b:m.cE s=(0,0,0)
 d:dR u wr v m
def qP.l{d wr w1 e c f g h i j l k}(a:qP d wr e c f g h i j l k)(b:ae aa wr w1):qP d w1 e c f g h i j l k:=
 ⟨a.a.a b,a.g,a.f.a b λ_ _ s=>s,a.h,λm n o p q r=>⟨(a.e m n o p q r).1.a b id,(a.e m n o p q r).2⟩,a.i,a.c.c b id,a.b,a.d.a (dR.c c b)⟩
def qP.j{f wr g c d e h b i j k}(a:qP f wr g c d e h b i j k){l}(m:b.r.bD[k]?=S l)(n:¬c.aV.length<300):qP f wr g c d e h b i j (k+1):=by refine⟨a.a,?_,a.f,a.h,λo p q r=>a.e o p q (by omega),a.i,a.c,a.b,a.d⟩;rw[Ej d e b.t m,<-a.g];unfold AN.j;rw[Us (by simpa [Dn.a]using n)]
def qP.m{y wr w0 w1 z b r i j e s A k}(o:qP y wr z b r i j e s A k)(M:(e.p.gs.map (·.1)).Nodup)(O:∀a t,(a,t)∈e.p.gs->¬ag e.p.fa a){a}(m:e.p.gs[k]?=S a){h}(C:e.r.bD[k]?=S h)(Q:(Fr.bi h).length=ee h)(g:b.aV.length<300)(R:ae aa wr w0)(a' c')(U:RV w1 229 4 a' (b.aV.length+1) c' (fI b.aV++nJ ⟨i,e.t,Fr.bi h,a.1,a.2,F⟩))(V:∀k,ag a' k->ag b.ba k\/w0.heap.size<=k)(D:ae (ag b.ba) w0 w1):
 qP y (w1.setCell ⟨b.b,2,N⟩ (L a' (b.aV.length+1) c')) z (b.f w0.heap.size ⟨i,e.t,Fr.bi h,a.1,a.2,F⟩ a' c') r i j e s A (k+1):=by
 have c:=o.l R;obtain⟨W,X,E⟩:=c.e k a h (UF _) m C;obtain⟨Y,Z⟩:=bP.n (ae.a aa w0) c.a ⟨i,e.t,Fr.bi h,a.1,a.2,F⟩ W (by rw[Q];exact X) (Up ⟨i,j,E,λab ac ad af=>c.i ab ac ad af a.1 ⟨a.2,Uo m⟩⟩) a' c' U V D;have ah:ae (ap b.b) w1 (w1.setCell ⟨b.b,2,N⟩ (L a' (b.aV.length+1) c')):=(ae.a (ap b.b) w1).e (p:=⟨b.b,2,N⟩) (λ_=>rfl) _;have u:=(D.d λ_ _ d=>Ur d).c (ah.d λ_ _ d=>Up d);have no:∀ {f:Nat} {v t q:Nat},b.cE f=(v,t,q)->v≠3->v≠1->¬(ag b.ba f\/f=b.b):=λd ai aj n=>by obtain n|n:=n;rw[o.a.t3 _ n]at d;cases d;exact ai rfl;rw[n,o.a.t1]at d;cases d;exact aj rfl
 have ak:∀f,ag e.p.fa f->f≠a.1:=λf g d=>O a.1 a.2 (Uo m) (d▸g);refine⟨Y,?_,c.f.a u (λf g=>no (c.h f g) (by omega) (by omega)),λf g=>?_,λq G al aq w am=>?_,c.i,c.c.c u (no c.b (by omega) (by omega)),?_,c.d.a Z⟩;rw[Ej r i e.t C,<-o.g];unfold AN.j;rw[UG (by simpa [Dn.a]using g)];simp[Dn.a,Dn.f,Dk.b];exact(tj (ak f g)).trans ((oQ (c.f.b f g)).trans (c.h f g));obtain⟨H,an,K⟩:=c.e q G al (by omega) w am;refine⟨H.a u (no K (by omega) (by omega)),an,?_⟩;have x:G.1≠a.1:=λd=>by have ao:=(Ul.1 m).1;have ar:=(Ul.1 w).1;have:=(Xz (l:=e.p.gs.map (·.1)) (i:=k) (j:=q) (by rw[UX];exact ao) M).1 (by rw[Uz,Uz,m,w];simp[d]);omega
 exact(tj x).trans ((oQ H.b).trans K);have x:s≠a.1:=λd=>by have:=c.b;rw[d,E]at this;cases this
 exact(tj x).trans ((oQ c.c.b).trans c.b)
def Bj(i)(c g:Nat)(n a t)(m:bP t i)(h:i.aE[c]?=S n)(j:n.ss[g]?=S a)(bU:(c:Int)<1000)(bV:(g:Int)<1000)(E:(a.r.bD.length:Int)<1000000):
 Cr 142 #[P (S ⟨i.b,0,N⟩),.int J c,.int J g] t (.tuple #[]) λaY=>∃aA,bP aY aA/\aA.a=i.a.d c g/\dR t aY i aA:=by
 have aB:=(Ul.1 h).1;have ad:=(Ul.1 j).1;obtain⟨b,aZ⟩:∃b,n.n.ai[g]?=S b:=⟨_,Um (by rw[m.gL c n h];exact ad)⟩
 have W:=m.dk.a 1;simp[Dn.cells]at W;have G:=m.dk.b;have ai:=m.b h 3 _ rfl;have a0:=m.d;obtain⟨k,bW,a1,a2,bq,br,X⟩:=m.f h j aZ;have aj:=X 0 _ rfl;have aD:=X 1 _ rfl;have aE:=X 2 _ rfl;have aF:=X 3 _ rfl;rw[Vn]at aj;simp only[Dd.a]at aj aD aE aF;have H:=@gA _ _ _ _ m h j E;rw[a1]at ai;have bs:(c:Int)<i.aE.length:=by omega
 have bt:(g:Int)<n.ss.length:=by omega
 obtain⟨bX,a3⟩:=ah i.aE.length;obtain⟨bY,a4⟩:=ah n.ss.length;obtain⟨w,aG⟩:=ah i.b;obtain⟨bZ,a5⟩:=ah i.c;rw[<-a3]at W bs;rw[<-a4]at ai bt;rw[<-a5]at W ai a0;rw[<-aG]at W G|-;have bu:=@af _ aG;obtain⟨a6,a7⟩:=b;simp only at aj aD aE aF;clear m h j E aB ad aZ a1 bq br X a3 a4 aG a5;go_enter func142,ntmps142;go_wp2_with fail;obtain⟨A,aH⟩:∃A:Array Value,A= #[I J a6,I J a.t,I J a7,P (S ⟨a.b,0,N⟩)]:=⟨_,rfl⟩
 obtain⟨K,ak⟩:=ah (t.alloc (.cells #[I J a6,I J a.t,I J a7,P (S ⟨a.b,0,N⟩)] 222));obtain⟨v,al⟩:=ah t.heap.size;have aI(_:=()):ae aa t K/\v=t.heap.size/\aq K v A 222/\v<K.heap.size:=by
  have y:aq K v A 222:=by rw[ak,al,aH];exact aq.e _ _ _
  exact⟨by rw[ak];exact(ae.a aa t).b _,al,y,y.b⟩
 rw[<-ak,<-al];have bv:=@af _ aH;clear ak al aH aj aD aE aF ai W a2 a0 G;refine Uq (G5 a.b a.r a.p K ((H.1.a aI.1).eC c n H.2.1 g a H.2.2.1).1) ?_;rintro b0 a8 ⟨rfl,a9,Y⟩;have ba(_:=()):∃o,qP t a8 i o (i.a.a c g En.f) c g a v A 0:=by
  obtain⟨m,h,j,E⟩:=H;obtain⟨bb,b1,bw,bx⟩:=aI;have q:=m.a bb;obtain⟨s,bz⟩:=q.eC c n h g a j;have bA:fR K a8 a.b a.p {a.p with fa:=N,fc:=0,gs:=[]}:=by refine⟨λl z=>Ur ?_,λl M z=>by simp at z,Y.d λbc _ f=>Ur f⟩;obtain b|b|b|b:=z;exact Ur b;exact Up (Ur b);exact Up (Up (Ur b));exact(b8 l b).elim
  obtain⟨O,bB⟩:=q.j h j a.e.f a.r.d _ a9 bz.q bA;have bd:v≠a.b:=λf=>by have:=(m.eC c n h g a j).1.cG.b;omega
  refine⟨_,O,?_,?_,λk d=>?_,λaJ k u _ d Q=>?_,λbC b2 bD bE k d=>?_,bw.c Y bd,?_,(dR.c i bb).a bB⟩;rw[xZ h j _ _ _ En.f rfl];rfl;exact s.oF.a Y λbc y f=>s.d ((show bc=a.b from f)▸y);have bF:=q.t8 c n h g a j k (Ur (Up (Up (Up d))));exact(oQ (s.oF.b k d)).trans bF;have be:=Uo d;have aK:=s.oE aJ k u d Q;exact⟨aK.1.a Y λf=>s.c k.1 k.2 be (Ur f),aK.2,(oQ aK.1.b).trans (q.t8 c n h g a j k.1 (Up ⟨k.2,be⟩))⟩;have aB:=(Ul.1 h).1;have ad:=(Ul.1 j).1;have bf:(i.aE.set c {n with ss:=n.ss.set g {a with e:=a.e.f,r:=a.r.d,p:= {a.p with fa:=N,fc:=0,gs:=[]}}})[c]?=S bC:=bD;rw[UQ aB]at bf;cases bf;have bg:=bE;rw[UQ ad]at bg;cases bg;obtain⟨M,bG⟩:=d;have aL:=s.c k M bG;rintro (b|⟨aM,b⟩);obtain b|b|b|b:=b;exact aL (Ur b);exact aL (Up (Ur b));exact aL (Up (Up (Ur b)));exact b8 k b;simp at b;refine(oQ bx).trans (m.jc v (by omega))
 have am(_:=()):(a.p.gs.map (·.1)).Nodup/\(∀k M,(k,M)∈a.p.gs->¬ag a.p.fa k)/\a.p.gs.length=a.r.bD.length/\(∀u∈a.r.bD,dx u)/\(a.r.bD.length:Int)<1000000:=by obtain⟨m,h,j,E⟩:=H;have s:=(m.eC c n h g a j).1;exact⟨s.q,λk M d b=>s.c k M d (Up (Up (Up b))),s.e,s.p,E⟩
 clear a9 Y aI;obtain⟨C,an⟩:=ah a.r.bD.length;have ao:=@af _ an;have b3:(C:Int)<1000000:=by rw[an];exact am.2.2.2.2
 rw[<-an];clear an;go_wp2_with fail;go_loopw [8] (λaN bH=>∃(l:Nat)(o:Dn),l<=C/\aN= .int J l/\qP t bH i o (i.a.a c g En.f) c g a v A l) λaN _=>C-(intOf aN).toNat;case atStart=>
  obtain⟨o,bI⟩:=ba;exact⟨0,o,Vl _,rfl,bI⟩
 case round=>
  clear ba;obtain⟨l,o,z,rfl,d⟩:=hrel;have x:=@aC _ _ d z;by_cases R:l<C
  .skip;have bJ:(l:Int)<C:=by omega
   have ap:=@af _ R;obtain⟨u,Q⟩:∃u,a.r.bD[l]?=S u:=⟨_,Um (by rw[<-ao];exact R)⟩
   obtain⟨D,ar⟩:∃D,a.p.gs[l]?=S D:=⟨_,Um (by rw[am.2.2.1,<-ao];exact R)⟩
   have aO:=@aC _ _ Q ar;obtain⟨b4,b5,au,av⟩:=ja d.f (by rw[<-ao];omega);have aP:=av.a l (lN D u) (by unfold pI;rw[Wd,ar,Q]);unfold lN at aP;have a2:=av.b;have Z:=d.d.b.trans bu.symm;have U:=d.a.dk.a 2;have aQ:=d.a.dk.d 2;simp[Dn.cells]at U;have G:=d.a.dk.b;rw[Z]at U aQ G;have O:=d.c.a 1;rw[bv]at O;simp at O;have b6:=d.c.b;have bd:¬w=v:=λf=>by have q:=d.a.t1;rw[Z,f,d.b]at q;cases q
   have bh:=@af _ Z;obtain⟨V,aw⟩:=ah o.aV.length;have ab:=@af _ aw;obtain⟨aR,ax⟩:=ah (ee u);have bK:=@af _ ax;rw[<-aw]at U;rw[<-ax]at aP;rw[au];have b7:=@af _ au;obtain⟨bi,ay⟩:=ah a.t;have bL:=@af _ ay;rw[<-ay]at O;by_cases y:V<300
   .have bM:(V:Int)<300:=by omega
    have aS:=@af _ y;have aT(_:=()):RV wr.drew 229 4 o.ba V o.bc (fI o.aV):=by have:=x.1.a.iG;rw[<-ab]at this;exact this.a ((ae.a aa wr).drew) λ_ _ f=>f
    obtain⟨bj,aU⟩:=ah o.ba;have aV:=@af _ aU;rw[<-aU]at U aT;have bk(_:=()):¬ag bj w:=λf=>by have q:=x.1.a.t3 w (by rw[<-aV];exact f);rw[<-bh,x.1.a.t1]at q;cases q
    generalize bl:fI o.aV=ls at aT;have bN:=@af _ bl;clear z R d Q ar av Z aw ax au ay y aU bl;go_wp2_with fail;go_region_law (refine mj rfl (.tmp 39) (.tmp 48) 214 rfl 229 (.agg #[I J 0,I J 0,L N 0 0,B F]) 4 48 underlying214 yp rfl bj V o.bc (by simp[Act.eval,Act.put]) ls (aT.c _) ⟨wr.heap.size,0,N⟩ 1 1 (by omega) rfl [I J c,I J bi,L (S ⟨D.1,0,N⟩) aR D.2,B F] rfl (gJ wr.drew [I J c,I J bi,L (S ⟨D.1,0,N⟩) aR D.2,B F] 229 _ rfl) (by intro b9 bm;simp at bm;obtain rfl|rfl|rfl|rfl:=bm<;>rfl) (by have:=aS;omega) (by have:=aS;omega) ?_;intro bn aM aW bo bp ac;have bO:=((((ae.a aa wr.drew).b _).d λ_ _ f=>f.elim).c ac).f w 2 G bk;have bQ:=((((ae.a aa wr.drew).b _).d λ_ _ f=>f.elim).c ac).h w 2 G bk;rw[show wr.drew.cell? ⟨w,2,N⟩=_ from U]at bO;rw[show wr.drew.frozen? ⟨w,2,N⟩=_ from aQ]at bQ);all_goals
     have ca:w<aW.heap.size:=Un (by simp;omega) ac.size;have bR(_:=()):∃aX,qP t (aW.setCell ⟨w,2,N⟩ (L bn (V+1) aM)) i aX (i.a.a c g En.f) c g a v A (l+1):=by
      have q:=x.1.m (w0:=wr.drew) (w1:=aW) am.1 am.2.1 aO.2 aO.1 (lB u) (by rw[<-ab];exact aS) ((ae.a aa wr).drew) bn aM (by
       rw[<-ab,bN];unfold nJ;rw[<-bL,show (Fr.bi u).length=aR from(lB u).trans bK.symm];exact bo) (λaJ az=>by
       obtain⟨f,_⟩|⟨f,_⟩:=bp;rw[f]at az;exact Ur (by rw[<-aV];exact az);rw[f]at az;have:=cM.1 az;first|simp only[Uv,UR]at this|skip
       refine Up ?_;show wr.heap.size<=aJ;omega) (by rw[<-aV];exact(((ae.a aa wr.drew).b _).d λ_ _ f=>f.elim).c ac)
      rw[bh,<-ab]at q;exact⟨_,q⟩
     clear bo bp ac U aQ O aP;go_wp2;obtain⟨aX,bS⟩:=bR;refine⟨⟨l+1,aX,by have:=ap;omega,by go_num,bS⟩,by have:=ap;simp[intOf];omega⟩
   .skip;have bM:¬((V:Int)<300):=by omega
    clear z R d Q ar av Z aw ax au ay;go_wp2_with fail;refine⟨⟨l+1,o,by have:=ap;omega,by go_num,x.1.j aO.1 (by rw[<-ab];exact y)⟩,by have:=ap;simp[intOf];omega⟩
  .have bJ:¬((l:Int)<C):=by omega
   have bT(_:=()):l=C:=by have:=x.2;omega
   clear z R d;go_wp2;go_end0;obtain⟨m,h,j,E⟩:=H;refine⟨rfl,o,x.1.a,?_,x.1.d⟩;rw[x.1.g,bT,ao,Vu];unfold AN.d;have s:i.a.e c g=S (a.t,a.e):=by unfold AN.e Dn.a;simp[h,Ds.a,j]
   rw[s];dsimp only;rw[(m.eC c n h g a j).2.b]
def Ph{a}(b:bJ (a.a:Int) (a.c:Int) (a.b:Int) a.d=T):dC a:=by
 have c:=b;simp only[bJ,UV]at c;obtain⟨⟨d,e⟩,f,g,h,i,_⟩:=c;have j:bL (a.a:Int)<=9:=by unfold bL;split<;>omega
 have k:bM (a.a:Int)<=1000:=by unfold bM;split<;>omega
 exact⟨by omega,by omega,by omega,b⟩
def Mx(c)(f g:Nat)(d a b n)(h:bP n c)(i:c.aE[f]?=S d)(k:d.ss[g]?=S a)(ax:(f:Int)<1000)(ay:(g:Int)<1000)(G:a.e.aA=[]):
 Cr 183 #[P (S ⟨c.b,0,N⟩),.int J f,.int J g,mv b] n (.tuple #[]) λm=>∃o,bP m o/\o.a=c.a.o f (g,b)/\dR n m c o:=by
 have X:=(Ul.1 i).1;have H:=(Ul.1 k).1;obtain⟨t,Y⟩:∃t,d.n.ai[g]?=S t:=⟨_,Um (by rw[h.gL f d i];exact H)⟩
 have x:=h.dk.a 1;simp[Dn.cells]at x;have az:=h.dk.b;have z:=h.b i 3 _ rfl;have aA:=h.d;obtain⟨aS,aT,Z,aU,aB,aC,ab⟩:=h.f i k Y;have ac:=ab 3 _ rfl;simp only[Dd.a]at ac;have ad:=@zr _ _ _ _ _ _ _ h i k VU G ax ay;have aD(_:=()):∀u,ae aa n u->Calls prog 85 #[P (S ⟨a.b,0,N⟩),.agg (dy b).toArray] u λv m=>∃ag:Int,v= .returned (.int J ag)/\∃w A C,bP m w/\w.aE[f]?=S A/\A.ss[g]?=S C/\w.a=c.a.a f g (λj=>j.m b)/\dR n m c w/\(C.r.bD.length:Int)<1000000:=λu ai=>by
  have K:=dR.c c ai;have h:=h.a ai;obtain⟨M,O⟩:=h.eC f d i g a k;have aV:=O.m;have D:a.r.bD=[]:=by rw[<-O.b];exact G
  have aj:a.e.m b=a.e->c.a=c.a.a f g (λj=>j.m b):=λq=>by
   have Q:c.a.bd[f]?=S d.a:=by simp[Dn.a,i]
   have R:d.a.ss[g]?=S (a.t,a.e):=by simp[Ds.a,k]
   unfold AN.a;rw[pE Q,pE R];dsimp only;rw[q];have aE:d.a.ss.set g (a.t,a.e)=d.a.ss:=by apply Vc;intro U;by_cases j:U=g;subst j;rw[UQ (Ul.1 R).1,R];rw[Vt λt=>j t.symm]
   rw[aE];have aF:c.a.bd.set f d.a=c.a.bd:=by apply Vc;intro U;by_cases j:U=f;subst j;rw[UQ (Ul.1 Q).1,Q];rw[Vt λt=>j t.symm]
   show c.a= {c.a with bd:=c.a.bd.set f d.a}
   rw[aF]
  by_cases y:dC b;by_cases aG:a.r.cD.length<65536;refine(G8 a.b a.r a.p b y u M aG (by rw[D];simp)).mono ?_;rintro v m ⟨rfl,V,l,E⟩;obtain⟨aH,aI⟩:=h.j i k (a.e.n b) (a.r.h b) V l (O.s b) E;have q:a.e.m b=a.e.n b:=by unfold En.m;rw[UG ⟨y,by omega⟩]
  refine⟨_,rfl,_, {d with ss:=d.ss.set g {a with e:=a.e.n b,r:=a.r.h b,p:=V}}, {a with e:=a.e.n b,r:=a.r.h b,p:=V},aH,UQ X,UQ H,xZ i k _ _ _ _ q,K.a aI,?_⟩;show (((a.r.f b).a _).bD.length:Int)<1000000;unfold Rf.a Rf.f;dsimp only;rw[D,VG,uF,U5,UK,Uu];simp;omega;have aJ:a.r.cD.length=65536:=by have:=M.g;omega
  refine(G6 a.b a.r a.p b y u M aJ).mono ?_;rintro v m ⟨rfl,l⟩;have q:a.e.m b=a.e:=by unfold En.m;rw[Us (by omega)]
  refine⟨_,rfl,c,d,a,h.a l,i,k,aj q,K.a (dR.c c l),by rw[D];simp⟩;have aK:bJ (b.a:Int) (b.c:Int) (b.b:Int) b.d=F:=by
   cases aL:bJ (b.a:Int) (b.c:Int) (b.b:Int) b.d with
   |false=>rfl
   |true=>exact(y (Ph aL)).elim
  refine(G7 a.b (b.a:Int) (b.c:Int) (b.b:Int) b.d aK u).mono ?_;rintro v m ⟨rfl,l⟩;have q:a.e.m b=a.e:=by unfold En.m;rw[Us λj=>y j.1]
  exact⟨_,rfl,c,d,a,h.a l,i,k,aj q,K.a (dR.c c l),by rw[D];simp⟩
 rw[Z]at z;have aM:(f:Int)<c.aE.length:=by omega
 have aN:(g:Int)<d.ss.length:=by omega
 obtain⟨aW,ak⟩:=ah c.aE.length;obtain⟨aX,al⟩:=ah d.ss.length;obtain⟨aY,W⟩:=ah c.b;obtain⟨aZ,am⟩:=ah c.c;rw[<-ak]at x aM;rw[<-al]at z aN;rw[<-am]at x z aA;rw[<-W]at x az|-;have aO:=@af _ W;clear h i k G X H Y Z aB aC ab ak al W am;unfold mv;go_enter func183,ntmps183;go_wp2_with fail;go_region_with (go_at_call 85;refine(aD () _ (((ae.a aa n).b _).drew)).mono ?_;rintro v aP ⟨ag,rfl,w,A,C,an,ao,ap,aq,ar,au⟩);all_goals
  have s:=@nh _ _ _ _ _ _ an ao ap aq ar au;clear an ao ap aq ar au ac z x;go_wp2_with fail;refine Uq (by have:=Bj w f g A C aP s.1 s.2.1 s.2.2.1 ad.2.2.2.2.2.1 ad.2.2.2.2.2.2 s.2.2.2.2.2;rw[s.2.2.2.2.1.b,<-aO]at this;exact this) ?_;rintro v av ⟨rfl,aQ,l,E,aw⟩;have aR(_:=()):∃o,bP av o/\o.a=c.a.o f (g,b)/\dR n av c o:=⟨aQ,l,by rw[E,s.2.2.2.1];rfl,s.2.2.2.2.1.a aw⟩
  clear l E aw;go_wp2;go_end0;exact⟨rfl,aR⟩
def Pf{f:Type}(d:List f)(a b c)(g:∀e,b (c e)=c (b e)):(d.modify a b).modify a c=(d.modify a c).modify a b:=by rw[yN,yN];grind
def Gf(b:AN)(a c d e):(b.a a c d).b a e=(b.b a e).a a c d:=by unfold AN.a AN.b;rw[Pf];intro f;rfl
def Kq(a:AN)(b c d):(a.j b).b c d=(a.b c d).j b:=by unfold AN.j AN.b;split<;>rfl
def Ei(a t k d):∀(b:List Fr.ff)(c:AN),(c.l a t b).b k d=(c.b k d).l a t b
 |[],c=>rfl
 |e::b,c=>by show ((c.j ⟨a,t,Fr.bi e,F⟩).l a t b).b k d=((c.b k d).j ⟨a,t,Fr.bi e,F⟩).l a t b;rw[Ei a t k d b,Kq]
def SA(b:AN)(a e c):(b.b a e).e a c=b.e a c:=by
 unfold AN.e AN.b;cases d:b.bd[a]? with
 |none=>simp[d]
 |some f=>simp[d]
def LB(b:AN)(a c d):(b.d a c).b a d=(b.b a d).d a c:=by
 unfold AN.d;rw[SA];cases b.e a c with
 |none=>rfl
 |some e=>
  rw[Ei,Gf]
def Ce(a d):∀(b:List (Nat×Fr.cF))(c:AN),(c.p a b).b a d=(c.b a d).p a b
 |[],c=>rfl
 |e::b,c=>by show ((c.o a e).p a b).b a d=((c.b a d).o a e).p a b;rw[Ce a d b];congr 1;unfold AN.o;rw[LB,Gf]
def wm(b:AN)(a c d):(b.b a c).b a d=b.b a (λe=>d (c e)):=by unfold AN.b;rw[yN]
def gI(c:AN):Prop:=∀(d:Nat)(a:AS),c.bd[d]?=S a->∀(e:Nat)(b:Nat×En),a.ss[e]?=S b->b.2.aA=[]
def BF{b}(c:gI b)(i j):gI (b.b i j):=λd l k e f a=>by obtain⟨g,h,rfl⟩:=km k;split at a;exact c d g h e f a;exact c d g h e f a
def Px{a}(c:gI a)(b):gI (a.j b):=by unfold gI;rw[(qj a b).1];exact c
def BE(d t):∀(b) {a},gI a->gI (a.l d t b)
 |[],a,c=>c
 |e::b,a,c=>BE d t b (Px c _)
def Py{d}(j:gI d)(c e):gI (d.o c e):=by
 unfold AN.o;cases f:d.e c e.1 with
 |none=>
  unfold AN.d;have k:(d.a c e.1 λk=>k.m e.2).e c e.1=N:=by
   unfold AN.e AN.a at *;cases a:d.bd[c]? with
   |none=>simp[a]
   |some p=>rw[a]at f;simp at f;simp[a,f]
  rw[k];intro l p a g m b;obtain⟨h,i,rfl⟩:=km a;split at b;rename_i r;obtain⟨n,o,rfl⟩:=km b;split;rename_i s;unfold AN.e at f;grind;exact j _ h i g n o;exact j l h i g m b
 |some m=>
  rw[yh f];refine BE c m.1 _ λl p a g q b=>?_;obtain⟨h,i,rfl⟩:=km a;split at b;obtain⟨n,o,rfl⟩:=km b;split;rfl;exact j _ h i g n o;exact j l h i g q b
def BG(b):∀(c:List (Nat×Fr.cF)) {a:AN},gI a->gI (a.p b c)
 |[],a,d=>d
 |e::c,a,d=>BG b c (Py d b e)
structure mH(i:World)(h:Dn)(a:AN)(f:Nat)(g:ay):Prop where
 iN:bP i h
 b:h.a=(a.b f λ_=> {g with aD:=[]}).p f g.aD
 e:gI a
 d:f<a.bd.length
 c:a.bd.length<=100/\g.ai.length<=100
def mH.a{i a b c d}(f:mH i a b c d):∃e,a.aE[c]?=S e/\e.n= {d with aD:=[]}:=by
 have g:a.a.c=(b.b c λ_=> {d with aD:=[]}).c:=by rw[f.b,BL]
 rw[uR]at g;have j:b.c.length=b.bd.length:=by simp[AN.c]
 obtain⟨h,k⟩:∃h,b.c[c]?=S h:=⟨_,Um (by rw[j];exact f.d)⟩
 have l:a.a.c[c]?=S {d with aD:=[]}:=by rw[g];simp[k]
 have m:a.a.c=a.aE.map (λe=>e.n):=by simp[AN.c,Dn.a,Ds.a]
 grind
def mH.i{g b h c i}(e:mH g b h c i){k:Nat}{d}(j:b.aE[k]?=S d){f:Nat}{a}(l:d.ss[f]?=S a):a.e.aA=[]:=by
 have m:gI b.a:=by rw[e.b];exact BG c _ (BF e.e c _)
 exact m k d.a (by simp[Dn.a,j]) f (a.t,a.e) (by simp[Ds.a,l])
def mH.f{a w1 b c d e}(f:mH a b c d e)(k:ae aa a w1):mH w1 b c d e:= {f with iN:=f.iN.a k}
def mH.l{i w1 h d e a b}(c:mH i h e a b)(f g)(j:bP w1 d)(k:d.a=h.a.o a (f,g.a)):mH w1 d e a (b.d f g):=by refine⟨j,?_,c.e,c.d,c.c⟩;rw[k,c.b];show _=(e.b a λ_=> {b with aD:=[]}).p a (b.aD++[(f,g.a)]);unfold AN.p;simp
def mH.h{h w1 a d f b e n' g}(c:mH h a f b e)(i:a.aE[b]?=S g)(j:bP w1 d)(k:d= {a with aE:=a.aE.set b {g with n:= {n' with aD:=[]}}})(l:n'.ai.length=e.ai.length)(m:n'.aD=e.aD):mH w1 d f b n':=by refine⟨j,?_,c.e,c.d,by rw[l];exact c.c⟩;rw[k,Ec i _ (λ_=> {n' with aD:=[]}) rfl,c.b,Ce,wm,m]
def bP.e{b a}(c:bP b a):b.cell? ⟨a.b,1,N⟩=S (L (S ⟨a.c,0,N⟩) a.aE.length a.i):=by have d:=c.dk.a 1;assumption
structure J0(r:World)(k:Dn)(s:Nat)(t:ay)(u:Ds):Prop where
 q:r.cell? ⟨k.b,1,N⟩=S (L (S ⟨k.c,0,N⟩) k.aE.length k.i)
 p:k.b<r.heap.size
 e:k.c<r.heap.size
 o:(s:Int)<(k.aE.length:Int)
 f:r.cell? ⟨k.c,s*11,N⟩=S (.int J (t.aP:Int))
 g:r.cell? ⟨k.c,s*11+1,N⟩=S (.int J (t.aM:Int))
 h:r.cell? ⟨k.c,s*11+2,N⟩=S (.int J (t.cX:Int))
 i:r.cell? ⟨k.c,s*11+3,N⟩=S (L u.sa u.ss.length u.sc)
 j:r.cell? ⟨k.c,s*11+4,N⟩=S (.int J (oi t.cq))
 c:r.cell? ⟨k.c,s*11+5,N⟩=S (.int J (oi t.dj))
 d:r.cell? ⟨k.c,s*11+6,N⟩=S (.int J (fX t.bw))
 l:r.cell? ⟨k.c,s*11+7,N⟩=S (.int J (oi t.cB))
 m:r.cell? ⟨k.c,s*11+8,N⟩=S (.int J t.bI)
 n:r.cell? ⟨k.c,s*11+9,N⟩=S (B t.iy)
 b:r.cell? ⟨k.c,s*11+10,N⟩=S (L u.oa t.an.length u.oc)
 a:∀v,r.frozen? ⟨k.c,v,N⟩=F
def bP.cells{h d}(c:bP h d){i e}(j:d.aE[i]?=S e){k}(b:e.n= {k with aD:=[]}):J0 h d i k e:=by have n:=(Ul.1 j).1;have a:∀f g,(eJ e)[f]?=S g->h.cell? ⟨d.c,i*11+f,N⟩=S g:=λf g l=>c.b j f g l;refine⟨c.e,c.dk.b,c.d,by omega,?_,?_,?_,?_,?_,?_,?_,?_,?_,?_,?_,λm=>c.o j m⟩;have:=a 0 _ rfl;rw[Vn,b]at this;exact this;have:=a 1 _ rfl;rw[b]at this;exact this;have:=a 2 _ rfl;rw[b]at this;exact this;exact a 3 _ rfl;have:=a 4 _ rfl;rw[b]at this;exact this;have:=a 5 _ rfl;rw[b]at this;exact this;have:=a 6 _ rfl;rw[b]at this;exact this;have:=a 7 _ rfl;rw[b]at this;exact this;have:=a 8 _ rfl;rw[b]at this;exact this;have:=a 9 _ rfl;rw[b]at this;exact this;have:=a 10 _ rfl;rw[b]at this;exact this
def mH.g{d e j f a}(h:mH d e j f a)(n')(k:n'.ai=a.ai)(o:n'.an=a.an)(p:n'.aD=a.aD)(b g)(q:b<11)(r:∀c,c.n= {a with aD:=[]}->(eJ c).set b g=eJ {c with n:= {n' with aD:=[]}}):
 ∃l,mH (d.setCell ⟨e.c,f*11+b,N⟩ g) l j f n'/\dR d (d.setCell ⟨e.c,f*11+b,N⟩ g) e l:=by
 obtain⟨c,m,i⟩:=h.a;obtain⟨s,t⟩:=h.iN.q m {n' with aD:=[]} (by rw[i];exact k) (by rw[i];exact o) b g q (r c i);exact⟨_,h.h m s rfl (by rw[k]) p,t⟩
def K7(f p g a)(c b:Nat)(j)(h:mH j f p g a)(Q:(c:Int)<1000)(z:b<=1001)(k:a.bw<=1001):
 Cr 215 #[P (S ⟨f.c,g*11,N⟩),.int J c,.int J (fX b)] j (.tuple #[]) λq=>∃r,mH q r p g (a.n c b)/\dR j q f r:=by
 obtain⟨s,d,t⟩:=h.a;have e:=h.iN.cells d t;have A:=e.c;have u:=e.d;have C:=e.a (g*11+5);have D:=e.a (g*11+6);have E:=e.e;have v:=@af _ h;obtain⟨R,l⟩:=ah f.c;rw[<-l]at A u C D E|-;have w:=@af _ l;have G:fX b<fX a.bw↔b<a.bw:=by unfold fX;split<;>split<;>omega
 obtain⟨H,i⟩:∃m,m=fX b:=⟨_,rfl⟩
 obtain⟨U,n⟩:∃m,m=fX a.bw:=⟨_,rfl⟩
 rw[<-i,<-n]at G;rw[<-n]at u;rw[<-i];have K:=@af _ i;clear e t d h l i n z k;by_cases k:b<a.bw
 .go_enter func215,ntmps215;go_wp2;go_end0;obtain⟨V,x,o⟩:=v.g {a with dj:=S c} rfl rfl rfl 5 (I J c) (by omega) (λs d=>by unfold eJ;rw[d];rfl);obtain⟨M,O,y⟩:=x.g {a with dj:=S c,bw:=b} rfl rfl rfl 6 (I J H) (by omega) (λs d=>by unfold eJ;rw[d,K];rfl);rw[o.d,<-w]at O y;rw[<-w]at o x;refine⟨rfl,M,?_,o.a y⟩;unfold ay.n;simp_all
 .go_enter func215,ntmps215;go_wp2;go_end0;refine⟨rfl,f,?_,dR.h _ _⟩;unfold ay.n;rw[Us ((@af _ k) ())];exact v
def Gd(b:List (Nat×Array Value×TypeId))(c:World)(d:Dn):Prop:=∀a∈b,aq c a.1 a.2.1 a.2.2/\d.cE a.1=(0,0,0)
def Gd.a{b c w1 d e}(k:Gd b c d)(f:dR c w1 d e):Gd b w1 e:=λg l=>by obtain⟨h,i⟩:=k g l;refine⟨h.c f.e λa=>a i,?_⟩;apply UC;intro a;obtain j|j:=f.f g.1 a;exact j i;have:=h.b;omega
def Pn(e:World)(a:Dn)(f g:Nat)(h:Option Addr)(i:List (Nat×Array Value×TypeId))(j:AN)(d:Nat)(b:World)(k:ay):Prop:=a.b=f/\a.c=g/\(a.aE.map (·.sa))[d]?=S h/\∃c,mH b c j d k/\dR e b a c/\Gd i b c
def Pn.b{b c d e f g h i j l w1}(m:Pn b c d e f g h i j l)(k:ae aa j w1):Pn b c d e f g h i w1 l:=
 let ⟨n,o,p,a,q,r,s⟩:=m;⟨n,o,p,a,q.f k,r.a (dR.c a k),s.a (dR.c a k)⟩
def Pn.i{f g h i j k l m a n}(p:Pn f g h i j k l m a n)(b t):Pn f g h i j ((a.heap.size,b,t)::k) l m (a.alloc (.cells b t)) n:=by obtain⟨q,r,s,c,o,u,v⟩:=p;have d:ae aa a (a.alloc (.cells b t)):=(ae.a aa a).b _;refine⟨q,r,s,c,o.f d,u.a (dR.c c d),λw x=>?_⟩;obtain e|e:=UZ.1 x;subst e;exact⟨aq.e a b t,o.iN.jc _ (UF _)⟩;exact v.a (dR.c c d) w e
def Pn.d{a b c d e k f g h i j}(l:Pn a b c d e (k::f) g h i j):Pn a b c d e f g h i j:=
 let ⟨m,n,o,p,q,r,s⟩:=l;⟨m,n,o,p,q,r,λt u=>s t (by simp[u])⟩
def Pn.g{e f g b h a i j k c l}(m:Pn e f g b h (a::i) j k c l):aq c a.1 a.2.1 a.2.2/\a.1≠b:=by obtain⟨r,n,s,t,o,p,d⟩:=m;refine⟨(d a (by simp)).1,λq=>?_⟩;have:=(d a (by simp)).2;rw[q,<-n,<-p.d,o.iN.t2]at this;cases this
def Pn.f{h i j c k l m d o a}(s:Pn h i j c k l m d o a)(n')(t:n'.ai=a.ai)(u:n'.an=a.an)(v:n'.aD=a.aD)(b e)(w:b<11)(x:∀f,f.n= {a with aD:=[]}->(eJ f).set b e=eJ {f with n:= {n' with aD:=[]}}):Pn h i j c k l m d (o.setCell ⟨c,d*11+b,N⟩ e) n':=by obtain⟨y,p,z,E,A,q,C⟩:=s;obtain⟨D,r,g⟩:=A.g n' t u v b e w x;rw[q.d,p]at r g;exact⟨y,p,z,D,r,q.a g,C.a g⟩
def Pn.h{e f g a h i j b k c}(l:Pn e f g a h i j b k c)(d:Nat):Pn e f g a h i j b (k.setCell ⟨a,b*11,N⟩ (.int J d)) {c with aP:=d}:=
 l.f {c with aP:=d} rfl rfl rfl 0 _ (by omega) λn m=>by unfold eJ;rw[m];rfl
def Pn.v{e f g a h i j b k c}(l:Pn e f g a h i j b k c)(d:Nat):Pn e f g a h i j b (k.setCell ⟨a,b*11+1,N⟩ (.int J d)) {c with aM:=d}:=
 l.f {c with aM:=d} rfl rfl rfl 1 _ (by omega) λn m=>by unfold eJ;rw[m];rfl
def Pn.w{e f g a h i j b k c}(l:Pn e f g a h i j b k c)(d:Nat):Pn e f g a h i j b (k.setCell ⟨a,b*11+2,N⟩ (.int J d)) {c with cX:=d}:=
 l.f {c with cX:=d} rfl rfl rfl 2 _ (by omega) λn m=>by unfold eJ;rw[m];rfl
def Pn.u{e f g a h i j b k c}(l:Pn e f g a h i j b k c)(d):Pn e f g a h i j b (k.setCell ⟨a,b*11+4,N⟩ (.int J (oi d))) {c with cq:=d}:=
 l.f {c with cq:=d} rfl rfl rfl 4 _ (by omega) λn m=>by unfold eJ;rw[m];rfl
def Pn.r{e f g a h i j b k c}(l:Pn e f g a h i j b k c)(d):Pn e f g a h i j b (k.setCell ⟨a,b*11+5,N⟩ (.int J (oi d))) {c with dj:=d}:=
 l.f {c with dj:=d} rfl rfl rfl 5 _ (by omega) λn m=>by unfold eJ;rw[m];rfl
def Pn.s{e f g a h i j b k c}(l:Pn e f g a h i j b k c)(d):Pn e f g a h i j b (k.setCell ⟨a,b*11+6,N⟩ (.int J (fX d))) {c with bw:=d}:=
 l.f {c with bw:=d} rfl rfl rfl 6 _ (by omega) λn m=>by unfold eJ;rw[m];rfl
def Pn.o{e f g a h i j b k c}(l:Pn e f g a h i j b k c)(d):Pn e f g a h i j b (k.setCell ⟨a,b*11+7,N⟩ (.int J (oi d))) {c with cB:=d}:=
 l.f {c with cB:=d} rfl rfl rfl 7 _ (by omega) λn m=>by unfold eJ;rw[m];rfl
def Pn.m{e f g a h i j b k c}(l:Pn e f g a h i j b k c)(d):Pn e f g a h i j b (k.setCell ⟨a,b*11+8,N⟩ (.int J d)) {c with bI:=d}:=
 l.f {c with bI:=d} rfl rfl rfl 8 _ (by omega) λn m=>by unfold eJ;rw[m];rfl
def Pn.p{e f g a h i j b k c}(l:Pn e f g a h i j b k c)(d):Pn e f g a h i j b (k.setCell ⟨a,b*11+9,N⟩ (B d)) {c with iy:=d}:=
 l.f {c with iy:=d} rfl rfl rfl 9 _ (by omega) λn m=>by unfold eJ;rw[m];rfl
structure PC(k:World)(w t u:Nat)(v:ay)(y:Option Addr)(z x A:Nat)(C:Option Addr)(D:Nat):Prop where
 d:k.cell? ⟨w,1,N⟩=S (L (S ⟨t,0,N⟩) x A)
 c:w<k.heap.size
 a:t<k.heap.size
 e:(u:Int)<(x:Int)
 g:(u:Int)<1000
 f:(v.ai.length:Int)<1000
 h:k.cell? ⟨t,u*11,N⟩=S (.int J (v.aP:Int))
 j:k.cell? ⟨t,u*11+1,N⟩=S (.int J (v.aM:Int))
 n:k.cell? ⟨t,u*11+2,N⟩=S (.int J (v.cX:Int))
 i:k.cell? ⟨t,u*11+3,N⟩=S (L y v.ai.length z)
 o:k.cell? ⟨t,u*11+4,N⟩=S (.int J (oi v.cq))
 p:k.cell? ⟨t,u*11+5,N⟩=S (.int J (oi v.dj))
 q:k.cell? ⟨t,u*11+6,N⟩=S (.int J (fX v.bw))
 l:k.cell? ⟨t,u*11+7,N⟩=S (.int J (oi v.cB))
 m:k.cell? ⟨t,u*11+8,N⟩=S (.int J v.bI)
 r:k.cell? ⟨t,u*11+9,N⟩=S (B v.iy)
 s:k.cell? ⟨t,u*11+10,N⟩=S (L C v.an.length D)
 b:∀E,k.frozen? ⟨t,E,N⟩=F
structure PS(p:World)(q:Dn)(m n h k:Nat)(r:List (Nat×Array Value×TypeId))(s:AN)(t:Nat)(j:World)(l:ay)(i:Nat):Prop where
 a:h<j.heap.size
 d:h≠n
 g:h≠m
 c:∀u,j.frozen? ⟨h,u,N⟩=F
 f:j.cell? ⟨h,k+i*4,N⟩=S (.int J (l.p i:Int))
 b:j.cell? ⟨h,k+i*4+2,N⟩=S (.int J (l.c i:Int))
 e:∀o:Nat,Pn p q m n (S ⟨h,k,N⟩) r s t (j.setCell ⟨h,k+i*4+2,N⟩ (.int J (o:Int))) (l.e i o)
def Pn.a{D E i j d G H e k f}(K:Pn D E i j d G H e k f):∃M O Q R U,PC k i j e f d M O Q R U:=by
 obtain⟨V,W,ac,l,a,g,ad⟩:=K;obtain⟨b,m,n⟩:=a.a;have h:=g.d.trans W;have o:=g.b.trans V;have X:b.ss.length=f.ai.length:=by rw[<-a.iN.gL e b m,n]
 obtain⟨p,q,r,Y,s,t,u,c,v,w,x,y,z,A,C,Z⟩:=(a.iN.cells m n)
 rw[h,o]at p;rw[o]at q;rw[h]at r s t u c v w x y z A C;rw[X]at c;have aa:b.sa=d:=by have ae:=g.g;grind
 rw[aa]at c;refine⟨b.sc,l.aE.length,l.i,b.oa,b.oc,⟨p,q,r,Y,?_,?_,s,t,u,c,v,w,x,y,z,A,C,λab=>by rw[<-h];exact Z ab⟩⟩;have:=a.d;have:=a.c.1;omega;have:=a.c.2;omega
def Pn.e{j k l m b n o c p d}(q:Pn j k l m b n o c p d)(u:0<d.ai.length):∃e f,b=S ⟨e,f,N⟩:=by
 obtain⟨v,w,x,y,g,r,z⟩:=q;obtain⟨a,h,s⟩:=g.a;have A:a.ss.length=d.ai.length:=by rw[<-g.iN.gL c a h,s]
 have t:a.sa=b:=by have i:=r.g;grind
 obtain⟨e,f,i,_⟩:=ja (g.iN.iH c a h) (by omega);exact⟨e,f,t.symm.trans i⟩
def Pn.c{p q r s i j t u k v c}(G:Pn p q r s (S ⟨i,j,N⟩) t u k v c)(a)(w:a<c.ai.length):PS p q r s i j t u k v c a:=by
 obtain⟨x,y,H,W,b,e,K⟩:=G;obtain⟨d,f,l⟩:=b.a;have M:d.ss.length=c.ai.length:=by rw[<-b.iN.gL k d f,l]
 have O:d.sa=S ⟨i,j,N⟩:=by have g:=e.g;grind
 obtain⟨m,n⟩:∃m,c.ai[a]?=S m:=⟨_,Um w⟩
 obtain⟨z,A⟩:∃z,d.ss[a]?=S z:=⟨_,Um (by rw[M];exact w)⟩
 have Q:d.n.ai[a]?=S m:=by rw[l];exact n
 obtain⟨X,Y,C,R,h,U,D⟩:=b.iN.f f A Q;cases (O.symm.trans C);have E:=D 0 _ rfl;rw[Vn]at E;refine⟨R,λg=>?_,λg=>?_,U,?_,?_,λo=>?_⟩;rw[g,<-(e.d.trans y),b.iN.t2]at h;cases h;rw[g,<-(e.b.trans x),b.iN.t1]at h;cases h;rw[E];unfold ay.p;rw[n];rw[(D 2 _ rfl)];unfold ay.c;rw[n];obtain⟨u1,u2⟩:=b.iN.u f A C o;have V:d.n.e a o= {c.e a o with aD:=[]}:=by rw[l];rfl
 rw[V]at u1 u2;exact⟨x,y,H,_,b.h f u1 rfl (by unfold ay.e;simp) rfl,e.a u2,K.a u2⟩
def oV{k l g m n o p c h d}(v:Pn k l g m n o p c h d)(b e)(w:b<d.ai.length):
 Cr 183 #[P (S ⟨g,0,N⟩),.int J c,.int J b,mv e.a] h (.tuple #[]) λq=>Pn k l g m n o p c q (d.d b e):=by
 obtain⟨r,x,y,z,a,s,A⟩:=v;obtain⟨f,i,C⟩:=a.a;have D:f.ss.length=d.ai.length:=by rw[<-a.iN.gL c f i,C]
 obtain⟨j,t⟩:∃j,f.ss[b]?=S j:=⟨_,Um (by rw[D];exact w)⟩
 have K:=a.d;have M:=a.c;have:=Mx z c b f j e.a h a.iN i t (by omega) (by omega) (a.i i t);rw[s.b,r]at this;refine this.mono ?_;rintro O q ⟨rfl,E,G,H,u⟩;exact⟨rfl,r,x,y,E,a.l b e G H,s.a u,A.a u⟩
end Go.Proofs.YtlfijfodklhplaaGreat
