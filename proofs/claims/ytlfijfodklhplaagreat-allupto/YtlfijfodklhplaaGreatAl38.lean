import Derived.Test.YtlfijfodklhplaaGreatAl37
set_option maxRecDepth 100000
set_option maxHeartbeats 8000000
set_option linter.all false
open Go.RowKit Go.Proofs.Tryz
open Go.Value renaming int->I,slice->L,pointer->P,bool->B
open Go.IntKind renaming i64->J
open Option renaming some->S,none->N
open Bool renaming true->T,false->F
namespace Go.Proofs.YtlfijfodklhplaaGreat
def Tw(f g:World)(h i j k:Nat)(l:Nat->Prop)(m n:FuncId)(b:Value->Array Value):Prop:=∀a,ae aa g a->∃c:Int,Calls prog m (b (P (S ⟨j,0,N⟩))) a λo d=>o= .returned (.int J c)/\ae l a d/\
 ∀e,ae aa d e->Cr n (b (P (S ⟨k,0,N⟩))) e (I J c) λp=>fe f p h i
def TI{h i j k l m c d n e f b}(v:LS h i j k l m c (L e b.length f) d (ix e f b) n)(o:hU c){g}(p:bZ d c<=g)(q:(b.length:Int)<=g)(w:∀a∈b,iO a.cP a.D){r a}(x:b[r]?=S a){s t u}(y:qg s t u a.cP a.D):Tw h i k g a.cP.nb a.D.b (λz=>j z=22+4*r) s t u:=λW A=>by obtain⟨C,D⟩:=Gn (v.a A) o p q w x y;refine⟨C,Uq D ?_⟩;rintro E X ⟨Y,rfl,rfl,G,H⟩;refine⟨rfl,G,λK M=>Uq (H K M) ?_⟩;rintro E Z ⟨rfl,_,O,Q,aa,R,U,V,_⟩;exact⟨rfl,e,f,Q,⟨O,l,m,c,d,n,R,o,p⟩,U,by rw[V];exact q⟩
def ww(y a o z g h A)(C:∀D,a.heap.size<=D->¬A D)(p i q j r s k t u v l)(am:j.oneCell'=T)(an:l.oneCell'=T){b c d}(X:(b=12/\c=15/\d=91)\/(b=14/\c=32/\d=93)\/(b=15/\c=35/\d=94)\/(b=16/\c=36/\d=95)\/(b=18/\c=33/\d=97))(E:Tw y a o z g h A c d λY=> #[Y,.int J i]):
 Cr 46 #[P (S ⟨o,0,N⟩),.agg #[P (S ⟨g,0,N⟩),P (S ⟨h,0,N⟩)],kq b p i q j r s k t u v l] a (B T) λZ=>fe y Z o z:=by
 have G:=@af _ E;have H:=@af _ C;clear E C;go_enter func46,ntmps46;go_upto_region 2 with fail;obtain⟨m,e⟩:=ah ((a.alloc (.cells #[P (S ⟨g,0,N⟩),P (S ⟨h,0,N⟩)] 103)).alloc (.cells #[I J b,I J p,I J i,I J q,j,B r,I J s,I J k,I J t,I J u,B v,l] 80));have n:aq m a.heap.size #[P (S ⟨g,0,N⟩),P (S ⟨h,0,N⟩)] 103:=by rw[e];exact(aq.e _ _ _).g _
 have f:aq m (a.heap.size+1) #[I J b,I J p,I J i,I J q,j,B r,I J s,I J k,I J t,I J u,B v,l] 80:=by rw[e];exact aq.h _ _ _ _ (by simp)
 have K:ae aa a m:=by rw[e];exact((ae.a aa a).b _).b _
 rw[<-e];have ab:=@af _ n;have ac:=@af _ f;have ad:=@af _ K;have ag:=n.a 0;have ai:=f.a 0;have aj:=f.a 2;simp at ag ai aj;have ao:=n.b;have ap:=f.b;clear e n f K;obtain⟨rfl,rfl,rfl⟩|⟨rfl,rfl,rfl⟩|⟨rfl,rfl,rfl⟩|⟨rfl,rfl,rfl⟩|⟨rfl,rfl,rfl⟩:=X;all_goals
  go_wp2_with fail;obtain⟨ar,M⟩:=G () m ad;have O:=@af _ M;clear M G;refine Uq O ?_;rintro ak au ⟨rfl,w,Q⟩;have R:=@af _ Q;have U:=(ab.c w (H () _ (UF _))).a 1;have x:=ac.c w (H () _ (Nat.le_succ _));have V:=x.a 2;simp at U V;have av:=x.b;clear x Q w O;go_wp2_with fail;refine Uq (R () _ (ae.a _ _)) ?_;rintro ak aw ⟨rfl,W⟩;have al:=@af _ W;clear W R U V;go_wp2;go_ret;exact⟨by simp,al⟩
def PL(w a m x d e y)(z:∀A,a.heap.size<=A->¬y A)(n f g h o p k q r s t u)(am:h.oneCell'=T)(C:Tw w a m x d e y 37 96 λV=> #[V,.int J f,.int J g,.int .u8 ((0:Nat):Int)]):
 Cr 46 #[P (S ⟨m,0,N⟩),.agg #[P (S ⟨d,0,N⟩),P (S ⟨e,0,N⟩)],kq 17 n f g h o p k q r s (L t 0 u)] a (B T) λW=>fe w W m x:=by
 have D:=@af _ C;have E:=@af _ z;clear C z;go_enter func46,ntmps46;go_upto_region 2 with fail;obtain⟨i,c⟩:=ah ((a.alloc (.cells #[P (S ⟨d,0,N⟩),P (S ⟨e,0,N⟩)] 103)).alloc (.cells #[I J 17,I J n,I J f,I J g,h,B o,I J p,I J k,I J q,I J r,B s,L t 0 u] 80));have j:aq i a.heap.size #[P (S ⟨d,0,N⟩),P (S ⟨e,0,N⟩)] 103:=by rw[c];exact(aq.e _ _ _).g _
 have b:aq i (a.heap.size+1) #[I J 17,I J n,I J f,I J g,h,B o,I J p,I J k,I J q,I J r,B s,L t 0 u] 80:=by rw[c];exact aq.h _ _ _ _ (by simp)
 have G:ae aa a i:=by rw[c];exact((ae.a aa a).b _).b _
 rw[<-c];have X:=@af _ j;have Y:=@af _ b;have Z:=@af _ G;have ab:=j.a 0;have ac:=b.a 0;have ad:=b.a 2;have ag:=b.a 3;have ai:=b.a 11;simp at ab ac ad ag ai;have an:=j.b;have ao:=b.b;clear c j b G;go_wp2_with fail;obtain⟨ap,H⟩:=D () i Z;have K:=@af _ H;clear H D;refine Uq K ?_;rintro aj ar ⟨rfl,v,M⟩;have O:=@af _ M;have Q:=(X.c v (E () _ (UF _))).a 1;have l:=Y.c v (E () _ (Nat.le_succ _));have R:=l.a 2;have ak:=l.a 3;simp at Q R ak;have au:=l.b;clear l M v K;go_wp2_with fail;refine Uq (O () _ (ae.a _ _)) ?_;rintro aj av ⟨rfl,U⟩;have al:=@af _ U;clear U O Q R;go_wp2;go_ret;exact⟨by simp,al⟩
def PM(C a q D i j E)(G:∀H,a.heap.size<=H->¬E H)(r l m n s t k u v w)(b e f x y:Nat)(ac:0<f)(c:b<a.heap.size)(K:a.cell? ⟨b,e,N⟩=S (.int .u8 (y:Int)))(ay:n.oneCell'=T)(M:Tw C a q D i j E 37 96 λad=> #[ad,.int J l,.int J m,.int .u8 (y:Int)]):
 Cr 46 #[P (S ⟨q,0,N⟩),.agg #[P (S ⟨i,0,N⟩),P (S ⟨j,0,N⟩)],kq 17 r l m n s t k u v w (L (S ⟨b,e,N⟩) f x)] a (B T) λag=>fe C ag q D:=by
 have O:=@af _ M;have Q:=@af _ G;have ai(_:=()):∀o,ae aa a o->o.cell? ⟨b,e,N⟩=S (I .u8 (y:Int))/\b<o.heap.size/\(0:Int)<(f:Int):=λo R=>⟨(R.f b e c λaj=>aj).trans K,Un c R.size,by omega⟩
 clear M G c K ac;go_enter func46,ntmps46;go_upto_region 2 with fail;obtain⟨g,h⟩:=ah ((a.alloc (.cells #[P (S ⟨i,0,N⟩),P (S ⟨j,0,N⟩)] 103)).alloc (.cells #[I J 17,I J r,I J l,I J m,n,B s,I J t,I J k,I J u,I J v,B w,L (S ⟨b,e,N⟩) f x] 80));have p:aq g a.heap.size #[P (S ⟨i,0,N⟩),P (S ⟨j,0,N⟩)] 103:=by rw[h];exact(aq.e _ _ _).g _
 have d:aq g (a.heap.size+1) #[I J 17,I J r,I J l,I J m,n,B s,I J t,I J k,I J u,I J v,B w,L (S ⟨b,e,N⟩) f x] 80:=by rw[h];exact aq.h _ _ _ _ (by simp)
 have z:ae aa a g:=by rw[h];exact((ae.a aa a).b _).b _
 rw[<-h];have ak:=@af _ p;have al:=@af _ d;have am:=@af _ z;have an:=p.a 0;have ao:=d.a 0;have ap:=d.a 2;have ar:=d.a 3;have au:=d.a 11;simp at an ao ap ar au;have az:=p.b;have aA:=d.b;obtain⟨aB,aC,aD⟩:=ai () g z;clear h p d z;go_wp2_with fail;obtain⟨aE,U⟩:=O () g am;have V:=@af _ U;clear U O;refine Uq V ?_;rintro av aF ⟨rfl,A,W⟩;have X:=@af _ W;have Y:=(ak.c A (Q () _ (UF _))).a 1;have c:=al.c A (Q () _ (Nat.le_succ _));have Z:=c.a 2;have aw:=c.a 3;simp at Y Z aw;have aG:=c.b;clear c W A V;go_wp2_with fail;refine Uq (X () _ (ae.a _ _)) ?_;rintro av aH ⟨rfl,ab⟩;have ax:=@af _ ab;clear ab X Y Z;go_wp2;go_ret;exact⟨by simp,ax⟩
structure xX(t wr:World)(u:Nat)(v:Option Addr)(w:Nat)(x:List Lp)(y:Nat->Rw)(z:World->(Nat->Nat)->Prop)(l:Option Addr)(m A C n o q r:Nat)(D:Array Value)(k:Nat->Nat)(j:List Mp)(h:Mp):Prop where
 s:LS t wr k u v w x (L l j.length m) y (ix l m j) z
 p:∀h∈j,iO h.cP h.D
 e:j.length=A
 c:j[C]?=S h
 i:h.cP.nb=n
 g:h.D.b=o
 a:aq wr q #[P (S ⟨n,0,N⟩),P (S ⟨o,0,N⟩)] 103
 d:k q=0
 b:aq wr r D 80
 f:k r=0
def xX.h{r wr s t u c h v w x i j k d b l y O Q m}(a:xX r wr s t u c h v w x i j k d b l y O Q m)(R:hU c){z}(U:bZ h c<=z)(V:(i:Int)<=z):
 ∃e,Calls prog 32 #[P (S ⟨k,0,N⟩),.int J 0] wr λn f=>n= .returned (.int J e)/\f.cell? ⟨b,1,N⟩=S (P (S ⟨d,0,N⟩))/\b<f.heap.size/\
  ∀g,ae aa f g->Cr 93 #[P (S ⟨d,0,N⟩),.int J 0] g (.int J e) λA=>∃o p q,xX r A s t u c h v w x i j k d b l y o p q:=by
 have W:=GK (a.p m (Uo a.c)) 0 (a.s.c.a j m a.c).oq;have C:=a.e;obtain⟨e,D⟩:=Gn a.s R U (by rw[C];exact V) a.p a.c W;rw[a.i,a.g]at D;refine⟨e,Uq D ?_⟩;rintro n f ⟨ai,rfl,rfl,X,Y⟩;have E:=a.a.c X (λG=>by have:=a.d;omega);have H:=E.a 1;simp at H;refine⟨rfl,H,E.b,λg Z=>Uq (Y g Z) ?_⟩;rintro n A ⟨rfl,K,o,p,q,ab,ac,ad,af,ag,ah,M⟩;refine⟨rfl,o,p,q,ab,ac,ad.trans C,af,ag,ah,a.a.c K (λG=>by have:=a.d;omega),(M b a.a.b).trans a.d,a.b.c K (λG=>by have:=a.f;omega),(M l a.b.b).trans a.f⟩
def PK(G a U x H K f n M y z g)(O:LS G a U x H K f (L y g.length z) n (ix y z g) M)(ap:hU f)(A)(ar:bZ n f<=A)(au:(g.length:Int)<=A)(av:∀b∈g,iO b.cP b.D)(V:Nat)(b)(aw:g[V]?=S b)(o p c j q r k s t u l)(aK: -9223372036854775808<=c)(aL:c<=9223372036854775807)(bd:j.oneCell'=T)(be:l.oneCell'=T):
 Cr 46 #[P (S ⟨x,0,N⟩),.agg #[P (S ⟨b.cP.nb,0,N⟩),P (S ⟨b.D.b,0,N⟩)],kq 21 o p c j q r k s t u l] a (B T) λW=>fe G W x A:=by
 obtain⟨v,bf,ax⟩:=yV c 40 aK aL (by omega) (by omega);have ay(_:=()):∀a,Cr 45 #[I J c,I J 40] a (I J v) λW=>a=W:=λa=>ax a;obtain⟨C,X⟩:=ah b.cP.nb;obtain⟨D,Y⟩:=ah b.D.b;obtain⟨Z,ab⟩:=ah g.length;have Q(_:=()):hU f/\bZ n f<=A/\(Z:Int)<=A:=⟨ap,ar,by rw[ab];exact au⟩
 have az(_:=()):∀d h i,ae aa a d->aq d h #[P (S ⟨C,0,N⟩),P (S ⟨D,0,N⟩)] 103->aq d i #[I J 21,I J o,I J p,I J c,j,B q,I J r,I J k,I J s,I J t,B u,l] 80->a.heap.size<=h->a.heap.size<=i->xX G d x H K f n M y z Z V C D h i #[I J 21,I J o,I J p,I J c,j,B q,I J r,I J k,I J s,I J t,B u,l] U g b:=λd h i aM aN aO aP aQ=>
  ⟨O.a aM,av,ab.symm,aw,X.symm,Y.symm,aN,O.d h aP,aO,O.d i aQ⟩
 rw[<-X,<-Y];clear O ap ar au av aw X Y ab ax;go_enter func46,ntmps46;go_upto_region 2 with fail;obtain⟨d,E⟩:=ah ((a.alloc (.cells #[P (S ⟨C,0,N⟩),P (S ⟨D,0,N⟩)] 103)).alloc (.cells #[I J 21,I J o,I J p,I J c,j,B q,I J r,I J k,I J s,I J t,B u,l] 80));have R:aq d a.heap.size #[P (S ⟨C,0,N⟩),P (S ⟨D,0,N⟩)] 103:=by rw[E];exact(aq.e _ _ _).g _
 have w:aq d (a.heap.size+1) #[I J 21,I J o,I J p,I J c,j,B q,I J r,I J k,I J s,I J t,B u,l] 80:=by rw[E];exact aq.h _ _ _ _ (by simp)
 have ac:ae aa a d:=by rw[E];exact((ae.a aa a).b _).b _
 rw[<-E];have aR:=@af _ R;have aS:=@af _ w;have aT:=@af _ ac;obtain⟨h,ad⟩:=ah a.heap.size;obtain⟨i,ag⟩:=ah (a.heap.size+1);rw[<-ad]at R;rw[<-ag]at w;have aA:=@af _ (az () d h i ac R w (by omega) (by omega));have aB:=w.a 0;simp at aB;have ai:=w.b;rw[<-ag,<-ad];clear E R w ac az aR aS aT ad ag;go_wp2_with fail;go_loopw [7,8,10] (λaU aV aj wr=>∃(m:Nat)(ak:Int)(aW:Nat->Nat)(aX:List Mp)(aY:Mp),m<=v/\aj= .int J m/\aU= .int J ak/\aV= .int J ak/\xX G wr x H K f n M y z Z V C D h i #[I J 21,I J o,I J p,I J c,j,B q,I J r,I J k,I J s,I J t,B u,l] aW aX aY) λ_ _ aj _=>v-(intOf aj).toNat;case atStart=>exact⟨0,0,U,g,b,Vl _,rfl,rfl,rfl,aA⟩
 case round=>
  clear aA aB ai;obtain⟨m,ak,aZ,a0,bg,al,rfl,rfl,rfl,e⟩:=hrel;have aD:=@aC _ _ e al;have am:=e.b.a 3;have u0:=e.a.a 0;simp at am u0;have ai:=e.b.b;have a1:=e.a.b;clear e;by_cases an:m<v
  .have a2:(m:Int)<v:=by omega
   have aE:=@af _ an;clear al an;go_wp2_with fail;refine Uq (ay () _) ?_;rintro ao a3 ⟨rfl,rfl⟩;go_wp2_with fail;obtain⟨a4,aF⟩:=aD.1.h Q.1 Q.2.1 Q.2.2;have aG:=@af _ aF;clear aF;refine Uq aG ?_;rintro ao bh ⟨rfl,a5,bi,aH⟩;have aI:=@af _ aH;clear aH aG am u0;go_wp2_with fail;refine Uq (aI () _ (ae.a _ _)) ?_;rintro ao bj ⟨rfl,a6,a7,a8,aJ⟩;have a9:=@af _ aJ;clear aJ aI a5;go_wp2;exact⟨⟨m+1,a4,a6,a7,a8,by have:=aE;omega,by go_num,rfl,rfl,a9⟩,by have:=aE;simp[intOf];omega⟩
  .have a2:¬((m:Int)<v):=by omega
   clear al an;go_wp2_with fail;refine Uq (ay () _) ?_;rintro ao a3 ⟨rfl,rfl⟩;clear am u0 ai a1;go_wp2;go_ret;obtain⟨e,_⟩:=aD;obtain⟨ba,bb,bc⟩:=Q;exact⟨by simp,y,z,a0,⟨aZ,H,K,f,n,M,e.s,ba,bb⟩,e.p,by rw[e.e];exact bc⟩
def zk{w h i c T}(l:RV w 58 3 h i c (kN T)){k d}(m:T[k]?=S d)(r:k<i):
 ∃a b,h=S ⟨a,b,N⟩/\a<w.heap.size/\w.cell? ⟨a,b+k*3,N⟩=S (.int J d.e)/\w.cell? ⟨a,b+k*3+1,N⟩=S (.int J d.a)/\w.cell? ⟨a,b+k*3+2,N⟩=S d.b:=by
 obtain⟨a,b,n,j⟩:=ja l (by omega);have c:∀e g,e<3->(oX d)[e]?=S g->w.cell? ⟨a,b+k*3+e,N⟩=S g:=λe g o p=>by have:=j.a (k*3+e) g (by rw[<-p];exact pD (f:=oX) (c:=3) (λ_=>rfl) T k d m e o);rw[<-UI]at this;exact this
 have q:=c 0 _ (by omega) rfl;exact⟨a,b,n,j.b,q,c 1 _ (by omega) rfl,c 2 _ (by omega) rfl⟩
structure qS(ta:Option Addr)(tc:Nat)(T:List Pk)(h:Nat)(w:World)(tag:Nat->Nat):Prop where
 a:RV w 58 3 ta T.length tc (kN T)
 e:T.Pairwise λf j=>f.g≠j.g
 b:∀(g:Nat)(f:Pk),h<=g->T[g]?=S f->PB w f.g f.l f.c
 c:∀i,ag ta i->tag i=2
 d:∀(g:Nat)(f:Pk),h<=g->T[g]?=S f->tag f.g=3
structure pp(ua:Option Addr)(uc:Nat)(U:List Pk)(w:World)(tag:Nat->Nat):Prop where
 a:RV w 58 3 ua U.length uc (kN U)
 b:∀e∈U,jw w e.g e.l e.c
 c:∀f,ag ua f->tag f=4
 d:∀e∈U,tag e.g=5
def F5(ta tc T h):oJ (qS ta tc T h):=λi w o tag j e k l=>by have m:∀b,ag ta b->¬i b/\j b=tag b:=λb d=>l b (e.a.b b d) (by have:=e.c b d;unfold zt;omega);have d:∀(c:Nat)(a:Pk),h<=c->T[c]?=S a->¬i a.g/\j a.g=tag a.g:=λc a f g=>l a.g (e.b c a f g).b.b (by have:=e.d c a f g;unfold zt;omega);exact⟨e.a.a k λb d=>(m b d).1,e.e,λc a f g=>(e.b c a f g).a k (λp n=>by rw[cM.1 n];exact(d c a f g).1),λb d=>(m b d).2.trans (e.c b d),λc a f g=>(d c a f g).2.trans (e.d c a f g)⟩
def BD(ua uc U):oJ (pp ua uc U):=λf w l tag g d h i=>by have j:∀b,ag ua b->¬f b/\g b=tag b:=λb c=>i b (d.a.b b c) (by have:=d.c b c;unfold zt;omega);have c:∀a∈U,¬f a.g/\g a.g=tag a.g:=λa e=>i a.g ((d.b a e).b a.g (eN _ _)) (by have:=d.d a e;unfold zt;omega);exact⟨d.a.a h λb c=>(j b c).1,λa e=>(d.b a e).a h (λm k=>by rw[cM.1 k];exact(c a e).1),λb c=>(j b c).2.trans (d.c b c),λa e=>(c a e).2.trans (d.d a e)⟩
section
variable {W0 w w2 w3 : World} {tag : Nat → Nat} {yb : Nat} {ea : Option Addr} {ec : Nat} {l : List Lp} {p1 : Value} {R : Nat → Rw} {Y Z : World → (Nat → Nat) → Prop} {L T U : List Pk} {L' : List Pk} {ta ua : Option Addr} {tc uc : Nat}
def LS.G(n:LS W0 w tag yb ea ec l p1 R Y Z){i}(o:ae aa w i)(g:oI i w2 L T ta tc)(h:oH w2 w3 L' U ua uc):∃e,LS W0 w3 e yb ea ec l p1 R Y (λw p=>pp ua uc U w p/\qS ta tc T 0 w p):=by
 classical
 have q:=g.a;have j:=h.d;have G:=o.size;have H:=q.size;have K:=j.size;have r:∀a,ag ta a->i.heap.size<=a/\a<w2.heap.size:=λa d=>⟨g.t.e a d,g.c.b a d⟩
 have m:∀b∈T,i.heap.size<=b.g/\b.g<w2.heap.size/\¬ag ta b.g:=λb c=>⟨(g.t.b b c).2.1,(g.b b c).b.b,(g.t.b b c).2.2⟩
 have u:∀a,ag ua a->w2.heap.size<=a/\a<w3.heap.size:=λa d=>⟨h.e a d,h.f.b a d⟩
 have v:∀b∈U,w2.heap.size<=b.g/\b.g<w3.heap.size/\¬ag ua b.g:=λb c=>⟨(h.b b c).2.1,(h.b b c).1.b b.g (eN _ _),(h.b b c).2.2⟩
 obtain⟨e,k⟩:∃e:Nat->Nat,e=λa=>if ag ta a then 2 else if ∃b∈T,b.g=a then 3 else if ag ua a then 4 else if ∃b∈U,b.g=a then 5 else tag a:=⟨_,rfl⟩
 have s:∀a,a<i.heap.size\/w3.heap.size<=a->e a=tag a:=λa d=>by grind
 have x:∀a,ag ta a->e a=2:=λa d=>by rw[k];simp only;rw[UG d]
 have y:∀b∈T,e b.g=3:=λb c=>by rw[k];simp only;rw[Us (m b c).2.2,UG ⟨b,c,rfl⟩]
 have z:∀a,ag ua a->e a=4:=λa d=>by have:=u a d;rw[k];simp only;rw[Us (λf=>by have:=r a f;omega),Us (λ⟨b,c,f⟩=>by have:=m b c;omega),UG d]
 have A:∀b∈U,e b.g=5:=λb c=>by have:=v b c;rw[k];simp only;rw[Us (λf=>by have:=r b.g f;omega),Us (λ⟨C,D,f⟩=>by have:=m C D;omega),Us this.2.2,UG ⟨b,c,rfl⟩]
 have t:=((n.a o).a q).a j;refine⟨e,t.i (wP (BD _ _ _) (F5 _ _ _ _)) (λa d f=>?_) (λa d=>by rw[s a (Up d)];exact t.d a d) ⟨⟨h.f,λb c=>(h.b b c).1,z,A⟩,⟨g.c.a j λ_ _ f=>f,g.t.i,λE b _ c=>(g.b b (Uo c)).a j λ_ _ f=>f,x,λE b _ c=>y b (Uo c)⟩⟩⟩;apply s;apply UC;intro M;have:=n.d a (by omega);omega
end
def Tx{W0 w tag yb ea ec l p1 R Y ta ua tc uc T U i}(p:LS W0 w tag yb ea ec l p1 R Y λw g=>pp ua uc U w g/\qS ta tc T i w g){b d}(t:T[i]?=S b)(z:U[i]?=S d)(A:d.l=b.l)(ad:(b.l.length:Int)<1000)(C:((R 0).n:Int)<1099511627776):
 Cr 78 #[P (S ⟨yb,0,N⟩),.slice (S ⟨b.g,0,N⟩) b.l.length b.c,.slice (S ⟨d.g,0,N⟩) b.l.length d.c] w (B true) λx=>∃u m,LS W0 x u yb ea ec l p1 m Y (λw g=>pp ua uc U w g/\qS ta tc T (i+1) w g)/\(m 0).n=(R 0).n+1/\(∀f,f≠0->m f=R f):=by
 have n:=p.e.1;have h:=p.e.2;have q:=h.d i b (UF _) t;have r:=h.b i b (UF _) t;obtain⟨k,y⟩:∃k:Nat->Nat,k=λa=>if a=b.g then 0 else tag a:=⟨_,rfl⟩
 have o:∀a,a≠b.g->k a=tag a:=λa e=>by rw[y];simp only;rw[Us e]
 have D:k b.g=0:=by rw[y];simp
 have E:LS W0 w k yb ea ec l p1 R Y (λw g=>pp ua uc U w g/\qS ta tc T (i+1) w g):=by
  refine p.i (wP (BD _ _ _) (F5 _ _ _ _)) (λa e c=>o a λH=>by rw[H,q]at c;omega) (λa e=>?_) ⟨⟨n.a,n.b,λa e=>?_,λj s=>?_⟩,⟨h.a,h.e,λf j v=>h.b f j (by omega),λa e=>?_,λf j v s=>?_⟩⟩;rw[o a (by have:=r.b.b;omega)];exact p.d a e;have:=n.c a e;rw[o a λc=>by rw[c,q]at this;omega];exact this;have:=n.d j s;rw[o j.g λc=>by rw[c,q]at this;omega];exact this;have:=h.c a e;rw[o a λc=>by rw[c,q]at this;omega];exact this;have:=h.d f j (by omega) s;have ae:j.g≠b.g:=λc=>by have af:=Vv.1 h.e;obtain⟨ah,ai⟩:=Ul.1 t;obtain⟨aj,ak⟩:=Ul.1 s;grind
  grind
 have K:∀a,a<w.heap.size->ap b.g a->k a=0:=λa _ c=>by rw[show a=b.g from c];exact D
 have M:fE w d.g 0 b.l:=by have O:=n.b d (Uo z);rw[<-A];intro f v;obtain⟨al,am,c,Q⟩:=ja O (by omega);cases c;exact Q.a f _ (by simp[v,bv])
 refine(E.n (κ:=0) (by omega) (G:=ag (S ⟨b.g,0,N⟩)) (λa e c=>K a e (cM.1 c)) λan V W X Z=>(zm (mM w b.g 0 b.c _ (lI r.b)) (mM w d.g 0 d.c _ M) V W X Z (r.b.h (by simp) r.c) (by omega) C).mono λ_ _ ⟨b,d⟩=>⟨b,0,d⟩).mono ?_;rintro c x ⟨rfl,u,m,aa,ab,ac,_⟩;exact⟨rfl,u,m,aa,ab,ac⟩
def Tu{W0 w tag yb ea ec l p1 R Y ta ua tc uc T U}(f:LS W0 w tag yb ea ec l p1 R Y λw k=>pp ua uc U w k/\qS ta tc T T.length w k)(q:(T.length:Int)<=1000)(r:((R 3).n:Int)<1099511627776):
 Cr 140 #[P (S ⟨yb,2,N⟩),.slice ta T.length tc] w (.tuple #[]) λm=>∃i c,LS W0 m i yb ea ec l p1 c Y (pp ua uc U)/\(c 3).n=(R 3).n+1/\(∀j,j≠3->c j=R j):=by
 classical
 have g:=f.e.1;have n:=f.e.2;obtain⟨d,o⟩:∃d:Nat->Nat,d=λa=>if ag ta a then 0 else tag a:=⟨_,rfl⟩
 have h:∀a,tag a≠2->d a=tag a:=λa b=>by rw[o];simp only;rw[Us λe=>b (n.c a e)]
 have s:∀a,ag ta a->d a=0:=λa b=>by rw[o];simp only;rw[UG b]
 have t:LS W0 w d yb ea ec l p1 R Y (pp ua uc U):=by refine f.i (BD _ _ _) (λa b e=>h a (by omega)) (λa b=>?_) ⟨g.a,g.b,λa b=>?_,λp u=>?_⟩;have:=f.d a b;rw[h a (by omega)];exact this;have:=g.c a b;rw[h a (by omega)];exact this;have:=g.d p u;rw[h p.g (by omega)];exact this
 refine(t.j (κ:=3) (by omega) n.a (λv _ e=>s v e) q r).mono ?_;rintro e m ⟨rfl,i,c,x,y,z,_⟩;exact⟨rfl,i,c,x,y,z⟩
def TG{T U:List Pk}(e:T.map Pk.d=U.map Pk.d){c:Nat}{a b}(f:T[c]?=S a)(g:U[c]?=S b):b.e=a.e/\b.a=a.a/\b.l=a.l:=by
 have d:(T.map Pk.d)[c]?=S a.d:=by rw[Uz,f];rfl
 rw[e,Uz,g]at d;have h:b.d=a.d:=by simpa using d
 unfold Pk.d at h;grind
def Qy(W0 w tag yb ea ec l R Z q r j)(M:LS W0 w tag yb ea ec l (.slice q j.length r) R (ix q r j) Z)(aH:hU l)(O)(aI:bZ R l<=O)(aJ:(j.length:Int)<=O)(al:∀a∈j,iO a.cP a.D)(am:Nat)(a)(X:j[am]?=S a)(aK:(O:Int)<1000000000):
 Cr 92 #[P (S ⟨yb,0,N⟩),.agg #[P (S ⟨a.cP.nb,0,N⟩),P (S ⟨a.D.b,0,N⟩)]] w (B true) λh=>fe W0 h yb (O+400):=by
 obtain⟨an,ao⟩:=ah a.cP.nb;obtain⟨ap,ar⟩:=ah a.D.b;have y:=al a (Uo X);have bf:=y.c;obtain⟨d,aL⟩:=ah a.cP.aS.length;have aM:a.cP.aS.map Pk.d=(a.D.aV.map Dk.d).map Pk.d:=by have z:=Vj (λbg:AN=>bg.fu.map λe=>(e.f,e.t,e.l)) y.b;simp only[Dn.a,Nt.a,Wj]at z;rw[Wj];have t:((λe:AP=>(e.f,e.t,e.l))∘Pk.f)=Pk.d:=rfl;have A:((λe:AP=>(e.f,e.t,e.l))∘Dk.b)=(Pk.d∘Dk.d):=rfl;rw[t,A]at z;exact z.symm
 have aN:∀b∈a.cP.aS,(b.l.length:Int)<1000:=λb k=>by obtain⟨c,C⟩:=VL k;exact(bn.h y.a C).2.1
 have aO(_:=()):∀i,ae aa w i->Calls prog 24 #[P (S ⟨an,0,N⟩)] i λn h=>∃T f g,n= .returned (.slice f d g)/\oI i h a.cP.aS T f g:=λi au=>by
  rw[ao];refine(KG (R:=λE h=>∃T f g,E= .slice f d g/\oI i h a.cP.aS T f g) a.cP.nb i ((Pj a.cP 3400 i ((M.a au).c.a am a X).oq y.a).mono ?_)).mono ?_;rintro n h ⟨T,f,g,rfl,D⟩;have o:T.length=d:=by have:=Vj List.length D.t.h;simp only[UX]at this;omega
  rw[o];exact⟨_,rfl,T,f,g,rfl,D⟩;rintro n h ⟨E,rfl,T,f,g,rfl,D⟩;exact⟨T,f,g,rfl,D⟩
 have aP(_:=()):∀i,ae aa w i->Calls prog 139 #[P (S ⟨ap,0,N⟩)] i λn h=>∃U f g,n= .returned (.slice f d g)/\oH i h (a.D.aV.map Dk.d) U f g:=λi au=>by
  rw[ar];refine(Mq a.D i ((M.a au).c.a am a X).qV (by omega) λb k=>?_).mono ?_;obtain⟨c,C⟩:=VL k;have bh:a.cP.a.fu[c]?=S b.b:=by
   have:a.D.a.fu[c]?=S b.b:=by simp[Dn.a,C]
   rw[y.b]at this;exact this
  obtain⟨_,Q,m,_⟩:=y.a.e b.b (Uo bh);have o:b.b.l=b.l:=rfl;rw[o]at Q m;exact⟨Q,by omega⟩;rintro n h ⟨U,f,g,rfl,D⟩;have o:U.length=d:=by have:=Vj List.length D.h;simp only[UX]at this;omega
  rw[o];exact⟨U,f,g,rfl,D⟩
 have aQ(_:=()):(d:Int)<=300/\d=a.cP.aS.length/\a.cP.aS.map Pk.d=(a.D.aV.map Dk.d).map Pk.d/\(∀b∈a.cP.aS,(b.l.length:Int)<1000):=⟨by omega,aL,aM,aN⟩
 have bi:=@af _ M;have aR:=@lP _ _ _ _ _ aH aI aJ al aK;have bQ:=@af _ M.h.1;rw[<-ao,<-ar];clear M aH aI aJ al X aK y ao ar bf aM aN aL;go_enter func92,ntmps92;go_wp2_with fail;obtain⟨av,Y⟩:=ah (w.alloc (.cells #[P (S ⟨an,0,N⟩),P (S ⟨ap,0,N⟩)] 103));have aS:aq av w.heap.size #[P (S ⟨an,0,N⟩),P (S ⟨ap,0,N⟩)] 103:=by rw[Y];exact aq.e _ _ _
 have aT:ae aa w av:=by rw[Y];exact(ae.a aa w).b _
 rw[<-Y];have V:=@aC _ _ aS aT;clear Y aS aT;refine Uq (aO () av V.2) ?_;rintro n w2 ⟨T,ta,tc,rfl,ab⟩;have aw:=@af _ ab;have aU:=(V.1.c ab.a λo=>o).a 1;have bj:=(V.1.c ab.a λo=>o).b;simp at aU;clear ab aO;go_wp2_with fail;refine Uq (aP () w2 (V.2.c aw.a)) ?_;rintro n w3 ⟨U,ua,uc,rfl,ax⟩;have aV:=@af _ (bi.G V.2 aw ax);have s(_:=()):T.length=d/\U.length=d/\T.map Pk.d=U.map Pk.d/\∀b∈T,(b.l.length:Int)<1000:=by
  have t:=aw.t.h;have A:=ax.h;obtain⟨bR,bS,aW,bk⟩:=aQ;have bl:=Vj List.length t;have bm:=Vj List.length A;have bo:=Vj List.length aW;simp only[UX]at bl bm bo;refine⟨by omega,by omega,by rw[t,A,aW],λb k=>?_⟩;have bp:b.d∈a.cP.aS.map Pk.d:=by rw[<-t];exact List.mem_map_of_mem k
  obtain⟨e,bq,br⟩:=Vb.1 bp;have:e.l=b.l:=Vj (λaX:Nat×Nat×List Nat=>aX.2.2) br;rw[<-this];exact bk e bq
 have bT:=aQ.1;clear ax aP aU bj;go_wp2_with fail;go_loopw [7,8,9] (λbs E _ wr=>∃(c:Nat)(aY:Nat->Nat)(G:Nat->Rw),c<=d/\E= .int J c/\bs=B true/\LS W0 wr aY yb ea ec l (.slice q j.length r) G (ix q r j) (λw u=>pp ua uc U w u/\qS ta tc T c w u)/\(G 0).n=(R 0).n+c/\(∀p,p≠0->G p=R p)) λ_ E _ _=>d-(intOf E).toNat;case atStart=>
  obtain⟨ay,m⟩:=aV;exact⟨0,ay,R,by omega,rfl,by simp,m,rfl,λ_ _=>rfl⟩
 case round=>
  clear aV;obtain⟨c,aY,G,C,rfl,rfl,aZ,a0,a1⟩:=hrel;have v:=@gA _ _ _ _ aZ a0 a1 C;clear aZ a0 a1;by_cases az:c<d
  .have ac:=@af _ az;have bt:(c:Int)<d:=by omega
   have bU:(c:Int)<1000:=by omega
   obtain⟨b,k⟩:∃b,T[c]?=S b:=⟨_,Um (by have:=s;omega)⟩
   obtain⟨H,W⟩:∃H,U[c]?=S H:=⟨_,Um (by have:=s;omega)⟩
   obtain⟨t,A,K⟩:=TG s.2.2.1 k W;have ad(_:=()):T[c]?=S b/\U[c]?=S H/\H.e=b.e/\H.a=b.a/\H.l=b.l:=⟨k,W,t,A,K⟩
   have aA(_:=()):∀a2,ae aa wr a2->_:=λa2 bu=>Tx (v.1.a bu) k W K (s.2.2.2 b (Uo k)) (by have z:=v.2.1;have Q:=(mh R l).1 0 (by omega);have m:=aR;omega);obtain⟨bv,bw,aB,bx,bz,aD,ag⟩:=zk v.1.e.2.a k (by have:=s;omega);obtain⟨bA,bB,aE,bC,bD,bE,ai⟩:=zk v.1.e.1.a W (by have:=s;omega);obtain⟨a3,a4⟩:∃a3,a3=b.l.length:=⟨_,rfl⟩
   unfold Pk.b at ag ai;rw[K]at ai;rw[<-a4]at ag ai aA;have aj(_:=()):ta=S ⟨bv,bw,N⟩/\ua=S ⟨bA,bB,N⟩:=⟨aB,aE⟩
   rw[aB,aE];clear C az k W t A K a4 aB aE;go_wp2_with fail;go_region_with (go_at_call 78;refine Uq (aA () _ (by repeat (first|exact ae.a _ _|apply ae.drew|apply ae.drewN))) ?_;rintro n aF ⟨rfl,aG,x,a5,a6,a7⟩;have ak(_:=()):LS W0 aF aG yb ea ec l (.slice q j.length r) x (ix q r j) (λw u=>pp ua uc U w u/\qS ta tc T (c+1) w u)/\(x 0).n=(R 0).n+(c+1)/\(∀p,p≠0->x p=R p):=⟨a5,by rw[a6,v.2.1];omega,λp a8=>(a7 p a8).trans (v.2.2.1 p a8)⟩;clear a5 a6 a7);all_goals
    obtain⟨bV,bW,a9,bF,bG,bH,_⟩:=zk ak.1.e.2.a ad.1 (by have:=s;have:=ac;omega);obtain⟨bX,bY,ba,bI,bb,bc,_⟩:=zk ak.1.e.1.a ad.2.1 (by have:=s;have:=ac;omega);rw[aj.1]at a9;rw[aj.2]at ba;cases a9;cases ba;rw[ad.2.2.1]at bb;rw[ad.2.2.2.1]at bc;clear bz aD ag bD bE ai bx bC aA;go_wp2_with fail;go_quiet (fail);have bJ(_:=()):LS W0 (aF.drewN nq) aG yb ea ec l (.slice q j.length r) x (ix q r j) (λw u=>pp ua uc U w u/\qS ta tc T (c+1) w u):=ak.1.a ((ae.a aa aF).drewN nq);clear bG bH bb bc bF bI;go_wp2;exact⟨⟨c+1,aG,x,by have:=ac;omega,by go_num,by simp,by rw[<-aj.1,<-aj.2];exact bJ,ak.2⟩,by have:=ac;simp[intOf];omega⟩
  .have bK:c=d:=by omega
   have bt:¬((c:Int)<d):=by omega
   have bd(_:=()):Cr 140 #[P (S ⟨yb,2,N⟩),.slice ta d tc] wr (.tuple #[]) λh=>fe W0 h yb (O+400):=by
    obtain⟨z,Q,m,_⟩:=v;obtain⟨aD,ag,b0,bL,b1⟩:=aR;obtain⟨u1,u2,_,_⟩:=s;rw[bK,<-u1]at z;have b2:=(mh R l).1 3 (by omega);have K:=m 3 (by omega);rw[<-u1];refine(Tu z (by omega) (by rw[K];omega)).mono ?_;rintro o h ⟨rfl,ay,x,bM,bN,bO⟩;have aX:bZ x l=bZ G l+1:=yY (by omega) bN bO;have b3:bZ G l=bZ R l+c:=by unfold bZ;rw[Q,m 1 (by omega),m 2 (by omega),m 3 (by omega),m 4 (by omega),m 5 (by omega)];omega
    exact⟨rfl,q,r,j,⟨ay,ea,ec,l,x,_,bM,aD,by omega⟩,bL,by omega⟩
   have b4:=v.1.h.1;clear C az;go_wp2_with fail;refine Uq bd ?_;rintro n b5 ⟨rfl,be⟩;have bP:=@af _ be;clear be bd;go_wp2;go_ret;exact⟨rfl,bP⟩
def vZ(a b c:Int)(d:Bool)(e:Int)(f:List Nat)(g:Option Addr)(h:Nat):Array Value:= #[I J a,I J b,I J c,B d,I J e,L g f.length h]
def OO{g n}(o:iO g n)(k):∃s t u v w h x,h.length<=100/\
 (∀a,bn a g->Calls prog 23 #[P (S ⟨g.nb,0,N⟩),.int J k] a λi d=>∃c e,i= .returned (.tuple #[.agg (vZ s t u v w h c e),.int J x])/\RV d 3 1 c h.length e (gT h)/\ae aa a d/\∀f,ag c f->a.heap.size<=f)/\
 (∀a,bP a n->Calls prog 144 #[P (S ⟨n.b,0,N⟩),.int J k] a λi d=>∃c e,i= .returned (.tuple #[.agg (vZ s t u v w h c e),.int J x])/\RV d 3 1 c h.length e (gT h)/\ae aa a d/\∀f,ag c f->a.heap.size<=f):=by
 obtain⟨U,V,W,X⟩:=o.c;by_cases A:0<=k/\k<(g.aK.length:Int);obtain⟨m,rfl⟩:∃m:Nat,k=(m:Int):=⟨k.toNat,by omega⟩
 have C:m<g.aK.length:=by omega
 obtain⟨y,b,D,E,z,G⟩:=o.h C;have H:=o.g.e z;have K:y.n=b.n:=Vj AS.n G;have M:b.n.ai.length<=100:=H.1;refine⟨b.n.aP,b.n.aM,b.n.cX,b.n.iy,b.n.an.length,b.n.ai.map (·.2),0,by rw[UX];exact M,λa j=>?_,λa j=>?_⟩;refine(Kx g m y 3400 a j D o.a).mono ?_;rintro i d ⟨c,e,rfl,p,l,q⟩;rw[K]at p|-;refine⟨c,e,?_,by rw[UX];exact p,l,q⟩;unfold oS vZ;rw[UX];have O:b.ss.length<=100:=by
  have Q:=(o.a.a m b.a z).2.1;have Y:b.a.ss.length=b.ss.length:=by simp[Ds.a]
  have R:b.a.n=b.n:=rfl;rw[R]at Q;omega
 refine(Mi n m b a j E (by omega) O).mono ?_;rintro i d ⟨c,e,rfl,p,l,q⟩;refine⟨c,e,?_,by rw[UX];exact p,l,q⟩;unfold oS vZ;rw[UX];refine⟨0,0,0,F,0,[],6,by simp,λa j=>(Ky g k a j A).mono ?_,λa j=>(Mh n k a j (by omega)).mono ?_⟩;rintro i d ⟨rfl,l⟩;exact⟨N,0,rfl,RV.d _ _ _,l,λf r=>(b8 f r).elim⟩;rintro i d ⟨rfl,l⟩;exact⟨N,0,rfl,RV.d _ _ _,l,λf r=>(b8 f r).elim⟩
def OP(O c aX u ax ay A X az Q R l)(C:LS O c aX u ax ay A (L Q l.length R) X (ix Q R l) az)(aY:hU A)(D)(aZ:bZ X A<=D)(a0:(l.length:Int)<=D)(aA:∀e∈l,iO e.cP e.D)(aB:Nat)(e)(Y:l[aB]?=S e)(a1:(D:Int)<1000000000)(k):
 Cr 98 #[P (S ⟨u,0,N⟩),.agg #[P (S ⟨e.cP.nb,0,N⟩),P (S ⟨e.D.b,0,N⟩)],.int J k] c (B T) λE=>fe O E u (D+1):=by
 obtain⟨a2,aD⟩:=ah e.cP.nb;obtain⟨a3,aE⟩:=ah e.D.b;have a4:=aA e (Uo Y);obtain⟨m,n,o,p,q,U,bU,bm,Z,ab⟩:=OO a4 k;obtain⟨b,ac⟩:=ah U.length;unfold vZ at Z ab;rw[<-aD,<-ac]at Z;rw[<-aE,<-ac]at ab;have aF(_:=()):b=U.length/\(b:Int)<=100:=⟨ac,by omega⟩
 have a5(_:=()):∀f,ae aa c f->_:=λf V=>Z f ((C.a V).c.a aB e Y).oq;have a6(_:=()):∀f,ae aa c f->_:=λf V=>ab f ((C.a V).c.a aB e Y).qV;have bn(_:=()):∀f,ae aa c f->LS O f aX u ax ay A (L Q l.length R) X (ix Q R l) az:=λf V=>C.a V;have bo:=@nh _ _ _ _ _ _ aY aZ a0 aA a1 C.d;have bp:=@af _ C.h.1;rw[<-aD,<-aE];clear C aY aZ a0 aA Y a1 a4 aD aE Z ab ac bm;go_enter func98,ntmps98;go_wp2_with fail;obtain⟨aG,ad⟩:=ah (c.alloc (.cells #[P (S ⟨a2,0,N⟩),P (S ⟨a3,0,N⟩)] 103));have a7:aq aG c.heap.size #[P (S ⟨a2,0,N⟩),P (S ⟨a3,0,N⟩)] 103:=by rw[ad];exact aq.e _ _ _
 have a8:ae aa c aG:=by rw[ad];exact(ae.a aa c).b _
 rw[<-ad];have G:=@aC _ _ a7 a8;clear ad a7 a8;refine Uq (a5 () aG G.2) ?_;rintro a9 H ⟨r,v,rfl,aH,ai,ba⟩;have K:=@cf _ _ _ aH ai ba;have bb:=(G.1.c ai λa=>a).a 1;have bq:=(G.1.c ai λa=>a).b;simp at bb;obtain⟨aj,ak⟩:=ah (H.alloc (.cells #[I J m,I J n,I J o,B p,I J q,L r b v] 50));obtain⟨g,aI⟩:=ah H.heap.size;have w(_:=()):ae aa H aj/\aq aj g #[I J m,I J n,I J o,B p,I J q,L r b v] 50/\g=H.heap.size/\aj=H.alloc (.cells #[I J m,I J n,I J o,B p,I J q,L r b v] 50):=⟨by rw[ak];exact(ae.a aa H).b _,by rw[ak,aI];exact aq.e _ _ _,aI,ak⟩
 clear aH ai ba a5 ak aI;go_wp2_with fail;rw[<-w.2.2.2,<-w.2.2.1];refine Uq (a6 () aj ((G.2.c K.2.1).c w.1)) ?_;rintro a9 al ⟨W,am,rfl,bc,aJ,br⟩;have aK:=@aC _ _ bc aJ;have an:=w.2.1.c aJ λa=>a;have M:=an.a 5;have ao:=an.b;simp at M;obtain⟨x,ap⟩:=ah (al.alloc (.cells #[I J m,I J n,I J o,B p,I J q,L W b am] 50));obtain⟨s,aL⟩:=ah al.heap.size;have y:ae aa al x:=by rw[ap];exact(ae.a aa al).b _
 have t(_:=()):ae aa c x/\aq x g #[I J m,I J n,I J o,B p,I J q,L r b v] 50/\aq x s #[I J m,I J n,I J o,B p,I J q,L W b am] 50/\RV x 3 1 r b v (gT U)/\RV x 3 1 W b am (gT U)/\c.heap.size<=g/\c.heap.size<=s/\(∀z,ag r z->c.heap.size<=z/\z<g)/\g≠s/\g<s:=by have bs:=G.2.c K.2.1;have aM:=w.1.c aK.2;have bd:=G.2.size;have be:=K.2.1.size;have ar:=aM.size;have bV:=w.2.2.1;have bW:=w.2.1.b;have bX:=aK.2.size;refine⟨(bs.c aM).c y,an.c y λa=>a,by rw[ap,aL];exact aq.e _ _ _,(K.1.a aM λ_ _ a=>a).a y λ_ _ a=>a,aK.1.a y λ_ _ a=>a,by omega,by omega,λz bf=>⟨by have:=K.2.2 z bf;omega,?_⟩,by omega,by omega⟩;have:=K.1.b z bf;omega
 have aN:=@aC _ _ ap aL;clear bc aJ br a6 an ap aL y bb bq;go_upto_region 3 with fail;rw[<-aN.1,<-aN.2];have M:=t.2.1.a 5;have au:=t.2.2.1.a 5;simp at M au;have ao:=t.2.1.b;have aO:=t.2.2.1.b;clear aN;go_wp2_with fail;go_loopw [11,12] (λbt aP wr=>∃d:Nat,d<=b/\aP= .int J d/\bt=B T/\ae aa x wr) λ_ aP _=>b-(intOf aP).toNat;case atStart=>exact⟨0,by omega,rfl,by simp,ae.a _ _⟩
 case round=>
  obtain⟨d,aQ,rfl,rfl,h⟩:=hrel;have aR:=@aC _ _ h aQ;have M:=(h.f g 5 ao λa=>a).trans M;have au:=(h.f s 5 aO λa=>a).trans au;have ao:=Un ao h.size;have aO:=Un aO h.size;by_cases aS:d<b
  .have bg:=@af _ aS;have bu:(d:Int)<b:=by omega
   have bY:(d:Int)<1000:=by have:=aF;omega
   obtain⟨a,aT⟩:∃a,U[d]?=S a:=⟨_,Um (by have:=aF;omega)⟩
   obtain⟨b0,z,bh,aU⟩:=ja (t.2.2.2.1.a h λ_ _ a=>a) (by omega);obtain⟨b1,b2,bi,aV⟩:=ja (t.2.2.2.2.1.a h λ_ _ a=>a) (by omega);have bv:=aU.a d _ (Bm _ d a aT);have bw:=aV.a d _ (Bm _ d a aT);have bx:=aU.b;have bz:=aV.b;rw[bh]at M;rw[bi]at au;clear aQ aS h aT bh bi aU aV;go_wp2_with fail;go_quiet (fail);have bA:=@af _ (aR.1.drewN nq);clear bv bw bx bz;go_wp2;exact⟨⟨d+1,by have:=bg;omega,by go_num,by simp,bA⟩,by have:=bg;simp[intOf];omega⟩
  .have bu:¬((d:Int)<b):=by omega
   have bB(_:=()):∀av,ae aa wr av->Cr 145 #[P (S ⟨u,2,N⟩),L r b v] av (.tuple #[]) λE=>fe O E u (D+1)/\aq E g #[I J m,I J n,I J o,B p,I J q,L r b v] 50/\aq E s #[I J m,I J n,I J o,B p,I J q,L W b am] 50:=λav bC=>by obtain⟨y,i,j,bD,aH,bd,be,ar,b3,b4⟩:=t;have aw:=aR.1.c bC;have bE:=bn () av (y.c aw);obtain⟨bF,W,b5,bG,b6,aW⟩:=bo;have b7:=(mh X A).1 4 (by omega);refine(bE.j (κ:=4) (by omega) (bD.a aw λ_ _ a=>a) (λbj _ bH=>aW bj (ar bj bH).1) (show (b:Int)<=1000 by have:=aF;omega) (by omega)).mono ?_;rintro a E ⟨rfl,bI,bJ,bK,bL,bM,_,_,bk⟩;refine⟨rfl,⟨Q,R,l,⟨bI,ax,ay,A,bJ,az,bK,bF,by rw[yY (by omega) bL bM];omega⟩,bG,by omega⟩,(i.c aw λa=>a).c bk λa=>?_,(j.c aw λa=>a).c bk λa=>?_⟩;obtain a|a:=a;have:=ar g a;omega;have:=aW g bd;omega;obtain a|a:=a;have:=ar s a;omega;have:=aW s be;omega
   have b8:=Un bp (t.1.c aR.1).size;clear aQ aS h;go_wp2_with fail;go_region_with (go_at_call 145;refine Uq (bB () _ (by repeat (first|exact ae.a _ _|apply ae.drew|apply ae.drewN))) ?_;rintro a9 bN ⟨rfl,bl,i,j⟩;have u0:=i.a 0;have u1:=i.a 1;have u2:=i.a 2;have u3:=i.a 3;have u4:=i.a 4;have bO:=j.a 0;have bP:=j.a 1;have bQ:=j.a 2;have bR:=j.a 3;have bS:=j.a 4;simp at u0 u1 u2 u3 u4 bO bP bQ bR bS;have b9:=i.b;have ca:=j.b;have bT(_:=()):fe O bN u (D+1):=bl;clear bl i j);all_goals
    go_wp2;go_ret;exact⟨by simp,bT⟩
def TE{a:AN}(c:a.g.length<=100):a.C.length<=100:=by unfold AN.C;have:=VP (λb=>a.u b.a.toNat b.b.toNat||a.u b.b.toNat b.a.toNat) a.g;omega
def Fg{b a}(c:Ghs.V.jv b a):a.g.length<=100:=by obtain⟨e,_,f,d,_⟩:=c.a;rw[d,UX];omega
def TD(H j ak p U V q R W w x l)(r:LS H j ak p U V q (L w l.length x) R (ix w x l) W)(al:hU q)(y)(am:bZ R q<=y)(an:(l.length:Int)<=y)(X:∀a∈l,iO a.cP a.D)(Y:Nat)(a)(K:l[Y]?=S a)(ao:(y:Int)<1000000000):
 Cr 99 #[P (S ⟨p,0,N⟩),.agg #[P (S ⟨a.cP.nb,0,N⟩),P (S ⟨a.D.b,0,N⟩)]] j (B T) λf=>fe H f p (y+1):=by
 obtain⟨Z,ab⟩:=ah a.cP.nb;obtain⟨ac,ad⟩:=ah a.D.b;obtain⟨s,hF⟩:=ah a.cP.a.C;obtain⟨g,z⟩:=ah s.length;have i:=X a (Uo K);have aP:g<=100:=by rw[z,hF];exact TE (Fg i.g)
 have t(_:=()):g=s.length/\(g:Int)<=100:=⟨z,by omega⟩
 have ap(_:=()):∀c,ae aa j c->Calls prog 17 #[P (S ⟨Z,0,N⟩)] c λk f=>∃d e,k= .returned (L d g e)/\ly c f s d e:=λc A=>by rw[ab];refine(KW (R:=λu f=>∃d e,u=L d g e/\ly c f s d e) a.cP.nb c ((Pw a.cP 3400 c ((r.a A).c.a Y a K).oq i.a i.j).mono ?_)).mono ?_;rintro k f ⟨d,e,rfl,m⟩;rw[<-hF]at m|-;exact⟨_,rfl,d,e,by rw[z],m⟩;rintro k f ⟨u,rfl,d,e,rfl,m⟩;exact⟨d,e,rfl,m⟩
 have ar(_:=()):∀c,ae aa j c->Calls prog 146 #[P (S ⟨ac,0,N⟩)] c λk f=>∃d e,k= .returned (L d g e)/\ly c f s d e:=λc A=>by
  rw[ad];have bd:=i.c;have aQ:a.D.d.length<=100:=by have C:=Fg i.g;rw[<-i.b]at C;exact C
  refine(MN a.D c ((r.a A).c.a Y a K).qV aQ (by omega) λn aR=>?_).mono ?_;obtain⟨h,D⟩:=VL aR;have au:a.cP.a.bd[h]?=S n.a:=by
   have:a.D.a.bd[h]?=S n.a:=by simp[Dn.a,D]
   rw[i.b]at this;exact this
  have C:=(i.a.a h n.a au).2.1;have av:n.a.ss.length=n.ss.length:=by simp[Ds.a]
  have aw:=(i.g.e au).1;omega;rintro k f ⟨d,e,rfl,m⟩;rw[i.b,i.g.i,<-hF]at m|-;exact⟨d,e,by rw[z],m⟩
 have aS(_:=()):∀c,ae aa j c->LS H c ak p U V q (L w l.length x) R (ix w x l) W:=λc A=>r.a A;have aT:=@nh _ _ _ _ _ _ al am an X ao r.d;have aU:=@af _ r.h.1;rw[<-ab,<-ad];clear r al am an X K ao i ab ad hF z aP;go_enter func99,ntmps99;go_wp2_with fail;obtain⟨ag,M⟩:=ah (j.alloc (.cells #[P (S ⟨Z,0,N⟩),P (S ⟨ac,0,N⟩)] 103));have ax:aq ag j.heap.size #[P (S ⟨Z,0,N⟩),P (S ⟨ac,0,N⟩)] 103:=by rw[M];exact aq.e _ _ _
 have ay:ae aa j ag:=by rw[M];exact(ae.a aa j).b _
 rw[<-M];have o:=@aC _ _ ax ay;clear M ax ay;refine Uq (ap () ag o.2) ?_;rintro k aV ⟨d,e,rfl,O⟩;have v:=@af _ O;have az:=(o.1.c O.a λb=>b).a 1;have aW:=(o.1.c O.a λb=>b).b;simp at az;clear O ap;go_wp2_with fail;refine Uq (ar () aV (o.2.c v.a)) ?_;rintro k aX ⟨aY,be,rfl,aA⟩;have E:=@af _ aA;clear aA ar az aW;go_wp2_with fail;go_loopw [7,8] (λn u wr=>∃h:Nat,h<=g/\u= .int J h/\n=B T/\ae aa aX wr) λ_ u _=>g-(intOf u).toNat;case atStart=>exact⟨0,by omega,rfl,by simp,ae.a _ _⟩
 case round=>
  obtain⟨h,D,rfl,rfl,G⟩:=hrel;have Q:=@aC _ _ G D;by_cases ai:h<g
  .have aB:=@af _ ai;have aZ:(h:Int)<g:=by omega
   have bf:(h:Int)<1000:=by have:=t;omega
   obtain⟨b,aj⟩:∃b,s[h]?=S b:=⟨_,Um (by have:=t;omega)⟩
   obtain⟨bg,bh,aD,a0,aE,aF,aG⟩:=uA ((v.b.a E.a λ_ _ b=>b).a G λ_ _ b=>b) aj (by have:=t;omega);obtain⟨bi,bj,aH,a1,aI,aJ,aK⟩:=uA (E.b.a G λ_ _ b=>b) aj (by have:=t;omega);rw[aD,aH];obtain⟨bk,bl,bm⟩:=b;simp only at aE aF aG aI aJ aK;clear D ai G aj aD aH;go_wp2_with fail;go_quiet (fail);have a2:=@af _ (Q.1.drewN nq);clear aE aF aG aI aJ aK a0 a1;go_wp2;exact⟨⟨h+1,by have:=aB;omega,by go_num,by simp,a2⟩,by have:=aB;simp[intOf];omega⟩
  .have aZ:¬((h:Int)<g):=by omega
   have aL(_:=()):Cr 123 #[P (S ⟨p,2,N⟩),L d g e] wr (.tuple #[]) λf=>fe H f p (y+1):=by have a3:=v.a.c E.a;have a4:=a3.c Q.1;have a5:=aS () wr (o.2.c a4);obtain⟨a6,aY,bn,a7,bo,a8⟩:=aT;have bp:=(mh R q).1 1 (by omega);have aM:=(v.b.a E.a λ_ _ b=>b).a Q.1 λ_ _ b=>b;rw[<-t.1]at aM;refine(a5.j (κ:=1) (by omega) aM (λaN _ a9=>a8 aN (UM o.2.size (v.c aN a9))) (show (g:Int)<=5864062014700 by have:=t;omega) (by omega)).mono ?_;rintro b f ⟨rfl,ba,bb,C,av,aw,_⟩;exact⟨rfl,w,x,l,⟨ba,U,V,q,bb,W,C,a6,by rw[yY (by omega) av aw];omega⟩,a7,by omega⟩
   have bq:=Un aU (((o.2.c v.a).c E.a).c Q.1).size;clear D ai G;go_wp2_with fail;refine Uq aL ?_;rintro k br ⟨rfl,aO⟩;have bc:=@af _ aO;clear aO aL;go_wp2;go_ret;exact⟨rfl,bc⟩
end Go.Proofs.YtlfijfodklhplaaGreat
