import Derived.Test.YtlfijfodklhplaaGreatAl33
import Derived.Test.YtlfijfodklhplaaGreatAl34
import Derived.Test.YtlfijfodklhplaaGreatAl30
import Derived.JoinedCond
import Derived.Deep.CondSized
set_option maxRecDepth 100000
set_option maxHeartbeats 8000000
set_option linter.all false
open Go.RowKit Go.Proofs.Tryz
open Go.Value renaming int->I,slice->L,pointer->P,bool->B
open Go.IntKind renaming i64->J
open Option renaming some->S,none->N
open Bool renaming true->T,false->F
namespace Go.Proofs.YtlfijfodklhplaaGreat
def D0(a:Nat)(b:List Nat)(c:Nat)(d:World)(e:Nat->Nat):Prop:=gp d a b c/\e a=4
def NO(b c d):oJ (D0 b c d):=λg h i j k a e f=>by have:=f b a.1.b (by rw[a.2];unfold zt;omega);exact⟨a.1.a e this.1,this.2.trans a.2⟩
def LS.u{j e d k l m n o p q v}(r:LS j e d k l m n o p q v){c f g}(s:gp e c f g)(w:d c=0):
 ∃a,LS j e a k l m n o p q (D0 c f g):=by
 obtain⟨a,h⟩:∃a:Nat->Nat,a=λb=>if b=c then 4 else d b:=⟨_,rfl⟩
 have x:∀b,d b≠0->a b=d b:=λb y=>by rw[h];simp only;rw[Us λt=>y (by rw[t];exact w)]
 have z:a c=4:=by rw[h];simp
 refine⟨a,r.i (NO c f g) (λi u t=>x i (by omega)) (λi u=>?_) ⟨s,z⟩⟩;have:=r.d i u;have A:=s.b;rw[h];simp only;rw[Us (by omega)];exact this
def OI(D a am p Z ab i E q G an)(r:LS D a am p Z ab i E q G an)(X:hU i)(ao:Nat)(l)(ac:i[ao]?=S l)(ad:(bZ q i:Int)<1000000000)(H K M u b c k d e f v)(aL:u.oneCell'=T)(aM:v.oneCell'=T):
 Cr 44 #[P (S ⟨p,0,N⟩),.agg #[P (S ⟨l.b,0,N⟩),P (S ⟨l.a,0,N⟩)],kq 7 H K M u b c k d e f v] a (B T) λag=>fQ D ag p E G (bZ q i+24):=by
 by_cases ap:iZ b c k d e f=0
 .obtain⟨m,ar,au⟩:=Bf ap;obtain⟨w,x⟩:=ah l.b;obtain⟨y,A⟩:=ah l.a;have aE:=@af _ r.d;have O(_:=()):∀h,ae aa a h->Calls prog 77 #[.agg (fc b c k d e f)] h λs n=>∃o C,s= .returned (.tuple #[L (S ⟨o,0,N⟩) (ee m) C,I J 0])/\ae aa h n/\∀Q,ae aa n Q->Cr 86 #[P (S ⟨p,0,N⟩),.agg #[P (S ⟨w,0,N⟩),P (S ⟨y,0,N⟩)],L (S ⟨o,0,N⟩) (ee m) C] Q (B T) λag=>fQ D ag p E G (bZ q i+24):=λh Y=>by rw[x,A,<-au];refine(tE m ar h).mono ?_;rintro s n ⟨o,C,rfl,aN,av,aF,t⟩;refine⟨o,C,rfl,t,λQ aw=>?_⟩;have aG:=((r.a Y).a t).a aw;have ai:=aF.a aw λs=>s;obtain⟨aH,ax⟩:=aG.u ai (r.d o (by have:=Y.size;omega));have aI:=lB m;have aO:=vT m;rw[<-aI]at av|-;exact ER D Q aH p Z ab i E q G _ ax X ao l ac ad (S ⟨o,0,N⟩) (Fr.bi m) C (Up ⟨_,rfl,Up ⟨o,0,rfl,ai.b,lI ai⟩,by omega,qo m ar,av⟩) (λaP aQ aJ aR aS=>by cases aJ;have:=ax.e.2;omega)
  rw[<-x,<-A];clear r X ac ad x A au;generalize ee m=fl at *;go_enter func44,ntmps44;go_wp2_with fail;obtain⟨j,g⟩:=ah ((a.alloc (.cells #[P (S ⟨w,0,N⟩),P (S ⟨y,0,N⟩)] 98)).alloc (.cells #[I J 7,I J H,I J K,I J M,u,B b,I J c,I J k,I J d,I J e,B f,v] 80));have R:aq j a.heap.size #[P (S ⟨w,0,N⟩),P (S ⟨y,0,N⟩)] 98:=by rw[g];exact(aq.e _ _ _).g _
  have U:aq j (a.heap.size+1) #[I J 7,I J H,I J K,I J M,u,B b,I J c,I J k,I J d,I J e,B f,v] 80:=by rw[g];exact aq.h _ _ _ _ (by simp)
  have V:ae aa a j:=by rw[g];exact((ae.a aa a).b _).b _
  rw[<-g];have ay:=@af _ R;have aK:=@af _ U;have aj:=@af _ V;clear g R U V;refine Uq (O () j aj) ?_;rintro az n ⟨o,C,rfl,t,aA⟩;have aB:=@af _ aA;have ak:=ay.c t λs=>s;have aC:=ak.a 0;have aD:=ak.a 1;simp at aC aD;clear aA t O ak;go_wp2_with fail;refine Uq (aB () _ (ae.a _ _)) ?_;rintro az Q ⟨rfl,W⟩;have al:=@af _ W;clear W aB aC aD;go_wp2;go_ret;exact⟨rfl,al⟩
 .have O(_:=()):∀h,ae aa a h->Cr 77 #[.agg (fc b c k d e f)] h (.tuple #[L N 0 0,I J (iZ b c k d e f)]) λn=>fQ D n p E G (bZ q i+24):=λh Y=>by refine(B6 b c k d e f ap h).mono ?_;rintro s n ⟨rfl,t⟩;exact⟨rfl,am,Z,ab,i,q,an,(r.a Y).a t,X,by omega⟩
  obtain⟨w,x⟩:=ah l.b;obtain⟨y,A⟩:=ah l.a;have aE:=@af _ r.d;rw[<-x,<-A];clear r X ac ad x A;generalize iZ b c k d e f=z at *;go_enter func44,ntmps44;go_wp2_with fail;obtain⟨j,g⟩:=ah ((a.alloc (.cells #[P (S ⟨w,0,N⟩),P (S ⟨y,0,N⟩)] 98)).alloc (.cells #[I J 7,I J H,I J K,I J M,u,B b,I J c,I J k,I J d,I J e,B f,v] 80));have R:aq j a.heap.size #[P (S ⟨w,0,N⟩),P (S ⟨y,0,N⟩)] 98:=by rw[g];exact(aq.e _ _ _).g _
  have U:aq j (a.heap.size+1) #[I J 7,I J H,I J K,I J M,u,B b,I J c,I J k,I J d,I J e,B f,v] 80:=by rw[g];exact aq.h _ _ _ _ (by simp)
  have V:ae aa a j:=by rw[g];exact((ae.a aa a).b _).b _
  rw[<-g];have ay:=@af _ R;have aK:=@af _ U;have aj:=@af _ V;clear g R U V;refine Uq (O () j aj) ?_;rintro az n ⟨rfl,W⟩;have al:=@af _ W;clear W O;go_wp2;go_ret;exact⟨rfl,al⟩
def OL(q b ac e n r a s g t ad)(u:LS q b ac e n r a s g t ad)(ag:hU a)(ai:Nat)(h)(y:a[ai]?=S h)(aj:(bZ g a:Int)<1000000000)(z A f v C D k E G H w)(ak: -9223372036854775808<=f/\f<=9223372036854775807)(aR:v.oneCell'=T)(aS:w.oneCell'=T):
 Cr 44 #[P (S ⟨e,0,N⟩),.agg #[P (S ⟨h.b,0,N⟩),P (S ⟨h.a,0,N⟩)],kq 10 z A f v C D k E G H w] b (B T) λi=>fQ q i e s t (bZ g a+24):=by
 obtain⟨K,M⟩:=ah h.b;obtain⟨O,Q⟩:=ah h.a;have aT:=@af _ u.d;have aD:0<a.length:=by have:=(Ul.1 y).1;omega
 have aE:=(mh g a).2.1;obtain⟨j,al,am⟩:=yV f (a.length:Int) ak.1 ak.2 (by omega) (by omega);obtain⟨c,R⟩:∃c,a[j]?=S c:=⟨_,Um (by omega)⟩
 have an(_:=()):∀b,Cr 45 #[I J f,I J a.length] b (I J j) λi=>i=b:=λb=>(am b).mono λ_ _ ao=>⟨ao.1,ao.2.symm⟩;have U(_:=()):∀d V,ae aa b d->Cr 90 #[P (S ⟨e,0,N⟩),.agg #[P (S ⟨K,0,N⟩),P (S ⟨O,0,N⟩)],.agg #[P (S ⟨c.b,0,N⟩),P (S ⟨c.a,0,N⟩)],B V] d (B T) λi=>fQ q i e s t (bZ g a+24):=λd V W=>by rw[M,Q];refine(QD q d ac e n r a s g t ad (u.a W) ag ai j h c y R V aj).mono ?_;rintro aU i ⟨rfl,aF,aG,aH,aI,aJ,aK,_,aV⟩;exact⟨rfl,aF,n,r,aH,aG,aI,aJ,aK,by omega⟩
 have X(_:=()):∀d,ae aa b d->∃l m,n=S ⟨l,m,N⟩/\d.cell? ⟨e,0,N⟩=S (L n a.length r)/\d.cell? ⟨l,m+j*2,N⟩=S (P (S ⟨c.b,0,N⟩))/\d.cell? ⟨l,m+j*2+1,N⟩=S (P (S ⟨c.a,0,N⟩)):=λd W=>by have ap:=u.a W;have o:=ap.b.a.a 0;simp at o;obtain⟨aW,aX,aL⟩:=ap.g.mu;obtain⟨_,ar,_⟩|⟨l,m,ar,au⟩:=aL;omega;have av:=Bc a j c R;exact⟨l,m,ar,o,au.a _ _ av.1,by rw[UI];exact au.a _ _ av.2⟩
 have aw:=@af _ al;rw[<-M,<-Q];clear u ag y aj M Q am aD aE R al;obtain⟨aY,ax⟩:=ah c.b;obtain⟨aZ,ay⟩:=ah c.a;rw[<-ax,<-ay]at X U;clear ax ay;go_enter func44,ntmps44;go_wp2_with fail;obtain⟨x,p⟩:=ah ((b.alloc (.cells #[P (S ⟨K,0,N⟩),P (S ⟨O,0,N⟩)] 98)).alloc (.cells #[I J 10,I J z,I J A,I J f,v,B C,I J D,I J k,I J E,I J G,B H,w] 80));have Y:aq x b.heap.size #[P (S ⟨K,0,N⟩),P (S ⟨O,0,N⟩)] 98:=by rw[p];exact(aq.e _ _ _).g _
 have Z:aq x (b.heap.size+1) #[I J 10,I J z,I J A,I J f,v,B C,I J D,I J k,I J E,I J G,B H,w] 80:=by rw[p];exact aq.h _ _ _ _ (by simp)
 have ab:ae aa b x:=by rw[p];exact((ae.a aa b).b _).b _
 rw[<-p];have o:=Y.a 0;have az:=Y.a 1;have aA:=Z.a 2;have aB:=Z.a 3;simp at o az aA aB;have aM:=@af _ ab;obtain⟨l,m,rfl,aN,aO,aP⟩:=X () x ab;have a0:=aw;clear p Y Z ab X aw;generalize a.length=ln at *;go_still_tail 20,(by kernel_rfl)
 still_call (an () _);repeat still_step
 refine wpStill_nil ?_;go_wp2_with fail;refine Uq (U () _ _ (aM.drew)) ?_;rintro a1 a2 ⟨rfl,aC⟩;have aQ:=@af _ aC;clear aC U an o az aA aB aN aO aP;go_wp2;go_ret;exact⟨rfl,aQ⟩
def nu.n{k f l b q r g}(a:nu k f l b q r g)(d h s t)(v:(uW q r g).setIfInBounds d h=uW s t g):nu k (f.setCell ⟨b,d,N⟩ h) l b s t g:=by
 have i:ae (ap b) f (f.setCell ⟨b,d,N⟩ h):=(ae.a (ap b) f).e (p:=⟨b,d,N⟩) (λ_=>rfl) _;have m:∀c,ap b c->l c=10:=λc e=>by rw[show c=b from e];exact a.b
 refine⟨a.f.c i,by rw[<-v];exact a.a.f d h,λn j=>(a.c n j).b i (λo w x e=>by have:=m o e;have:=(a.g j x).2;omega),a.b,a.e,λn j d y z=>(a.i n j d y z).a i (λo w A=>⟨λe=>by have:=m o e;omega,A⟩),λc u=>a.h c (by simpa using u),k.st _ _ _ _ _ a.x i (λc u e=>Up (by have:=m c e;omega)) λ_ _ _=>rfl⟩
def LS.A{u l m v w x K c C y z A}(e:LS u l v w x K c C y z A){g h k o}(n:ae (ag x) l m)(ad:l.heap.size<=g)(af:l.heap.size<=h)(M:g≠h)(D:bO m nj 147 g 0 En.e Pl.a)(E:cV m h Rf.b Rp.a)(G:RV m 98 2 k (c.length+1) o (kg c++[P (S ⟨g,0,N⟩),P (S ⟨h,0,N⟩)]))(O:∀f,ag k f->ag x f\/(l.heap.size<=f/\f≠g/\f≠h)):
 ∃tag',LS u (m.setCell ⟨w,0,N⟩ (L k (c.length+1) o)) tag' w k o (c++[⟨g,h,En.e,Pl.a,Rf.b,Rp.a⟩]) C y z A:=by
 classical
 obtain⟨tag',p⟩:∃tag':Nat->Nat,tag'=λa=>if a<l.heap.size then v a else if a=g then 20+4*c.length else if a=h then 21+4*c.length else if ag k a then 17 else 0:=⟨_,rfl⟩
 have q:∀a,a<l.heap.size->tag' a=v a:=λa n=>by rw[p];simp only[n,VR]
 have Q:tag' g=20+4*c.length:=by rw[p];simp only;rw[Us (by omega)];simp
 have R:tag' h=21+4*c.length:=by rw[p];simp only;rw[Us (by omega),Us λd=>M d.symm];simp
 have U:∀f,ag k f->tag' f=17:=λf H=>by obtain d|⟨ah,V,W⟩:=O f H;rw[q f (e.g.mu.b f d)];exact e.g.tr f d;rw[p];simp only;rw[Us (by omega),Us V,Us W,UG H]
 have r:=e.g.tr;have X:qF m tag' k o (c++[⟨g,h,En.e,Pl.a,Rf.b,Rp.a⟩]):=by
  refine⟨?_,U,λs Y i=>?_⟩;rw[Uu,Ng];exact G;by_cases Z:s<c.length;rw[Ux Z]at i;exact(e.g.rG s Y i).a n (λa j t=>⟨λd=>by have:=r a d;omega,q a j⟩);rw[Ut (by omega)]at i;have aa:s-c.length=0:=by have:=(Ul.1 i).1;simp at this;omega
  rw[aa]at i;simp at i;subst i;have ab:s=c.length:=by omega
  subst ab;refine⟨D,E,λa b=>?_,λa b=>?_⟩;obtain rfl|b|b|b:=b;exact Q;exact(b8 a b).elim;exact(b8 a b).elim;simp[Pl.a]at b;obtain(rfl|b|b|b)|⟨ai,b⟩:=b;exact R;exact(b8 a b).elim;exact(b8 a b).elim;exact(b8 a b).elim;simp[Rp.a]at b
 have i:∀a,m.heap.size<=a->tag' a=0:=λa j=>by have aj:=D.d g (Ur rfl);have ak:=E.b h (Ur (Ur rfl));rw[p];simp only;rw[Us (by omega),Us (by omega),Us (by omega),Us λd=>by have:=G.b a d;omega]
 have ac:=e.b.d (C':=ql u y k o (c++[⟨g,h,En.e,Pl.a,Rf.b,Rp.a⟩]) z A e.y e.z) (tag':=tag') n (λa j d=>by have:=r a d;omega) (λa j _=>q a j) i ⟨X,e.y _ _ _ _ _ e.c n (λa j t=>⟨λd=>by have:=r a d;unfold yt at t;omega,q a j⟩),e.z _ _ _ _ _ e.e n λa j t=>⟨λd=>by have:=r a d;unfold zt at t;omega,q a j⟩⟩ rfl;refine⟨tag',e.y,e.z,?_⟩;rw[show (c++[(⟨g,h,En.e,Pl.a,Rf.b,Rp.a⟩:Lp)]).length=c.length+1 by simp];exact ac.n 0 _ _ _ rfl
def OS(a b c):mP (a++[⟨b,c,En.e,Pl.a,Rf.b,Rp.a⟩])=mP a:=by simp[mP,En.l,En.e,iv]
def R7(a):lM a (a 0) (a 1)=a:=by funext b;unfold lM;grind
def QT(j d e k l w)(A:fQ j d e k l w)(f:iM)(C:f.b d)(D:1<=f.a)(E:f.a<=3)(U:(w:Int)<1000000000):
 Cr 40 #[P (S ⟨e,0,N⟩),f.v] d (B T) λy=>fQ j y e k l (w+24):=by
 obtain⟨G,m,n,g,a,x,c,H,K⟩:=A;have z:=mh a g;have V:=z.1 0 (by omega);have W:=z.1 1 (by omega);have M:kt (ql j a m n g l x c.y c.z) d e (L m g.length n) k (a 0).n (a 1).n:=by refine⟨(a 0).a,(a 0).c,(a 0).V,(a 1).a,(a 1).c,(a 1).V,G,?_⟩;have:=c.b;rw[show lM (ql j a m n g l x c.y c.z).R ⟨(a 0).a,(a 0).n,(a 0).c,(a 0).V⟩ ⟨(a 1).a,(a 1).n,(a 1).c,(a 1).V⟩=a from R7 a];exact this
 refine(QK _ d e _ k (a 0).n (a 1).n M f C D E (by omega) (by omega)).mono ?_;rintro X y ⟨rfl,h,i,Y,Z,o,p,q,r,s,t,O,b⟩;refine⟨rfl,O,m,n,g,lM a ⟨o,h,p,q⟩ ⟨r,i,s,t⟩,x,⟨c.y,c.z,?_⟩,H,?_⟩;exact⟨b.f,b.a,b.c,b.b,b.e,b.i,b.h,b.x⟩;have Q:(lM a ⟨o,h,p,q⟩ ⟨r,i,s,t⟩ 0).n=h:=rfl;have R:(lM a ⟨o,h,p,q⟩ ⟨r,i,s,t⟩ 1).n=i:=rfl;have u:∀v,2<=v->lM a ⟨o,h,p,q⟩ ⟨r,i,s,t⟩ v=a v:=λv aa=>by unfold lM;rw[Us (by omega),Us (by omega)]
 unfold bZ at K|-;rw[Q,R,u 2 (by omega),u 3 (by omega),u 4 (by omega),u 5 (by omega)];omega
def Na:(prog.info? 98).map (λa=>(a.zero,a.size,a.bytes))=S (S (.agg #[P N,P N]),2,16):=by kernel_rfl
def S9(C o c D E u)(aC:fQ C o c D E u)(X Y Z G ab ac k ad ai aj H)(a0:G.oneCell'=T)(a1:H.oneCell'=T)(K:(u:Int)<1000000000):
 Cr 27 #[P (S ⟨c,0,N⟩),kq 4 X Y Z G ab ac k ad ai aj H] o (B T) λaD=>fQ C aD c D E (u+24):=by
 obtain⟨a2,g,M,j,ak,aE,v,w,x⟩:=aC;have h:=@gA _ _ _ _ v w x K;clear v w x K;go_enter func27,ntmps27;go_wp2_with fail;obtain⟨m,O⟩:=ah (o.alloc (.cells #[I J 4,I J X,I J Y,I J Z,G,B ab,I J ac,I J k,I J ad,I J ai,B aj,H] 80));have al:ae aa o m:=by rw[O];exact(ae.a aa o).b _
 rw[<-O];have p:=@af _ al;clear O al;refine(PN m).mono ?_;rintro aF d ⟨rfl,n,q⟩;obtain⟨l,y⟩:=ah m.heap.size;rw[<-y]at n|-;have r:=@cf _ _ _ n q y;clear n q y;have Q:=((h.1.a p).a r.2.1).b.a.a 0;have am:=((h.1.a p).a r.2.1).b.a.d 0;simp at Q;have s:=((h.1.a p).a r.2.1).h.1;have aG(_:=()):∀e,ae aa d e->RV e 98 2 g j.length M (kg j):=λe aH=>(((h.1.a p).a r.2.1).a aH).g.mu;have an(_:=()):(j.length:Int)<1000000000:=by have aI:=(mh ak j).2.1;have aJ:=h;omega
 generalize ao:j.length=ln at *;generalize aK:kg j=ev at *;go_wp2_with fail;have aL:¬ag g c:=λa=>by have aI:=h.1.g.tr c a;have aJ:=h.1.h;omega
 have ap:=@af _ aL;have a3:d.cell? ⟨c,0,N⟩=S (L g ln M)/\d.frozen? ⟨c,0,N⟩=F/\ae (ag g) d d:=⟨Q,am,ae.a _ _⟩
 go_region_law (first
  |(refine mj rfl (.tmp 31) (.tmp 35) 62 rfl 98 (.agg #[P N,P N]) 2 16 underlying62 Na rfl g ln M (by simp[Act.eval,Act.put]) ev ((aG () e (((ae.a aa d).drew).c i)).c _) ⟨e.heap.size,0,N⟩ 1 1 (by omega) rfl [P (S ⟨l,0,N⟩),P (S ⟨d.heap.size,0,N⟩)] rfl (gJ e [P (S ⟨l,0,N⟩),P (S ⟨d.heap.size,0,N⟩)] 98 _ rfl) (by intro a4 aq;simp at aq;obtain rfl|rfl:=aq<;>rfl) (by have:=an;omega) (by have:=an;omega) ?_;intro aM aN R U ar t;have au:=((((ae.a aa e).b _).d λ_ _ a=>a.elim).c t).f c 0 (Un s i.size) ap;have av:=((((ae.a aa e).b _).d λ_ _ a=>a.elim).c t).h c 0 (Un s i.size) ap;rw[aw]at au;rw[ax]at av)
  |(go_simp;go_at_call 42;refine(B3 _).mono ?_;rintro aF e ⟨rfl,V,i⟩;have aw:=(i.f c 0 s λa=>a).trans Q;have ax:=(i.h c 0 s λa=>a).trans am;have aO:c<e.heap.size:=Un s i.size))
 all_goals
  have aP(_:=()):fQ C (R.setCell ⟨c,0,N⟩ (L aM (ln+1) aN)) c D E (u+24):=by
   obtain⟨v,w,x,K⟩:=h;obtain⟨n,q,y⟩:=r;have ay:=v.a p;have az:=(((((ae.a aa d).drew).c i).b _).d λ_ _ a=>a.elim).c t;have aQ:=(q.d λ_ _ a=>a.elim).c az;have aR:=(((ae.a aa e).b _).d λ_ _ a=>a.elim).c t;have a5:=n.d l (Ur rfl);have a6:d.heap.size<e.heap.size:=V.b _ (Ur (Ur rfl));have aS:=q.size;have aA:∀W,ag g W->W<m.heap.size:=ay.g.mu.b;have aT:¬ag g l:=λa=>by have:=aA l a;omega
   have aU:¬ag g d.heap.size:=λa=>by have:=aA _ a;omega
   have aV:bO R nj 147 l 0 En.e Pl.a:=n.a az λf b a=>by obtain rfl|b|b|b:=b;exact aT a;exact b8 f b;exact b8 f b;simp[Pl.a]at b
   have aW:cV R d.heap.size Rf.b Rp.a:=cV.a V aR λf b a=>by obtain(b|b|b|b)|⟨a7,b⟩:=b;rw[show f=d.heap.size from b]at a;exact aU a;exact b8 f b;exact b8 f b;exact b8 f b;simp[Rp.a]at b
   rw[<-ao,<-aK]at U;rw[<-ao];obtain⟨aX,aY⟩:=ay.A aQ (show m.heap.size<=l by omega) (show m.heap.size<=d.heap.size from aS) (by omega) aV aW U λW z=>by obtain⟨a,_⟩|⟨a,_⟩:=ar;rw[a]at z;exact Ur z;rw[a]at z;have:=cM.1 z;simp only[Uv]at this;exact Up ⟨by omega,by omega,by omega⟩
   refine⟨aX,_,_,_,ak,aE,aY,λf aZ A=>?_,?_⟩;by_cases b:f<j.length;rw[Ux b]at A;exact w f aZ A;rw[Ut (by omega)]at A;have aB:=Uo A;simp at aB;subst aB;exact Lk.o;unfold bZ at x|-;rw[OS,Uu];simp only[Vg,VD];omega
  clear U ar t V i aw ax au av aO;go_wp2;go_ret;exact⟨rfl,aP⟩
structure iM.j(f:World)(g:Nat)(a:iM):Prop where
 c: -9223372036854775808<=a.e/\a.e<=9223372036854775807
 b: -9223372036854775808<=a.m/\a.m<=9223372036854775807
 d:∀e h,a.g=S ⟨e,h,N⟩->a.h≠[]->e<f.heap.size/\e≠g
def OH(c d i b j k a g e h l)(n:LS c d i b j k a g e h l)(o:hU a)(m:Nat)(f)(p:a[m]?=S f)(q:(bZ e a:Int)<1000000000)(r:iM)(E:r.b d)(D:r.j c b)(G:5<=r.a)(H:r.a<=10):
 Cr 44 #[P (S ⟨b,0,N⟩),.agg #[P (S ⟨f.b,0,N⟩),P (S ⟨f.a,0,N⟩)],r.v] d (B T) λK=>fQ c K b g h (bZ e a+24):=by
 obtain⟨s,t,u,v,R,U,V,w,x,y,z,A,C,M,O,Q⟩:=r;simp only at G H;obtain rfl|rfl|rfl|rfl|rfl|rfl:s=5\/s=6\/s=7\/s=8\/s=9\/s=10:=by omega
 exact OM c d i b j k a g e h l n o m f p q t u v _ w x y z A C _ rfl rfl;exact OJ c d i b j k a g e h l n o m f p q t u v _ w x y z A C _ M O Q rfl E.a D.d rfl rfl;exact OI c d i b j k a g e h l n o m f p q t u v _ w x y z A C _ rfl rfl;exact ON c d i b j k a g e h l n o m f p q t u v _ w x y z A C _ rfl rfl;exact OK c d i b j k a g e h l n o m f p q t u v _ w x y z A C _ rfl rfl;exact OL c d i b j k a g e h l n o m f p q t u v _ w x y z A C _ D.b rfl rfl
def Tb(k a g m n o)(p:fQ k a g m n o)(d:iM)(z:d.b a)(q:d.j k g)(A:5<=d.a)(C:d.a<=10)(ao:(o:Int)<1000000000):
 Cr 27 #[P (S ⟨g,0,N⟩),d.v] a (B T) λr=>fQ k r g m n (o+24):=by
 have aS(_:=()):fQ k a g m n o:=p;obtain⟨aT,D,ap,b,t,aU,l,E,G⟩:=p;by_cases H:b.length=0
 .have ar:=l.b.a.a 0;simp at ar;rw[H]at ar;have aV:=l.h.1;obtain⟨K,M,O,Q,R,au,U,V,W,X,Y,Z,ab,ac,av,ad⟩:=d;clear z q l E G ao H;simp only at A C;go_enter func27,ntmps27;go_wp2;go_ret;exact⟨rfl,(aS.b ((ae.a aa a).b _)).a (by omega)⟩
 .have aW:=(mh t b).2.1;obtain⟨h,aw,ax⟩:=yV d.e (b.length:Int) q.c.1 q.c.2 (by omega) (by omega);obtain⟨e,ag⟩:∃e,b[h]?=S e:=⟨_,Um (by omega)⟩
  have ai(_:=()):∀a,Cr 45 #[I J d.e,I J b.length] a (I J h) λr=>r=a:=λa=>(ax a).mono λ_ _ p=>⟨p.1,p.2.symm⟩;have u(_:=()):∀f,ae aa a f->Cr 44 #[P (S ⟨g,0,N⟩),.agg #[P (S ⟨e.b,0,N⟩),P (S ⟨e.a,0,N⟩)],d.v] f (B T) λr=>fQ k r g m n (bZ t b+24):=λf v=>
   OH k f aT g D ap b m t n aU (l.a v) E h e ag (by omega) d (z.b v ⟨λ_ _ _ _ aj=>aj,λ_ _ _ _ aj=>aj⟩) q A C
  have w(_:=()):∀f,ae aa a f->∃i j,D=S ⟨i,j,N⟩/\f.cell? ⟨g,0,N⟩=S (L D b.length ap)/\f.cell? ⟨i,j+h*2,N⟩=S (P (S ⟨e.b,0,N⟩))/\f.cell? ⟨i,j+h*2+1,N⟩=S (P (S ⟨e.a,0,N⟩)):=λf v=>by have ay:=l.a v;have az:=ay.b.a.a 0;simp at az;obtain⟨a4,a5,aX⟩:=ay.g.mu;obtain⟨_,aA,_⟩|⟨i,j,aA,aB⟩:=aX;omega;have aC:=Bc b h e ag;exact⟨i,j,aA,az,aB.a _ _ aC.1,by rw[UI];exact aB.a _ _ aC.2⟩
  have s(_:=()):(h:Int)<b.length/\bZ t b<=o/\0<b.length:=⟨aw,G,by omega⟩
  clear z q l E G ao ax ag aw aW H;obtain⟨a6,aD⟩:=ah e.b;obtain⟨a7,aE⟩:=ah e.a;rw[<-aD,<-aE]at u w;clear aD aE;obtain⟨K,M,O,Q,R,au,U,V,W,X,Y,Z,ab,ac,av,ad⟩:=d;simp only[iM.v]at A C ai u|-;generalize au.length=el at *;generalize av.length=dl at *;go_enter func27,ntmps27;obtain⟨i,j,aY,x,ak,al⟩:=w () a (ae.a _ _);have aV:=UL a _ x;have aZ:decide ((b.length:Int)=0)=F:=U7 (by have:=s;omega);have a0:((b.length:Int)==0)=F:=by rw[Uy];have:=s;omega
  go_wp2_with fail;obtain⟨am,y⟩:=ah (a.alloc (.cells #[I J K,I J M,I J O,I J Q,L R el U,B V,I J W,I J X,I J Y,I J Z,B ab,L ac dl ad] 80));have c:aq am a.heap.size #[I J K,I J M,I J O,I J Q,L R el U,B V,I J W,I J X,I J Y,I J Z,B ab,L ac dl ad] 80:=by rw[y];exact aq.e _ _ _
  have an:ae aa a am:=by rw[y];exact(ae.a aa a).b _
  rw[<-y];have a1:=@af _ an;clear x ak al aY aZ a0;obtain⟨i,j,rfl,x,ak,al⟩:=w () am an;have aF:=c.a 0;have aG:=c.a 1;have aH:=c.a 2;have aI:=c.a 3;have aJ:=c.a 4;have aK:=c.a 5;have aL:=c.a 6;have aM:=c.a 7;have aN:=c.a 8;have aO:=c.a 9;have aP:=c.a 10;have aQ:=c.a 11;simp at aF aG aH aI aJ aK aL aM aN aO aP aQ;have a8:=s.1;have a2:=@af _ (s.2.1);clear y c an w s;generalize b.length=ln at *;go_still_tail 16,(by kernel_rfl)
  still_call (ai () _);repeat still_step
  refine wpStill_nil ?_;go_wp2_with fail;refine Uq (u () _ (a1.drew)) ?_;rintro a9 ba ⟨rfl,aR⟩;have a3:=@af _ aR;clear aR u ai aF aG aH aI aJ aK aL aM aN aO aP aQ x ak al;go_wp2;go_ret;exact⟨rfl,a3.a (by have:=a2;omega)⟩
def S0(d c b f g e)(h:fQ d c b f g e)(a:iM)(k:a.b c)(q:a.j d b)(l:a.a<=10)(i:(e:Int)<1000000000):
 Cr 27 #[P (S ⟨b,0,N⟩),a.v] c (B T) λr=>fQ d r b f g (e+24):=by
 by_cases m:5<=a.a;exact Tb d c b f g e h a k q m l i;by_cases j:a.a=4;obtain⟨n,s,t,u,E,G,H,v,w,x,y,z,A,K,M,O⟩:=a;simp only at j;subst j;exact S9 d c b f g e h s t u _ v w x y z A _ rfl rfl i;have U:=@af _ h;by_cases C:a.a<1
 .obtain⟨n,s,t,u,E,G,H,v,w,x,y,z,A,K,M,O⟩:=a;clear k q i m j l h;simp only at C;go_enter func27,ntmps27;go_wp2;go_ret;exact⟨rfl,(U.b ((ae.a aa c).b _)).a (by omega)⟩
 .have D(_:=()):∀o,ae aa c o->Cr 40 #[P (S ⟨b,0,N⟩),a.v] o (B T) λr=>fQ d r b f g (e+24):=λo Q=>
   QT d o b f g e (h.b Q) a (k.b Q ⟨λ_ _ _ _ p=>p,λ_ _ _ _ p=>p⟩) (by omega) (by omega) i
  obtain⟨n,s,t,u,E,G,H,v,w,x,y,z,A,K,M,O⟩:=a;clear k q i h;simp only at C m j l;have W:1<=n:=by omega
  have X:n<=3:=by omega
  clear C m j l;simp only[iM.v]at D;go_enter func27,ntmps27;go_wp2_with fail;refine Uq (D () _ ((ae.a aa c).b _)) ?_;rintro p Y ⟨rfl,R⟩;have V:=@af _ R;clear R D;go_wp2;go_ret;exact⟨rfl,V⟩
def iM.o(a:iM):Prop:=(-9223372036854775808<=a.e/\a.e<=9223372036854775807)/\(-9223372036854775808<=a.r/\a.r<=9223372036854775807)/\(-9223372036854775808<=a.m/\a.m<=9223372036854775807)
def Nl{c f g}{d:iM}(i:d.b c)(h:d.o)(k:c.heap.size<=f.heap.size)(l:c.heap.size<=g):d.j f g:=by refine⟨h.1,h.2.2,λm n b j=>?_⟩;obtain⟨e,_⟩|⟨o,e,a,_⟩:=i.a;rw[e]at b;cases b;rw[e]at b;cases b;obtain a|⟨p,q,a,r,_⟩:=a;exact(j a).elim;cases a;omega
def NK(c d){e}:∀a∈oR e,a.j c d:=by intro a b;simp only[oR,UZ,U9,Wc]at b;obtain rfl|rfl|rfl|rfl|rfl|rfl|rfl|rfl|rfl|rfl|rfl|rfl:=b<;>exact⟨by simp[nL],by simp[nL],λg h f _=>by simp[nL]at f⟩
def fQ.c{b c d e f g}(a:fQ b c d e f g):ae (ap d) b c:=let ⟨_,_,_,_,_,_,a,_⟩:=a;a.b.f
def fQ.d{d a b e f c}(g:fQ d a b e f c)(n:(c:Int)<1000000000):
 Cr 28 #[P (S ⟨b,2,N⟩)] a (B T) λh=>ae aa a h:=by
 obtain⟨o,p,q,i,j,r,k,s,t⟩:=g;exact k.b.o λl m=>by have:=(mh j i).1 l m;omega
def ET{d e c}(a:Ghs.wW d e c):D1 d e c:=by
 refine⟨⟨a.h,by have:=a.f;omega,a.a.c,a.a.b,a.d,a.b⟩,a.e,?_⟩;have b:=a.c;have g:=a.g;cases c with
 |bH i=>exact⟨b,g⟩
 |bG f=>trivial
 |aL f h j=>trivial
 |cW f h=>exact b
 |dG=>exact b
 |dK=>exact b
 |dO=>exact b
def E4:∀c a b,Ghs.tS c a b->tK c a b
 |0,a,b,_=>VU
 |c+1,a,b,d=>by
  rw[Ghs.tS]at d;rw[tK];cases e:a.an[b]? with
  |none=>trivial
  |some g=>
   rw[e]at d;exact⟨ET d.1,λf=>E4 c _ _ (d.2 f)⟩
def EY:∀a b,Ghs.tR a b->tJ a b
 |0,b,_=>VU
 |a+1,b,c=>by rw[Ghs.tR]at c;rw[tJ];exact⟨E4 _ _ _ c.1,λd=>EY a _ (c.2 d)⟩
def MI{a b c}(d:Ghs.tT a b c):vg a b (cy c):=⟨ET d.1,λe=>EY _ _ (d.2 e)⟩
def QG{a:Dn}(f:(a.aV.map (·.g)).Nodup){k b:Nat}{c d}(e:a.aV[k]?=S c)(g:a.aV[b]?=S d)(h:c.g=d.g):k=b:=by have m:=(Ul.1 e).1;exact(Xz (l:=a.aV.map (·.g)) (i:=k) (j:=b) (by rw[UX];exact m) f).1 (by rw[Uz,Uz,e,g];simp[h])
def bP.s{n e}(b:bP n e){k a}(s:e.aV[k]?=S a){j t}(H:e.ba=S ⟨j,t,N⟩)(p g)(Q:p<a.l.length):
 bP ((n.setCell ⟨a.g,p,N⟩ (bv g)).setCell ⟨j,t+k*4+3,N⟩ (B T)) {e with aV:=e.aV.set k {a with l:=a.l.set p g,sp:=T}}/\dR n ((n.setCell ⟨a.g,p,N⟩ (bv g)).setCell ⟨j,t+k*4+3,N⟩ (B T)) e {e with aV:=e.aV.set k {a with l:=a.l.set p g,sp:=T}}:=by
 have y:=Uo s;have R:=(Ul.1 s).1;have u:=b.t3 j (by rw[H];exact eN _ _);have v:=b.t4 a y;have K:ae (ap a.g) n (n.setCell ⟨a.g,p,N⟩ (bv g)):=(ae.a (ap a.g) n).e (p:=⟨a.g,p,N⟩) (λ_=>rfl) _;have M:ae (ap j) (n.setCell ⟨a.g,p,N⟩ (bv g)) ((n.setCell ⟨a.g,p,N⟩ (bv g)).setCell ⟨j,t+k*4+3,N⟩ (B T)):=(ae.a (ap j) _).e (p:=⟨j,t+k*4+3,N⟩) (λ_=>rfl) _;have o:=(K.d λ_ _ c=>Ur c).c (M.d λ_ _ c=>Up c);have no:∀ {f:Nat} {z w m:Nat},e.cE f=(z,w,m)->z≠3->z≠4->¬(f=a.g\/f=j):=λc U V d=>by obtain d|d:=d;rw[d,v]at c;cases c;exact V rfl;rw[d,u]at c;cases c;exact U rfl
 have W:j≠a.g:=λc=>by rw[c,v]at u;cases u
 have O:(e.aV.set k {a with l:=a.l.set p g,sp:=T}).length=e.aV.length:=UA;have X:(e.aV.set k {a with l:=a.l.set p g,sp:=T}).map (·.g)=e.aV.map (·.g):=by apply Vc;intro m;rw[Uz,Uz];by_cases c:m=k;subst c;rw[UQ R,s];rfl;rw[Vt λa=>c a.symm]
 refine⟨{dk:=?_,jq:=b.jq.a o (λf h=>no (b.t5 f h) (by omega) (by omega)),jL:=b.jL.a o (λf h=>no (uV h b.t2) (by omega) (by omega)),iG:=?_,iH:=λk d i=>(b.iH k d i).a o (λf h=>no (b.t6 k d i f h) (by omega) (by omega)),gL:=b.gL,jd:=λk d i=>(b.jd k d i).a o (λf h=>no (b.t7 k d i f h) (by omega) (by omega)),eC:=λk d i m w A=>⟨(b.eC k d i m w A).1.a o (λf h=>no (b.t8 k d i m w A f h) (by omega) (by omega)),(b.eC k d i m w A).2⟩,fD:=λd i=>?_,kP:=by rw[X];exact b.kP,t1:=b.t1,t2:=b.t2,t3:=b.t3,t4:=λd i=>?_,t5:=b.t5,t6:=b.t6,t7:=b.t7,t8:=b.t8,jc:=λf h=>b.jc f (UM o.size h)},rfl,rfl,rfl,o.d (λf _ c=>c.elim (λd=>by rw[d];exact gz v (by omega)) λd=>by rw[d];exact gz u (by omega)),λ_ c=>Ur c⟩
 have q:({e with aV:=e.aV.set k {a with l:=a.l.set p g,sp:=T}}:Dn).cells=e.cells:=by unfold Dn.cells;rw[O]
 rw[q];exact b.dk.c o (no b.t1 (by omega) (by omega));show RV _ _ _ e.ba (e.aV.set k _).length e.bc (fI (e.aV.set k _));rw[O];have x:=b.iG.a K λf h c=>by have:=b.t3 f h;rw[show f=a.g from c,v]at this;cases this
 rw[H]at x|-;have C:=x.e (k*4+3) (by rw[te];omega) (B T);rw[<-UI]at C;have q:(fI e.aV).set (k*4+3) (B T)=fI (e.aV.set k {a with l:=a.l.set p g,sp:=T}):=ti yo e.aV k a _ s 3 (by omega) _ (by simp[nJ]);rw[q]at C;exact C;obtain⟨m,D,c⟩:=U3 i;have E:(e.aV.set k {a with l:=a.l.set p g,sp:=T})[m]?=S d:=by rw[<-c];exact Um D
 obtain⟨q,r⟩|⟨q,r⟩:=nP E;subst q;subst r;refine⟨?_,by show (a.l.set p g).length<=a.c;rw[UA];exact(b.fD a y).2⟩;have x:=(b.fD a y).1.e p (by rw[UX];exact Q) (bv g);have Y:(a.l.map bv).set p (bv g)=(a.l.set p g).map bv:=by rw[Wl]
 rw[Y]at x;exact x.a M λc=>W (show a.g=j from c).symm;have G:=Uo r;refine⟨(b.fD d G).1.a o λc=>?_,(b.fD d G).2⟩;obtain c|c:=c;exact q (QG b.kP r s c);have:=b.t4 d G;rw[c,u]at this;cases this;obtain⟨m,D,c⟩:=U3 i;have E:(e.aV.set k {a with l:=a.l.set p g,sp:=T})[m]?=S d:=by rw[<-c];exact Um D
 obtain⟨q,r⟩|⟨q,r⟩:=nP E;subst r;exact v;exact b.t4 d (Uo r)
def ME(a k h)(i:Nat)(b)(c:bP b a)(e:¬(0<=k/\k<(a.aV.length:Int))):
 Cr 96 #[P (S ⟨a.b,0,N⟩),.int J k,.int J h,.int .u8 (i:Int)] b (.int J 7) λd=>ae aa b d:=by
 have f(_:=()):Cr 141 #[P (S ⟨a.b,0,N⟩),I J k] b (B F) λd=>b=d:=by have:=rc a.b a.ba a.aV.length a.bc k b c.c c.dk.b;rw[U7 e]at this;exact this
 obtain⟨j,g⟩:=ah a.b;rw[<-g]at f|-;clear c e g;go_enter func96,ntmps96;go_wp2_with fail;refine Uq f ?_;rintro l m ⟨rfl,rfl⟩;go_wp2;go_ret;exact⟨rfl,ae.a _ _⟩
def MD(a)(k:Nat)(g)(i:Nat)(h e)(f:bP e a)(j:a.aV[k]?=S h)(c:h.sp=T\/g<0\/(h.l.length:Int)<=g\/i=0):
 Cr 96 #[P (S ⟨a.b,0,N⟩),.int J k,.int J g,.int .u8 (i:Int)] e (.int J 8) λl=>ae aa e l:=by
 have v:=(Ul.1 j).1;have b(_:=()):Cr 141 #[P (S ⟨a.b,0,N⟩),I J k] e (B T) λl=>e=l:=by have:=rc a.b a.ba a.aV.length a.bc (k:Int) e f.c f.dk.b;rw[U4 ⟨by omega,by omega⟩]at this;exact this
 have m:=f.c;have w:=f.dk.b;obtain⟨M,O,q,Q,x,y,n⟩:=f.i j;have z:=n 2 _ rfl;have A:=n 3 _ rfl;rw[q]at m;have C:(k:Int)<a.aV.length:=by omega
 obtain⟨R,r⟩:=ah a.aV.length;obtain⟨U,s⟩:=ah a.b;rw[<-r]at m C;rw[<-s]at m w b|-;obtain⟨D,t⟩:=ah h.l.length;rw[<-t]at z c;obtain⟨E,u⟩:=ah h.sp;rw[<-u]at A c;clear f j v q y n r s x t u;cases E with
 |true=>
  clear c;go_enter func96,ntmps96;go_wp2_with fail;refine Uq b ?_;rintro o p ⟨rfl,rfl⟩;clear b;go_wp2;go_ret;exact⟨rfl,ae.a _ _⟩
 |false=>
  by_cases G:g<0
  .clear c;go_enter func96,ntmps96;go_wp2_with fail;refine Uq b ?_;rintro o p ⟨rfl,rfl⟩;clear b;go_wp2;go_ret;exact⟨rfl,ae.a _ _⟩
  by_cases H:(D:Int)<=g
  .clear c;go_enter func96,ntmps96;go_wp2_with fail;refine Uq b ?_;rintro o p ⟨rfl,rfl⟩;clear b;go_wp2;go_ret;exact⟨rfl,ae.a _ _⟩
  .have K:i=0:=by obtain d|d|d|d:=c;cases d;exact(G d).elim;exact(H d).elim;exact d
   subst K;clear c;go_enter func96,ntmps96;go_wp2_with fail;refine Uq b ?_;rintro o p ⟨rfl,rfl⟩;clear b;go_wp2;go_ret;exact⟨rfl,ae.a _ _⟩
def MF(b)(k c e:Nat)(a g)(f:bP g b)(i:b.aV[k]?=S a)(s:a.sp=F)(m:c<a.l.length)(C:e≠0)(D:e<256)(E:∀R∈a.l,R<256):
 Cr 96 #[P (S ⟨b.b,0,N⟩),.int J k,.int J c,.int .u8 (e:Int)] g (.int J 0) λn=>∃t,bP n t/\t.a=b.a.s k c e/\dR g n b t:=by
 have U:=(Ul.1 i).1;have u(_:=()):Cr 141 #[P (S ⟨b.b,0,N⟩),I J k] g (B T) λn=>g=n:=by have:=rc b.b b.ba b.aV.length b.bc (k:Int) g f.c f.dk.b;rw[U4 ⟨by omega,by omega⟩]at this;exact this
 have v:=f.c;have V:=f.dk.b;obtain⟨j,o,p,ao,W,G,w⟩:=f.i i;have X:=w 2 _ rfl;have Y:=w 3 _ rfl;have ap:=G (o+k*4+3);have q:=(f.fD a (Uo i)).1;obtain⟨d,r⟩:∃d,a.l[c]?=S d:=⟨_,Um m⟩
 have H:d<256:=E d (Uo r);have Z:=q.c c (bv d) (by rw[Uz,r];rfl);have aq:=q.f c;have ar:=q.b;have au:j≠a.g:=λx=>by have h:=f.t3 j (by rw[p];exact eN _ _);rw[x,f.t4 a (Uo i)]at h;cases h
 rw[s]at Y;have ab(_:=()):bits .xor .u8 (d:Int) (e:Int)=((d ^^^ e:Nat):Int):=u8_xor_nat d e H D;have ac(_:=()):(bP ((g.setCell ⟨a.g,c,N⟩ (bv (d ^^^ e))).setCell ⟨j,o+k*4+3,N⟩ (B T)) {b with aV:=b.aV.set k {a with l:=a.l.set c (d ^^^ e),sp:=T}}/\dR g ((g.setCell ⟨a.g,c,N⟩ (bv (d ^^^ e))).setCell ⟨j,o+k*4+3,N⟩ (B T)) b {b with aV:=b.aV.set k {a with l:=a.l.set c (d ^^^ e),sp:=T}})/\({b with aV:=b.aV.set k {a with l:=a.l.set c (d ^^^ e),sp:=T}}:Dn).a=b.a.s k c e:=by
  refine⟨f.s i p c (d ^^^ e) m,?_⟩;unfold AN.s;have h:b.a.fu[k]?=S a.b:=by simp[Dn.a,i]
  rw[h];dsimp only;rw[UG ⟨s,m,C⟩];unfold Dn.a;dsimp only;rw[Wl];congr 2;unfold Dk.b;dsimp only;rw[pE r]
 rw[p]at v;have ad:(k:Int)<b.aV.length:=by omega
 have af:(c:Int)<a.l.length:=by omega
 have ag:¬((e:Int)=0):=by omega
 obtain⟨K,M⟩:∃K,K=b.aV.length:=⟨_,rfl⟩
 obtain⟨y,z⟩:∃y,y=b.b:=⟨_,rfl⟩
 rw[<-M]at v ad;rw[<-z]at v V u W|-;have av:a.g≠y:=λx=>by have h:=f.t4 a (Uo i);rw[x,z,f.t1]at h;cases h
 obtain⟨A,O⟩:∃A,A=a.l.length:=⟨_,rfl⟩
 rw[<-O]at X af;have ah:(c:Int)<a.c\/True:=Up VU;clear f i U p G w M z O s m C D E q r H ah;simp only[bv]at Z;go_enter func96,ntmps96;go_wp2_with fail;refine Uq u ?_;rintro aw ax ⟨rfl,rfl⟩;clear u;go_upto_region 5 with fail;go_cut [42] λd ai=>d=B F/\g=ai;case first=>
  go_wp2;go_meet;case rel=>
   refine⟨?_,rfl⟩;have h:decide ((c:Int)<0)=F:=by simp
   have aj:decide (A<=c)=F:=U7 (by omega);have ak:=Uy.2 ag;simp only[h,aj,ak,Bool.or_false]
 case rest=>
 obtain⟨rfl,rfl⟩:=hcut;go_upto_region 7 with fail;go_region;all_goals
  go_wp2;go_ret;refine⟨rfl,?_⟩;rw[ab];obtain⟨⟨al,am⟩,an⟩:=ac;have Q:=(ae.a aa ((g.setCell ⟨a.g,c,N⟩ (bv (d ^^^ e))).setCell ⟨j,o+k*4+3,N⟩ (B T))).drew;exact⟨_,al.a Q,an,am.a (dR.c _ Q)⟩
def Mn:(prog.info? 220).map (λa=>(a.zero,a.size,a.bytes))=S (S (.agg #[.int J 0,.int J 0,.int J 0,L N 0 0,.int J 0,.int J 0,.int J 0,.int J 0,.int J 0,B F,L N 0 0]),11,120):=by kernel_rfl
def E8:(prog.info? 222).map (λa=>(a.zero,a.size,a.bytes))=S (S (.agg #[.int J 0,.int J 0,.int J 0,P N]),4,32):=by kernel_rfl
def r7(b:List Ed)(k c:Nat)(a:Ds):Prop:=a.n=ay.g (fZ (cN k (b.take c)))/\a.ss.map (λd=>(d.t,d.e))=(cN k (b.take c)).map (λe=>((e.a+e.b-(k:Int)).toNat,En.e))/\a.oa=N/\a.oc=0
def GN{a:List Ed}{k b c}(d:a[b]?=S c):cN k (a.take (b+1))=if c.a=(k:Int)\/c.b=(k:Int)then cN k (a.take b)++[c]else cN k (a.take b):=by unfold cN;rw[Vz,d];simp only[Option.toList,U2,Vr,XN,UV];split;rfl;simp
def Mt{a k b c d}(e:r7 a k b d)(f:a[b]?=S c)(g:¬(c.a=(k:Int)\/c.b=(k:Int))):r7 a k (b+1) d:=by unfold r7;rw[GN f,Us g];exact e
def E5{d}{k e b c z:Nat}{a}(f:r7 d k e a)(g:d[e]?=S ⟨(b:Int),(c:Int),(z:Int)⟩)(t)(r:(b=k/\t=c)\/(c=k/\t=b))(h i j):r7 d k (e+1) {a with n:= {a.n with ai:=a.n.ai++[(z,0)]},sa:=h,sc:=i,ss:=a.ss++[⟨t,j,En.e,Rf.b,Rp.a⟩]}:=by
 obtain⟨l,m,o,p⟩:=f;have q:((b:Int)=k\/(c:Int)=k):=by omega
 unfold r7;rw[GN g];simp only[UG q];refine⟨?_,?_,o,p⟩;rw[l];unfold fZ ay.g;simp;rw[Vm,Vm,m];congr 1;simp only[WV,List.map_nil,XL,VT,XU];omega
def Ms{a k b c}(f:r7 a k b c)(g:a.length<=b):c.a=mO a k:=by obtain⟨d,e,_⟩:=f;rw[US g]at d e;unfold Ds.a mO;rw[d,e]
def Mm(c b d f a)(g:gh a d b)(z)(h:gq c b z)(m:z≠0):
 Cr 83 #[.int J c,L d b.length f] a (.tuple #[P N,.int J z]) λe=>ae aa a e:=by
 have i(_:=()):Cr 74 #[I J c,L d b.length f] a (I J z) λe=>ae aa a e:=(yZ c d b f a g).mono (by rintro j e ⟨n,rfl,k,l⟩;rw[gq.b k h];exact⟨rfl,l⟩)
 go_enter func83,ntmps83;go_wp2_with fail;refine Uq i ?_;rintro j o ⟨rfl,p⟩;go_wp2;refine UO (v:= .tuple #[P N,I J z]) (by simp[results,results83,go_sem]) rfl ?_;simp_all
def Ml(q:Nat)(C au aA o)(w:gh o au C)(aB:gq (q:Int) C 0):
 Calls prog 83 #[.int J q,L au C.length aA] o λO Z=>∃aK,O= .returned (.tuple #[P (S ⟨aK.b,0,N⟩),.int J 0])/\bP Z aK/\aK.a=AN.i q (gK C)/\ae aa o Z/\∀c,aK.cE c≠(0,0,0)->o.heap.size<=c:=by
 have am:=wK aB;have bg(_:=()):Cr 74 #[I J q,L au C.length aA] o (I J 0) λZ=>ae aa o Z:=(yZ (q:Int) au C aA o w).mono (by rintro O Z ⟨ci,rfl,bE,c⟩;rw[gq.b bE aB];exact⟨rfl,c⟩)
 obtain⟨f,hF⟩:=ah (gK C);obtain⟨Q,aL⟩:=ah f.length;have bh(_:=()):∀w1,ae aa o w1->Calls prog 129 #[L au C.length aA] w1 λO Z=>∃(aM:Option Addr)(aN:Nat),O= .returned (L aM Q aN)/\ly w1 Z f aM aN:=λw1 ab=>(MC C au aA w1 (w.a ab) (by have:=am.1.a;rw[tF]at this;omega)).mono (by rintro O Z ⟨cj,aM,aN,rfl,bF,an⟩;have a:=Sm.J6 aB bF;rw[a,<-hF]at an;rw[a,<-hF,<-aL];exact⟨aM,aN,rfl,an⟩)
 have R(_:=()):f=gK C/\Q=f.length/\(Q:Int)<=30/\1<=q/\q<=10:=⟨hF,aL,by have:=am.1.a;rw[<-hF,<-aL]at this;omega,am.2.1,am.2.2⟩
 have bG(_:=()):∀(bi:Nat)(a:Ed),f[bi]?=S a->∃h i z:Nat,a=⟨(h:Int),(i:Int),(z:Int)⟩/\h≠i:=λbi a ac=>by rw[hF]at ac;obtain⟨h,i,z,rfl,_⟩:=am.1.b a (Uo ac);refine⟨h,i,z,rfl,?_⟩;have:=Sm.rX aB ((XW C).mem_iff.1 (Uo ac));have aX:=this.2.2.1;unfold Ghs.e3 at aX;simpa using aX
 have ck:(q:Int)<=10:=by have:=am.2.2;omega
 generalize C.length=el at *;clear w aB am hF aL;go_enter func83,ntmps83;go_wp2_with fail;refine Uq bg ?_;rintro O w1 ⟨rfl,ab⟩;have bj:=@af _ (bh () w1 ab);have bk:=@af _ ab;clear ab bg bh;go_wp2_with fail;refine Uq bj ?_;rintro O aY ⟨U,V,rfl,an⟩;obtain⟨bl,aO⟩:=ah (aY.alloc (.cells #[L U Q V,L N 0 0,L N 0 0] 216));obtain⟨p,aP⟩:=ah aY.heap.size;have bm(_:=()):∃E,nW o bl p f U V [] N 0 E:=by have ab:=bk;refine nW.e (ab.c an.a) an.b (λav m=>UM ab.size (an.c av m)) (w1:=bl) (by rw[aO];exact(ae.a aa aY).b _) (by rw[aP];exact UF _) ?_;rw[aO,aP,<-R.2.1];exact aq.e _ _ _
 clear bj;have aZ:=@aC _ _ aO aP;clear an aO aP bk;go_upto_region 5 with fail;rw[<-aZ.1,<-aZ.2];clear aZ;go_wp2_with fail;go_loopw [8,9,10,11] (λv _ _ _ wr=>∃(c:Nat)(r:List Ds)(W:Option Addr)(ad:Nat)(E:Nat->Nat×Nat×Nat),v= .int J c/\c<=q/\r.length=c/\nW o wr p f U V r W ad E/\r.map Ds.a=(List.range c).map (mO f)) λv _ _ _ _=>q-(intOf v).toNat;case atStart=>
  obtain⟨E,G⟩:=bm;exact⟨0,[],N,0,E,rfl,Vl _,rfl,G,rfl⟩
 case round=>
  clear bm;obtain⟨c,r,W,ad,E,rfl,a0,w,G,K⟩:=hrel;have ao:=@gA _ _ _ _ G a0 w K;by_cases a1:c<q
  .have bn:=@af _ a1;have bH:(c:Int)<q:=by omega
   have cl:(c:Int)<10:=by omega
   obtain⟨bo,aQ⟩:=ah (wr.alloc (.cells #[I J 0,I J 0,I J 0,L N 0 0,I J (-1),I J (-1),I J 1073741824,I J (-1),I J 0,B F,L N 0 0] 220));obtain⟨g,aR⟩:=ah wr.heap.size;have bp(_:=()):pQ o bo p f U V r W ad E g ⟨ay.g (fZ (cN c (f.take 0))),N,0,[],N,0⟩:=by refine ao.1.c _ (w1:=bo) (by rw[aQ];exact(ae.a aa wr).b _) (by rw[aR];exact UF _) ?_ (by simp[cN,fZ,ay.g]) rfl rfl rfl ⟨rfl,rfl,rfl⟩;rw[aQ,aR];exact aq.e _ _ _
   have a2:=@aC _ _ aQ aR;clear G a0 w K a1 aQ aR;go_upto_region 9 with fail;rw[<-a2.1,<-a2.2];clear a2;go_wp2_with fail;go_loopw [10,11] (λv _ wr=>∃(l:Nat)(b:Ds)(E:Nat->Nat×Nat×Nat),v= .int J l/\l<=Q/\pQ o wr p f U V r W ad E g b/\r7 f c l b) λv _ _=>Q-(intOf v).toNat;case atStart=>exact⟨0,_,E,rfl,Vl _,bp,rfl,by simp[cN],rfl,rfl⟩
   case round=>
    clear bp;obtain⟨l,b,bI,rfl,a3,e,aS⟩:=hrel;have aD:=@cf _ _ _ e aS a3;have aT:=e.d.nx.a 0;simp at aT;rw[<-R.2.1]at aT;have aU:=e.d.nx.b;have bJ:=e.ku.b;by_cases a4:l<Q
    .obtain⟨a,ac⟩:∃a,f[l]?=S a:=⟨_,Um (by have:=R;omega)⟩
     obtain⟨cm,cn,bq,bK,br,bs,aw⟩:=uA e.d.qD ac (by have:=R;omega);obtain⟨h,i,z,rfl,co⟩:=bG () l a ac;have X:=@aC _ _ ac a4;simp only at br bs aw;rw[bq]at aT;have bL:(l:Int)<Q:=by omega
     have cp:(l:Int)<30:=by have:=R;omega
     obtain⟨x,aV⟩:=ah (wr.alloc (.cells #[I J h,I J i,I J z] 30));obtain⟨s,K⟩:=ah wr.heap.size;have a5:ae aa wr x:=by rw[aV];exact(ae.a aa wr).b _
     have ax:aq x s #[I J h,I J i,I J z] 30:=by rw[aV,K];exact aq.e _ _ _
     have ap:=e.c a5;have a6:=@cf _ _ _ ap a5 ax;have a7:=ax.a 0;have a8:=ax.a 1;have a9:=ax.a 2;simp at a7 a8 a9;have az:=ap.ku.a 3;have bt:=ap.ku.d 3;simp[eJ]at az;have M:=ax.b;have D:=ap.ku.b;have cq:s≠g:=by rw[K];omega
     obtain⟨ar,w⟩:=ah b.ss.length;rw[<-w]at az;have y(_:=()):ar=b.ss.length/\ar<=30/\¬ag b.sa s/\¬ag b.sa g:=⟨w,by
      have u:=e.tL;have bM:=aS.1;have aX:=GO c (f.take l);have cr:=List.length_take_le l f;have ap:=R;rw[bM]at u;simp[ay.g,fZ]at u;have cs:(f.take l).length<=30:=by rw[UK];omega
      omega,λa=>by have:=e.sB.b s a;omega,λa=>gz (e.t6 g a) (by omega) e.xo⟩
     have bu(_:=()):∀j,ae aa x j->RV j 222 4 b.sa ar b.sc (lJ b.n.ai b.ss):=λj bN=>by have:=ap.sB.a bN λ_ _ a=>a;rw[<-w]at this;exact this
     have ba:=@aC _ _ aV K;clear e aS a3 a4 ac bq aV K a5 ax ap w;go_upto_region 13 with fail;rw[<-ba.1,<-ba.2];clear ba br bs aw bK aT aU bJ;by_cases bO:h=c
     .subst bO;have bv:((i:Int)==(h:Int))=F:=by simp;omega
      have bQ:¬((i:Int)=h):=by omega
      go_wp2_with fail;go_region_law (first
       |(refine mj rfl (.tmp 49) (.tmp 56) 217 rfl 222 (.agg #[I J 0,I J 0,I J 0,P N]) 4 32 underlying217 E8 rfl b.sa ar b.sc (by simp[Act.eval,Act.put]) (lJ b.n.ai b.ss) ((bu () j (((ae.a aa x).drew).c d)).c _) ⟨j.heap.size,0,N⟩ 1 1 (by omega) rfl [I J z,I J i,I J 0,P (S ⟨x.heap.size,0,N⟩)] rfl (gJ j [I J z,I J i,I J 0,P (S ⟨x.heap.size,0,N⟩)] 222 _ rfl) (by intro bw aj;simp at aj;obtain rfl|rfl|rfl|rfl:=aj<;>rfl) (by have:=y;omega) (by have:=y;omega) ?_;intro a' c' A ak Y al;have k:ae (ag b.sa) j A:=((ae.a (ag b.sa) j).b _).c al;have bx:=(k.f s 1 (Un M d.size) y.2.2.1).trans aW;have bR:=(k.f g 3 (Un D d.size) y.2.2.2).trans aE;have bS:=(k.h g 3 (Un D d.size) y.2.2.2).trans aF;have bz:s<A.heap.size:=Un (Un M d.size) k.size;have bT:g<A.heap.size:=Un (Un D d.size) k.size)
       |(go_simp;go_at_call 42;refine(B3 _).mono ?_;rintro O j ⟨rfl,aG,d⟩;have bb:=(d.f s 0 M λa=>a).trans a7;have aW:=(d.f s 1 M λa=>a).trans a8;have bc:=(d.f s 2 M λa=>a).trans a9;have aE:=(d.f g 3 D λa=>a).trans az;have aF:=(d.h g 3 D λa=>a).trans bt;have bd:s<j.heap.size:=Un M d.size;have be:g<j.heap.size:=Un D d.size))
      all_goals
       have aH(_:=()):∃H,pQ o (A.setCell ⟨g,3,N⟩ (L a' (ar+1) c')) p f U V r W ad H g {b with n:= {b.n with ai:=b.n.ai++[(z,0)]},sa:=a',sc:=c',ss:=b.ss++[⟨i,x.heap.size,En.e,Rf.b,Rp.a⟩]}:=by
        have u:=a6.1.a (z:=z) (t:=i) ((((ae.a aa x).drew).c d)) (UF _) aG (by rw[<-y.1];exact ak) (λav m=>by obtain⟨a,_⟩|⟨a,_⟩:=Y;rw[a]at m;exact Ur m;rw[a]at m;have:=cM.1 m;simp only[Uv]at this;exact Up (by omega)) k
        rw[<-y.1]at u;exact u
       clear ak Y al k aG d bb aW bc aE aF bd be;go_wp2;obtain⟨H,aI⟩:=aH;exact⟨⟨l+1,_,H,by go_num,by have:=X;omega,aI,E5 aD.2.1 X.1 i (Ur ⟨rfl,rfl⟩) _ _ _⟩,by have:=X;simp[intOf];omega⟩
     by_cases bv:i=c
     .subst bv;have bU:((h:Int)==(i:Int))=F:=by simp;omega
      have bV:¬((h:Int)=i):=by omega
      go_wp2_with fail;go_region_law (first
       |(refine mj rfl (.tmp 64) (.tmp 71) 217 rfl 222 (.agg #[I J 0,I J 0,I J 0,P N]) 4 32 underlying217 E8 rfl b.sa ar b.sc (by simp[Act.eval,Act.put]) (lJ b.n.ai b.ss) ((bu () j (((ae.a aa x).drew).c d)).c _) ⟨j.heap.size,0,N⟩ 1 1 (by omega) rfl [I J z,I J h,I J 0,P (S ⟨x.heap.size,0,N⟩)] rfl (gJ j [I J z,I J h,I J 0,P (S ⟨x.heap.size,0,N⟩)] 222 _ rfl) (by intro bw aj;simp at aj;obtain rfl|rfl|rfl|rfl:=aj<;>rfl) (by have:=y;omega) (by have:=y;omega) ?_;intro a' c' A ak Y al;have k:ae (ag b.sa) j A:=((ae.a (ag b.sa) j).b _).c al;have bR:=(k.f g 3 (Un D d.size) y.2.2.2).trans aE;have bS:=(k.h g 3 (Un D d.size) y.2.2.2).trans aF;have bT:g<A.heap.size:=Un (Un D d.size) k.size)
       |(go_simp;go_at_call 42;refine(B3 _).mono ?_;rintro O j ⟨rfl,aG,d⟩;have bb:=(d.f s 0 M λa=>a).trans a7;have aW:=(d.f s 1 M λa=>a).trans a8;have bc:=(d.f s 2 M λa=>a).trans a9;have aE:=(d.f g 3 D λa=>a).trans az;have aF:=(d.h g 3 D λa=>a).trans bt;have bd:s<j.heap.size:=Un M d.size;have be:g<j.heap.size:=Un D d.size))
      all_goals
       have aH(_:=()):∃H,pQ o (A.setCell ⟨g,3,N⟩ (L a' (ar+1) c')) p f U V r W ad H g {b with n:= {b.n with ai:=b.n.ai++[(z,0)]},sa:=a',sc:=c',ss:=b.ss++[⟨h,x.heap.size,En.e,Rf.b,Rp.a⟩]}:=by
        have u:=a6.1.a (z:=z) (t:=h) ((((ae.a aa x).drew).c d)) (UF _) aG (by rw[<-y.1];exact ak) (λav m=>by obtain⟨a,_⟩|⟨a,_⟩:=Y;rw[a]at m;exact Ur m;rw[a]at m;have:=cM.1 m;simp only[Uv]at this;exact Up (by omega)) k
        rw[<-y.1]at u;exact u
       clear ak Y al k aG d bb aW bc aE aF bd be;go_wp2;obtain⟨H,aI⟩:=aH;exact⟨⟨l+1,_,H,by go_num,by have:=X;omega,aI,E5 aD.2.1 X.1 h (Up ⟨rfl,rfl⟩) _ _ _⟩,by have:=X;simp[intOf];omega⟩
     .have bU:((h:Int)==(c:Int))=F:=by simp;omega
      have ct:((i:Int)==(c:Int))=F:=by simp;omega
      have bW(_:=()):¬((h:Int)=c\/(i:Int)=c):=by omega
      have bV:¬((h:Int)=c):=by omega
      have bQ:¬((i:Int)=c):=by omega
      go_wp2;exact⟨⟨l+1,b,bI,by go_num,by have:=X;omega,a6.1,Mt aD.2.1 X.1 bW⟩,by have:=X;simp[intOf];omega⟩
    .have bL:¬((l:Int)<Q):=by omega
     have bX(_:=()):f.length<=l:=by have:=R;omega
     have bf:=e.d.nx.a 1;have bY:=e.d.nx.d 1;simp at bf;obtain⟨cu,bZ⟩:∃b0,b0=r.length:=⟨_,rfl⟩
     have aJ:=ao.2.2.1;rw[aJ]at bf;have b1:=e.ku.a 0;have b2:=e.ku.a 1;have b3:=e.ku.a 2;have az:=e.ku.a 3;have b4:=e.ku.a 4;have b5:=e.ku.a 5;have b6:=e.ku.a 6;have b7:=e.ku.a 7;have b8:=e.ku.a 8;have b9:=e.ku.a 9;have ca:=e.ku.a 10;simp[eJ]at b1 b2 b3 az b4 b5 b6 b7 b8 b9 ca;have bA:=e.d.qE;rw[aJ]at bA;have bB:¬ag W p:=λa=>by have u:=e.d.t2 p a;rw[e.d.t1]at u;cases u
     clear e aS a3 a4 bZ;go_wp2_with fail;go_region_law (refine mj rfl (.tmp 78) (.tmp 80) 213 rfl 220 (.agg #[I J 0,I J 0,I J 0,L N 0 0,I J 0,I J 0,I J 0,I J 0,I J 0,B F,L N 0 0]) 11 120 underlying213 Mn rfl W c ad (by simp[Act.eval,Act.put]) (jS r) (bA.drew.c _) ⟨wr.heap.size,0,N⟩ 1 1 (by omega) rfl (eJ b) rfl (ke wr.drew (eJ b) 220 _ (by simp[eJ])) (by intro bw aj;simp only[eJ,UZ,U9,Wc]at aj;obtain rfl|rfl|rfl|rfl|rfl|rfl|rfl|rfl|rfl|rfl|rfl:=aj<;>rfl) (by omega) (by omega) ?_;intro a' c' A ak Y al;have k:ae (ag W) wr A:=(((ae.a _ wr).drew).b _).c al;have bx:=(k.f p 1 aU bB).trans bf;have cb:=(k.h p 1 aU bB).trans bY;have bz:p<A.heap.size:=Un aU k.size);all_goals
      have aH(_:=()):∃H,nW o (A.setCell ⟨p,1,N⟩ (L a' (c+1) c')) p f U V (r++[b]) a' c' H:=by
       have aJ:=ao.2.2.1;have u:=aD.1.b (w5:=A) (a':=a') (c':=c') (by rw[aJ];exact ak) (λav cc a=>by
        obtain⟨aw,_⟩|⟨aw,_⟩:=Y;rw[aw]at a;exact ao.1.sC av cc a;rw[aw]at a;cases a;rfl) (λav m=>by
        obtain⟨a,_⟩|⟨a,_⟩:=Y;rw[a]at m;exact Ur m;rw[a]at m;have:=cM.1 m;simp only[Uv,UR]at this;exact Up (by omega)) k
       rw[aJ]at u;exact u
      clear ak Y al k bx cb bz;go_wp2;obtain⟨H,aI⟩:=aH;refine⟨⟨c+1,r++[b],a',c',H,by go_num,by have:=bn;omega,by rw[Uu,ao.2.2.1];rfl,aI,?_⟩,by have:=bn;simp[intOf];omega⟩;rw[Vm,Wt,Vm,ao.2.2.2];simp[Ms aD.2.1 bX]
  .have bH:¬((c:Int)<q):=by omega
   have cd:c=q:=by omega
   clear G a0 w K a1;go_wp2;obtain⟨G,_,w,K⟩:=ao;have ce:0<r.length:=by have:=R;omega
   obtain⟨bC,cg,bD,cv⟩:=ja G.qE ce;have ch:=G.sC bC cg bD;subst ch;refine UO (v:= .tuple #[P (S ⟨p,0,N⟩),I J 0]) (by simp[results,results83,go_sem]) rfl ?_;refine⟨⟨p,f,U,V,bC,ad,r,[],N,0,E⟩,rfl,G.d bD,?_,G.pg,G.pi⟩;unfold Dn.a AN.i;simp only[List.map_nil];rw[K,cd,R.1]
def SS:(prog.info? 125).map (λa=>(a.zero,a.size,a.bytes))=S (S (.agg #[P N,L N 0 0]),2,32):=by kernel_rfl
def O1(q:Nat)(b G z t)(u:gh t G b)(aQ:b.length<=z)(aR:G=N->z=0)(M:gq (q:Int) b 0):
 Calls prog 30 #[.int J q,L G b.length z] t λr m=>∃d f g w i j,r= .returned (.tuple #[.agg #[L f (gK b).length g,L i w.length j,L N 0 0],.int J 0])/\rU t m q d (gK b) f g w i j:=by
 have bn:=@aC _ _ u M;have ax(_:=()):∀w1,ae aa t w1->Cr 29 #[I J q,L G b.length z] w1 (I J 0) λm=>ae aa w1 m:=λw1 H=>by refine(Bl q G b z w1 (u.a H) aQ).mono ?_;rintro r m ⟨aS,rfl,bo,V⟩;rw[gq.b bo M];exact⟨rfl,V⟩
 have az(_:=()):∀w1,ae aa t w1->Calls prog 57 #[L G b.length z] w1 λr m=>∃K O,r= .returned (L K b.length O)/\RV m 30 3 K b.length O (cA b)/\ae aa w1 m/\∀A,ag K A->w1.heap.size<=A:=λw1 H=>by
  have aA:(b.length:Int)<1000:=by have:=(ym M).1;unfold ia at this;omega
  by_cases n:b=[]
  subst n;cases G with
  |none=>
   have x:=aR rfl;subst x;refine(LQ w1).mono ?_;rintro r m ⟨rfl,rfl⟩;exact⟨N,0,rfl,RV.d _ _ _,ae.a aa _,λA aT=>(b8 A aT).elim⟩
  |some bp=>exact LO bp z w1
  have aB:=List.length_pos_iff.2 n;obtain aD|⟨bq,br,aD,W,bs⟩:=u.a H;exact(n aD).elim;rw[aD];exact LR bq br z b w1 bs W aB aA
 have Z(_:=()):∀(w1:World)(s:Option Addr)(o:Nat),RV w1 30 3 s b.length o (cA b)->Cr 58 #[L s b.length o,.func (.func 59) #[] #[]] w1 (.tuple #[]) λm=>RV m 30 3 s b.length o (cA (gK b))/\ae (ag s) w1 m:=λw1 s o ab=>by
  have aA:(b.length:Int)<1000:=by have:=(ym M).1;unfold ia at this;omega
  by_cases aB:0<b.length;obtain⟨k,aU,rfl,bt⟩:=ja ab aB;refine(SN k aU o b w1 bt aA o).mono ?_;rintro r m ⟨rfl,n,x⟩;exact⟨rfl,⟨by rw[tf,tF],ab.2.1,Up ⟨k,aU,rfl,n⟩⟩,x.d λA _ a=>by rw[show A=k from a];exact eN _ _⟩;have aE:b=[]:=U1 (by omega);have bu:gK b=[]:=U1 (by rw[tF];omega);rw[bu];rw[aE]at ab|-;refine(SL s o _ w1).mono ?_;rintro r m ⟨rfl,rfl⟩;exact⟨rfl,ab,ae.a _ _⟩
 obtain⟨n,x,W⟩:=wK M;obtain⟨h,ac⟩:=ah (gK b);have aV:b.length=h.length:=by rw[ac,tF]
 rw[<-ac]at n Z;rw[aV]at ax az Z|-;rw[<-ac];have ad:=@cf _ _ _ n x W;clear u aQ M aR n x W ac aV bn;go_enter func30,ntmps30;go_wp2_with fail;obtain⟨Q,ai⟩:=ah (t.alloc (.cells #[L N 0 0,L N 0 0,L N 0 0] 87));obtain⟨e,aj⟩:=ah t.heap.size;have ak(_:=()):ae aa t Q/\e=t.heap.size/\aq Q e #[L N 0 0,L N 0 0,L N 0 0] 87:=⟨by rw[ai];exact(ae.a aa t).b _,aj,by rw[ai,aj];exact aq.e _ _ _⟩
 rw[<-ai,<-aj];clear ai aj;refine Uq (ax () Q ak.1) ?_;rintro r bv ⟨rfl,aW⟩;have al:=@af _ aW;clear aW ax;go_wp2_with fail;refine Uq (az () bv (ak.1.c al)) ?_;rintro r l ⟨f,g,rfl,aX,aY,aZ⟩;have aF:=@cf _ _ _ aX aY aZ;clear aX aY aZ az;go_wp2_with fail;obtain⟨aG,am⟩:=ah (l.alloc (.cells #[L f h.length g,L N 0 0,L N 0 0] 87));obtain⟨d,an⟩:=ah l.heap.size;have aH(_:=()):ae aa l aG/\d=l.heap.size/\aq aG d #[L f h.length g,L N 0 0,L N 0 0] 87:=⟨by rw[am];exact(ae.a aa l).b _,an,by rw[am,an];exact aq.e _ _ _⟩
 rw[<-am,<-an];clear am an;refine Uq (Z () aG f g (aF.1.a aH.1 λ_ _ a=>a)) ?_;rintro r bw ⟨rfl,a0,aI⟩;have bx(_:=()):rU Q bw 0 d h f g [] N 0:=by
  obtain⟨bz,a1,a2⟩:=aF;obtain⟨bA,b2,bB⟩:=aH;have aJ:=al.size;have a3:=a1.size;have a4:¬ag f d:=λa=>by have:=bz.b d a;omega
  have bC:=((al.c a1).c bA).g aI (λA aT a=>by have:=a2 A a;omega);refine rU.c bC (by omega) (bB.c aI a4) a0 λk C=>⟨by have:=a2 k C;omega,λa=>a4 (by rw[<-a];exact C)⟩
 clear a0 aI Z aF aH al;go_wp2_with fail;go_loopw [23] (λv wr=>∃(c:Nat)(w:List Sp)(i:Option Addr)(j:Nat),c<=q/\v= .int J c/\rU Q wr c d h f g w i j) λv _=>q-(intOf v).toNat;case atStart=>exact⟨0,[],N,0,Vl _,rfl,bx⟩
 case round=>
  obtain⟨c,w,i,j,V,rfl,D⟩:=hrel;have R:=@aC _ _ D V;have u:=D.sU;have bD:wr.cell? ⟨d,0,N⟩=S (L f h.length g):=by have:=D.oC.fq.a 0;simpa [gZ,Nt.cells]using this
  have aJ:wr.cell? ⟨d,1,N⟩=S (L i c j):=by have:=D.oC.fq.a 1;simpa [gZ,Nt.cells,u]using this
  have a3:wr.cell? ⟨d,2,N⟩=S (L N 0 0):=by have:=D.oC.fq.a 2;simpa [gZ,Nt.cells]using this
  have aK:=D.oC.fq.d 1;have X:=D.oC.fq.b;have a5:(c:Int)<=10:=by have:=ad;omega
  clear D;by_cases aL:c<q
  .have ao:=@af _ aL;have bE:(c:Int)<q:=by omega
   have aM(_:=()):∀w1,ae aa wr w1->_:=λw1 H=>PP c h f g w1 ((R.1.oC.a H λ_ _ a=>a).oy) (by have:=ad.1.a;omega) (by omega) λa aE=>by obtain⟨bF,bG,aS,rfl,n,x,W⟩:=ad.1.b a aE;have:=ad;exact⟨bF,bG,aS,rfl,by omega,by omega,by omega⟩
   have aN(_:=()):∀w1,ae aa wr w1->RV w1 125 2 i c j (nR w):=λw1 H=>by have:=(R.1.oC.a H λ_ _ a=>a).pu;rw[<-u];exact this
   have a6(_:=()):¬ag i d:=λa=>by have:=R.1.oC.fk .fV .gk d rfl a;cases this
   obtain⟨bH,aO⟩:=ah (nR w);rw[<-aO]at aN;have bI:=@aC _ _ aO u;obtain⟨a7,aP⟩:=ah ((cN c h).length);have bJ:=@af _ aP;rw[<-aP]at aM;clear aL V aO u aP;go_wp2_with fail;go_region_law (first
    |(refine mj rfl (.tmp 27) (.tmp 32) 83 rfl 125 (.agg #[P N,L N 0 0]) 2 32 underlying83 SS rfl i c j (by simp[Act.eval,Act.put]) bH ((aN () l (((ae.a aa wr).drew).c E)).c _) ⟨l.heap.size,0,N⟩ 1 1 (by omega) rfl [P (S ⟨ar,0,N⟩),L s a7 o] rfl (gJ l [P (S ⟨ar,0,N⟩),L s a7 o] 125 _ rfl) (by intro b3 a8;simp at a8;obtain rfl|rfl:=a8<;>rfl) (by omega) (by omega) ?_;intro K O bK a9 ba au;have bb:=((((ae.a aa l).b _).d λ_ _ a=>a.elim).c au).f d 1 (Un X E.size) a6;have bc:=((((ae.a aa l).b _).d λ_ _ a=>a.elim).c au).h d 1 (Un X E.size) a6;rw[bd]at bb;rw[be]at bc)
    |(go_simp;go_at_call 61;refine(aM () _ ((ae.a aa wr).drew)).mono ?_;rintro r l ⟨ar,p,s,o,rfl,bf,bg,E,bh,bi⟩;have bd:=(E.f d 1 X λa=>a).trans aJ;have be:=(E.h d 1 X λa=>a).trans aK;have bL:d<l.heap.size:=Un X E.size))
   all_goals
    have bM(_:=()):rU Q (bK.setCell ⟨d,1,N⟩ (L K (c+1) O)) (c+1) d h f g (w++[⟨ar,ay.g (fZ (cN c h)),p,s,o,(cN c h).map (kh c)⟩]) K O:=by obtain⟨bN,bj⟩:=bI;have bO:=bJ;subst bN;subst bO;have n:=R.1.b (w1:=l) bf bg (((ae.a aa wr).drew).c E) bh bi ((ae.a aa l).b (.cells #[P (S ⟨ar,0,N⟩),L s (cN c h).length o] 125)) (by rw[bj];exact a9) ba au;rw[bj]at n;exact n
    clear aM aN bf bg E bh bi bd be bL a9 ba au bb bc;go_wp2;exact⟨⟨c+1,_,K,O,by have:=ao;omega,by go_num,bM⟩,by have:=ao;simp[intOf];omega⟩
  .have ao(_:=()):c=q:=by omega
   have bE:¬((c:Int)<q):=by omega
   have b4:=@af _ a5;have y:=ak.2.2.c R.1.sR id;have bP:wr.cell? ⟨e,0,N⟩=S (L N 0 0):=by rw[y.a];rfl
   have bQ:wr.cell? ⟨e,1,N⟩=S (L N 0 0):=by rw[y.a];rfl
   have bR:wr.cell? ⟨e,2,N⟩=S (L N 0 0):=by rw[y.a];rfl
   have bS:=y.d 0;have bT:=y.d 1;have bU:=y.d 2;have bV:=y.b;have bk:=@aC _ _ y u;clear aL V y a5;go_wp2;obtain⟨Y,av⟩:=ah (((wr.setCell ⟨e,0,N⟩ (L f h.length g)).setCell ⟨e,1,N⟩ (L i c j)).setCell ⟨e,2,N⟩ (L N 0 0));have bl:ae (ap e) wr Y:=by rw[av];exact(((ae.a (ap e) wr).e (p:=⟨e,0,N⟩) (λ_=>rfl) _).e (p:=⟨e,1,N⟩) (λ_=>rfl) _).e (p:=⟨e,2,N⟩) (λ_=>rfl) _
   have aw:aq Y e #[L f h.length g,L i c j,L N 0 0] 87:=by have x:=((bk.1.f 0 (L f h.length g)).f 1 (L i c j)).f 2 (L N 0 0);rw[<-av]at x;exact x
   rw[<-av];have bW:Y.cell? ⟨e,0,N⟩=S (L f h.length g):=by rw[aw.a];rfl
   have aK:Y.cell? ⟨e,1,N⟩=S (L i c j):=by rw[aw.a];rfl
   have bX:Y.cell? ⟨e,2,N⟩=S (L N 0 0):=by rw[aw.a];rfl
   clear bP bQ bR bS bT bU bV av aw bD aJ a3;refine UO (v:= .tuple #[.agg #[L f h.length g,L i c j,L N 0 0],I J 0]) (by simp[results,results30,go_sem,bW,aK,bX]) rfl ?_;have U:=R.1;have bY:=bk.2;have bZ:=ao;obtain⟨bm,b5,b0⟩:=ak;have b1:∀k,(gZ d h f g w i j).c k->¬ap e k:=λk C a=>by have:=U.oB k C;have:=b0.b;rw[show k=e from a]at *;omega
   refine⟨d,f,g,w,i,j,by rw[bY],?_⟩;subst bZ;exact⟨(bm.c U.sR).g bl (λk C a=>by rw[show k=e from a]at C;omega),U.oC.a bl b1,U.sU,U.xR,λk C=>UM bm.size (U.oB k C)⟩
def KQ(f:Nat)(b m n d)(z:gh d m b)(A:b.length<=n)(C:m=N->n=0)(s:gq (f:Int) b 0):
 Calls prog 14 #[.int J f,L m b.length n] d λD E=>∃o,D= .returned (.tuple #[P (S ⟨o.nb,0,N⟩),.int J 0])/\sQ E o 0/\o.a=AN.i f (gK b)/\ae aa d E/\∀e,o.c e->d.heap.size<=e:=by
 have M:=@af _ s;have G(_:=()):∀t,ae aa d t->_:=λt u=>O1 f b m n t (z.a u) A C s;clear z A C s;go_enter func14,ntmps14;go_wp2_with fail;refine Uq (G () d (ae.a aa d)) ?_;rintro D c ⟨H,g,h,p,i,j,rfl,a⟩;have O:=@af _ a;obtain⟨q,w⟩:=ah ((gK b).length);obtain⟨e,x⟩:=ah p.length;have Q:=@aC _ _ w x;rw[<-w,<-x];clear a w x G;go_wp2;refine UO (v:= .tuple #[P (S ⟨c.heap.size+1,0,N⟩),I J 0]) (by simp[results,results14,go_sem]) rfl ?_;obtain⟨R,U⟩:=Q;have a:=O;obtain⟨K,ab,V⟩:=wK M;have u:ae aa c (c.alloc (.cells #[L g q h,L i e j,L N 0 0] 87)):=(ae.a aa c).b _;have W:=(a.oC.a u λ_ _ X=>X).A (nb:=c.heap.size+1) (ty:=91) ((ae.a aa _).b (.cells #[L g q h,L i e j,L N 0 0] 91)) (by simp) (by have:=aq.h (c.alloc (.cells #[L g q h,L i e j,L N 0 0] 87)) #[L g q h,L i e j,L N 0 0] 91 (c.heap.size+1) (by simp);rw[R,U]at this|-;exact this)
 have r:({gZ H (gK b) g h p i j with nb:=c.heap.size+1,ty:=91}:Nt).a=AN.i f (gK b):=a.a;refine⟨{gZ H (gK b) g h p i j with nb:=c.heap.size+1,ty:=91},rfl,⟨W,by rw[r];exact Ep K V,by rw[r];exact KU f _,by rw[r];exact Nb K,?_⟩,r,(a.sR.b _).b _,?_⟩;have:=a.sU;show 0<p.length;omega;rintro k ⟨y,Y,l⟩;have ac:=a.sR.size;cases y with
 |fV=>rw[show k=c.heap.size+1 from l];omega
 |iB=>exact a.oB k ⟨.iB,by simp,l⟩
 |gk=>exact a.oB k ⟨.gk,by simp,l⟩
 |dY=>exact a.oB k ⟨.dY,by simp,l⟩
 |eY=>exact a.oB k ⟨.eY,by simp,l⟩
 |ep=>exact(Y rfl).elim
 |cZ y Z=>exact a.oB k ⟨.cZ y Z,by simp,l⟩
def O2(h d i j b)(u:gh b i d)(w:d.length<=j)(z)(x:gq h d z)(Y:z≠0):
 Cr 30 #[.int J h,L i d.length j] b (.tuple #[.agg #[L N 0 0,L N 0 0,L N 0 0],.int J z]) λk=>ae aa b k:=by
 have y(_:=()):∀e,ae aa b e->Cr 29 #[I J h,L i d.length j] e (I J z) λk=>ae aa e k:=λe C=>by refine(Bl h i d j e (u.a C) w).mono ?_;rintro D k ⟨Z,rfl,E,G⟩;rw[gq.b E x];exact⟨rfl,G⟩
 clear u w x;go_enter func30,ntmps30;go_wp2_with fail;obtain⟨o,l⟩:=ah (b.alloc (.cells #[L N 0 0,L N 0 0,L N 0 0] 87));obtain⟨a,m⟩:=ah b.heap.size;have q(_:=()):ae aa b o/\a=b.heap.size/\aq o a #[L N 0 0,L N 0 0,L N 0 0] 87:=⟨by rw[l];exact(ae.a aa b).b _,m,by rw[l,m];exact aq.e _ _ _⟩
 rw[<-l,<-m];clear l m;refine Uq (y () o q.1) ?_;rintro D f ⟨rfl,r⟩;have n(_:=()):ae aa b f/\b.heap.size<=a/\aq f a #[L N 0 0,L N 0 0,L N 0 0] 87:=by obtain⟨H,ab,K⟩:=q;exact⟨H.c r,by omega,K.c r id⟩
 have c:=n.2.2;have M:=c.a 0;have O:=c.a 1;have Q:=c.a 2;have ac:=c.d 0;have ad:=c.d 1;have af:=c.d 2;have ag:=c.b;simp at M O Q;clear r y q c;go_wp2;obtain⟨g,s⟩:=ah (((f.setCell ⟨a,0,N⟩ (L N 0 0)).setCell ⟨a,1,N⟩ (L N 0 0)).setCell ⟨a,2,N⟩ (L N 0 0));have t:aq g a #[L N 0 0,L N 0 0,L N 0 0] 87:=by have:=((n.2.2.f 0 (L N 0 0)).f 1 (L N 0 0)).f 2 (L N 0 0);rw[s];exact this
 have R:ae (ap a) f g:=by rw[s];exact(((ae.a (ap a) f).e (p:=⟨a,0,N⟩) (λ_=>rfl) _).e (p:=⟨a,1,N⟩) (λ_=>rfl) _).e (p:=⟨a,2,N⟩) (λ_=>rfl) _
 rw[<-s];have U:g.cell? ⟨a,0,N⟩=S (L N 0 0):=by rw[t.a];rfl
 have V:g.cell? ⟨a,1,N⟩=S (L N 0 0):=by rw[t.a];rfl
 have W:g.cell? ⟨a,2,N⟩=S (L N 0 0):=by rw[t.a];rfl
 refine UO (v:= .tuple #[.agg #[L N 0 0,L N 0 0,L N 0 0],I J z]) (by simp[results,results30,go_sem,U,V,W]) rfl ?_;exact⟨rfl,n.1.g R (λX ai A=>by have:=n.2.1;have A:X=a:=A;omega)⟩
def KR(c b d e a)(g:gh a d b)(h:b.length<=e)(z)(i:gq c b z)(m:z≠0):
 Cr 14 #[.int J c,L d b.length e] a (.tuple #[P N,.int J z]) λn=>ae aa a n:=by
 have j(_:=()):∀f,ae aa a f->_:=λf o=>O2 c b d e f (g.a o) h z i m;clear g h i;go_enter func14,ntmps14;go_wp2_with fail;refine Uq (j () a (ae.a aa a)) ?_;rintro p q ⟨rfl,k⟩;have l:=@af _ k;clear k j;go_wp2;refine UO (v:= .tuple #[P N,I J z]) (by simp[results,results14,go_sem]) rfl ?_;exact⟨rfl,by first|exact l|exact l.b _⟩
open Go.ChangeShapes Go.WideShapes Go.ChangeAt Go.RowKit Go.Deep
def Qj{i}{Z:TypeId×Value->i}{k aa c}{l:DataW i}{ab:List MemPlace}(ac:DataW.trod Z prog k 0 (λ_=>T) T aa 80 c=S (l,ab))(ad:c.length=12)(m:∀a∈l.weights prog 80,a<=reachBytes):
 ∃e:iM,c=e.cells/\e.b k/\e.o:=by
 obtain⟨ae,aG,aH,f,_,af,b⟩:=Xd underlying80 ac;simp only[VT]at f;match ae,af,c,ad with
 |[y0,y1,y2,y3,y4,y5,y6],_,[v0,v1,v2,v3,v4,v5,v6,v7,v8,v9,v10,v11],_=>
  have n:=b 0 _ rfl;have o:=b 1 _ rfl;have p:=b 2 _ rfl;have q:=b 3 _ rfl;have r:=b 4 _ rfl;have s:=b 5 _ rfl;have t:=b 6 _ rfl;simp[yC,MX,NC,Ln]at n o p q r s t;obtain⟨ag,u,_,aI⟩:=VZ underlying3 n;obtain⟨ah,v,_,w⟩:=VZ underlying3 o;obtain⟨ai,x,_,y⟩:=VZ underlying3 p;obtain⟨aj,z,_,A⟩:=VZ underlying3 q;simp at u v x z;subst u v x z;simp[Lit.wf,IntKind.min,IntKind.max,IntKind.bits,IntKind.signed]at w y A;have ak:∀a∈y4.1.weights prog 26,a<=reachBytes:=λa g=>m a (by rw[f.1];exact W6 (j:=4) rfl rfl a g)
  have al:∀a∈y6.1.weights prog 56,a<=reachBytes:=λa g=>m a (by rw[f.1];exact W6 (j:=6) rfl rfl a g)
  obtain⟨am,an,ao,C,ap⟩:=MY r ak;obtain⟨aq,ar,au,D,av⟩:=Lr t al;simp at C D;subst C D;obtain⟨aw,aJ,_,_,_,ax,h⟩:=Xd underlying78 s;match aw,ax with
  |[aK,aL,aM],_=>
   have E:=h 0 _ rfl;have G:=h 1 _ rfl;have H:=h 2 _ rfl;simp[yC,ED,Po]at E G H;obtain⟨ay,K,_⟩:=DataW.trod_bool underlying4 E;obtain⟨az,M,_,_⟩:=VZ underlying3 G;simp at K M;subst K M;obtain⟨aA,aN,_,_,_,aB,d⟩:=Xd underlying76 H;match aA,aB with
   |[aO,aP,aQ,aR],_=>
    have O:=d 0 _ rfl;have Q:=d 1 _ rfl;have R:=d 2 _ rfl;have U:=d 3 _ rfl;simp[yC,ED]at O Q R U;obtain⟨aC,V,_,_⟩:=VZ underlying3 O;obtain⟨aD,W,_,_⟩:=VZ underlying3 Q;obtain⟨aE,X,_,_⟩:=VZ underlying3 R;obtain⟨aF,Y,_⟩:=DataW.trod_bool underlying4 U;simp at V W X Y;subst V W X Y;exact⟨⟨ag,ah,ai,aj,am,an,ao,ay,az,aC,aD,aE,aF,aq,ar,au⟩,rfl,⟨ap,av⟩,w,y,A⟩
def Qm{p}{y:TypeId×Value->p}{g z q a A}{i:DataW p}{C:List MemPlace}(D:DataW.trod y prog g 0 (λ_=>T) T z 22 [L q a A]=S (i,C))(E:∀d∈i.weights prog 22,d<=reachBytes):
 ∃j,j.length=a/\xS g q j/\(∀b∈j,b.o)/\(i= .nil/\a=0\/∃r G,i= .slice r G/\r.length=a):=by
 obtain⟨h,H⟩|⟨s,ad,ae,t,K,u,af,h,_,ag,ah,M,O,Q⟩:=open_slice underlying22 D;simp at h;obtain⟨rfl,rfl,rfl⟩:=h;exact⟨[],rfl,⟨Ur rfl,λb c=>by cases c⟩,(λb c=>by cases c),Ur ⟨Vj Prod.fst H,rfl⟩⟩;simp at h;obtain⟨rfl,rfl,rfl⟩:=h;subst M;have k:=Vj Prod.fst O;simp only at k;have R:∀d,d∈((a+(t-a))*128::(DataW.weightsAll prog 80 ((List.range a).map u)++DataW.weightsAll prog 80 ((List.range (t-a)).map λe=>u (a+e))))->d<=reachBytes:=by intro d l;refine E d ?_;rw[k];unfold DataW.weights;simpa [Qg]using l
 have U:∀f,f<a->∃b:iM,(b.b g/\b.o)/\∀e,e<12->g.cell? ((s.add (f*12)).add e)=b.cells[e]?:=by
  intro f m;obtain⟨ai,v,V⟩:=Q f (by omega);rw[Qh]at v;obtain⟨_,W,X⟩:=World.cells?_some v;obtain⟨b,c,Y⟩:=Qj V W (λd l=>R d (by refine WK _ (List.mem_append_left _ (Gc (Vb.2 ⟨f,by simpa using m,rfl⟩) d l)))
  )
  exact⟨b,Y,λe w=>by rw[<-c];exact X e w⟩
 have:Inhabited iM:=⟨nL 0 0 0 0⟩
 obtain⟨n,x⟩:=choose_lt U;refine⟨(List.range a).map n,by simp,⟨?_,λb c=>?_⟩,λb c=>?_,Up ⟨_,_,k,by simp⟩⟩;by_cases aj:a=0;grind;obtain⟨Z,aa,ab⟩:=s;have o:=(x 0 (by omega)).2 0 (by omega);have ak:(n 0).cells[0]?=S (I J (n 0).a):=rfl;have ac:ab=N:=by have:=XF o;assumption
 subst ac;simp only[Va]at x o;refine Up ⟨Z,aa,rfl,UL g _ o,Qn λK al am e w=>?_⟩;grind;simp at c;obtain⟨f,m,rfl⟩:=c;grind;simp at c;obtain⟨f,m,rfl⟩:=c;grind
def Lm{b}(a:DataW b):1<=Rows.uptoBulk a:=by
 cases a with
 |lit c=>cases c<;>simp[Rows.uptoBulk]
 |nil=>simp[Rows.uptoBulk]
 |ptr a=>simp[Rows.uptoBulk]
 |slice d e=>simp[Rows.uptoBulk]
 |agg f=>simp[Rows.uptoBulk]
 |iface g a=>simp[Rows.uptoBulk]
 |map h=>simp[Rows.uptoBulk]
 |held i=>simp[Rows.uptoBulk]
def Ll{b}(a:List (DataW b)):a.length<=Rows.uptoBulkAll a:=by
 induction a with
 |nil=>simp[Rows.uptoBulkAll]
 |cons c d e=>have:=Lm c;simp only[Rows.uptoBulkAll,Vg];omega
end Go.Proofs.YtlfijfodklhplaaGreat
