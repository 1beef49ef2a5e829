import Derived.Test.YtlfijfodklhplaaGreatAl37
set_option maxRecDepth 100000
set_option maxHeartbeats 4000000
set_option linter.all false
open Go.RowKit Go.Proofs.Tryz
open Go.Value renaming int->I,slice->L,pointer->P,bool->B
open Go.IntKind renaming i64->J
open Option renaming some->S,none->N
open Bool renaming true->T
namespace Go.Proofs.YtlfijfodklhplaaGreat
def LM(e b):∃i,gq e b i:=by
 classical
 by_cases c:ia e b;exact⟨1,λ_=>rfl,λa=>(a c).elim⟩;by_cases d:kO e b;exact⟨2,λa=>(c a).elim,λ_=>⟨λ_=>rfl,λa=>(a d).elim⟩⟩;by_cases f:mr b;exact⟨3,λa=>(c a).elim,λ_=>⟨λa=>(d a).elim,λ_=>⟨λ_=>rfl,λa=>(a f).elim⟩⟩⟩;by_cases g:l9 mL b;exact⟨4,λa=>(c a).elim,λ_=>⟨λa=>(d a).elim,λ_=>⟨λa=>(f a).elim,λ_=>⟨λ_=>rfl,λa=>(a g).elim⟩⟩⟩⟩;by_cases h:mW e.toNat b;exact⟨0,λa=>(c a).elim,λ_=>⟨λa=>(d a).elim,λ_=>⟨λa=>(f a).elim,λ_=>⟨λa=>(g a).elim,λ_=>⟨λa=>(a h).elim,λ_=>rfl⟩⟩⟩⟩⟩;exact⟨5,λa=>(c a).elim,λ_=>⟨λa=>(d a).elim,λ_=>⟨λa=>(f a).elim,λ_=>⟨λa=>(g a).elim,λ_=>⟨λ_=>rfl,λa=>(h a).elim⟩⟩⟩⟩⟩
def rF(d:World)(b:Option Addr)(a:List Ed)(e:Nat):Prop:=(b=N/\a=[]/\e=0)\/∃c,b=S c/\gh d (S c) a/\(a.length:Int)<=5864062014700
def rF.a{a w' b c d}(e:rF a b c d)(k:ae aa a w'):rF w' b c d:=e.imp id λ⟨f,g,h,i⟩=>⟨f,g,h.a k,i⟩
def rF.b{b c d e}(a:rF b c d e):gh b c d:=by obtain⟨_,a,_⟩|⟨f,a,g,_⟩:=a;exact Ur a;grind
def qT(f w':World)(d:Option Addr)(a:List Ed)(e:Option Addr)(b:Nat):Prop:=
 (d=N/\a=[]/\e=N/\b=0)\/∃c g,d=S g/\e=S ⟨c,0,N⟩/\f.heap.size<=c/\rE w' c (a++jV 8) b/\a.length+8<=b
def qT.b{a w' w1 b c d e}(f:qT a w' b c d e)(k:ae aa w' w1):qT a w1 b c d e:=
 f.imp id λ⟨g,h,i,j,l,m,n⟩=>⟨g,h,i,j,l,m.a k λo=>o,n⟩
def qT.a{h w' i c d e}(j:qT h w' i c d e):gh w' d c/\c.length<=e/\(d=N->e=0)/\∀a,ag d a->h.heap.size<=a/\a<w'.heap.size:=by
 obtain⟨k,f,g,b⟩|⟨a,r,k,f,g,b,s⟩:=j;rw[f,g,b];exact⟨Ur rfl,UF _,λ_=>rfl,λa l=>(b8 a l).elim⟩;rw[f];refine⟨?_,by omega,λm=>(by cases m),λt n=>by rw[cM.1 n];exact⟨g,b.b⟩⟩;by_cases o:c=[]
 exact Ur o;refine Up ⟨a,0,rfl,b.b,λp q u=>MQ b p q ?_⟩;rw[vR];grind
def Oy(g b e a)(t:rF a g b e):
 Calls prog 73 #[L g b.length e] a λf d=>∃p q,f= .returned (L p b.length q)/\qT a d g b p q/\ae aa a d:=by
 obtain⟨h,c,i⟩|⟨r,h,c,i⟩:=t;subst h c i;refine(FO a).mono ?_;rintro f d ⟨rfl,rfl⟩;exact⟨N,0,rfl,Ur ⟨rfl,rfl,rfl,rfl⟩,ae.a _ _⟩;subst h;by_cases s:b=[]
 subst s;refine(FN r e a).mono ?_;rintro f d ⟨j,k,rfl,l,m,n,o⟩;exact⟨_,k,rfl,Up ⟨j,r,rfl,rfl,l,m,by simpa using n⟩,o⟩;obtain c|⟨u,v,c,w,x⟩:=c;grind;have y:=Wn c;subst y;refine(FM u v e b a x w i (List.length_pos_iff.2 s)).mono ?_;rintro f d ⟨j,k,rfl,l,m,n,o⟩;exact⟨_,k,rfl,Up ⟨j,_,rfl,rfl,l,m,n⟩,o⟩
def RR{A c w0 f g C D m E e H K}(t:LS A c f g C D m E e H K){i j u v n}(U:qT w0 c i j n u)(M:rF c i j v)(O:∀b,w0.heap.size<=b->f b=0)(V:((e 1).n:Int)<1099511627776):
 Cr 75 #[P (S ⟨g,0,N⟩),L n j.length u,L i j.length v] c (B T) λo=>∃p q,LS A o p g C D m E q H K/\bZ q m<=bZ e m+1/\ae (λh=>ag n h\/f h≠0) c o/\(∀b,b<c.heap.size->¬ag n b->p b=f b):=by
 obtain⟨r,w,s,x⟩|⟨d,Q,r,w,s,x,W⟩:=U;obtain⟨k,R,y⟩|⟨Q,k,_⟩:=M;subst r w s x y;refine(He g (L N 0 0) c).mono ?_;rintro a o ⟨rfl,rfl⟩;exact⟨rfl,f,e,t,by omega,ae.a _ _,λ_ _ _=>rfl⟩;grind;obtain⟨k,_⟩|⟨aj,k,R,y⟩:=M;grind;rw[r]at k;have X:=Wn k;subst X;subst r w;have Y:∀l,l<c.heap.size->ap d l->f l=0:=λl _ a=>by rw[show l=d from a];exact O d s
 have ak:=t.h;have Z:g≠d:=λa=>by have:=O d s;rw[<-a]at this;omega
 refine(t.n (κ:=1) (by omega) (G:=ap d) Y λaa i h _ ab=>Hf g d u Q v j (e 1).a (e 1).n (e 1).c (e 1).V aa c i h Z ab x W R y V).mono ?_;rintro a o ⟨rfl,p,q,ac,ad,af,ah,_,z⟩;exact⟨rfl,p,q,ac,by rw[yY (by omega) ad af];exact UF _,z.d (λh _ a=>a.imp (λa=>by rw[show h=d from a];exact eN _ _) λa=>by omega),λb z ai=>ah b z λa=>ai (by rw[show b=d from a];exact eN _ _)⟩
def LS.C{t i p n u v w x y z o E c}(h:LS t i n u v w x (L o c.length E) y (ix o E c) z){e f na' nc'}(d:ae (ag o) i p)(A:bn i e)(C:bP i f)(G:∀a,e.c a->n a=0)(H:∀a,f.cE a≠(0,0,0)->n a=0)(R:∀a,e.c a->f.cE a=(0,0,0))(U:RV p 103 2 na' (c.length+1) nc' (m9 c++rk ⟨e,f⟩))(V:∀g,ag na' g->ag o g\/i.heap.size<=g):
 ∃tag',LS t (p.setCell ⟨u,1,N⟩ (L na' (c.length+1) nc')) tag' u v w x (L na' (c++[(⟨e,f⟩:Mp)]).length nc') y (ix na' nc' (c++[(⟨e,f⟩:Mp)])) z:=by
 classical
 obtain⟨tag',q⟩:∃tag':Nat->Nat,tag'=λa=>if e.c a then 22+4*c.length else if f.cE a≠(0,0,0)then 23+4*c.length else if a<i.heap.size then n a else if ag na' a then 18 else 0:=⟨_,rfl⟩
 have aj:=d.size;have r:∀a,a<i.heap.size->n a≠0->tag' a=n a:=λa d K=>by rw[q];simp only;rw[Us λb=>K (G a b),Us λb=>K (H a b),UG d]
 have W:∀a,e.c a->tag' a=22+4*c.length:=λa d=>by rw[q];simp only;rw[UG d]
 have X:∀a,f.cE a≠(0,0,0)->tag' a=23+4*c.length:=λa d=>by rw[q];simp only;rw[Us λb=>d (R a b),UG d]
 have k:=h.c.c;have Y:∀g,ag na' g->tag' g=18:=λg M=>by obtain b|b:=V g M;rw[r g (h.c.b.b g b) (by have:=k g b;omega)];exact k g b;rw[q];simp only;rw[Us (λl=>by have:=A.e l;omega),Us (λl=>by have:=C.h l;omega),Us (by omega),UG M]
 have m:∀a,p.heap.size<=a->tag' a=0:=λa ak=>by rw[q];simp only;rw[Us (λl=>by have:=A.e l;omega),Us (λl=>by have:=C.h l;omega),Us (by omega),Us λb=>by have:=U.b a b;omega]
 have Z:∀a,e.c a->¬ag o a:=λa d b=>by have:=G a d;have:=k a b;omega
 have aa:∀a,a<i.heap.size->ag o a->f.cE a=(0,0,0):=λa d b=>by apply UC;intro ab;have:=H a ab;grind
 have ac:ix na' nc' (c++[⟨e,f⟩]) p tag':=by
  refine⟨?_,Y,λD ad m=>?_⟩;rw[Uu,P3];assumption;by_cases af:D<c.length;rw[Ux af]at m;exact(h.c.a D ad m).a d (λa j s=>⟨λb=>by have:=k a b;omega,r a j (by omega)⟩);have O:=(Ul.1 m).1;rw[Uu]at O;have ah:D=c.length:=by simp only[VH]at O;omega
  rw[Ut (by omega)]at m;have Q:=Uo m;rw[UY]at Q;subst Q;rw[ah];exact⟨A.a d Z,C.g d aa,W,X⟩
 have ai:=h.b.d (C':=ql t y v w x (ix na' nc' (c++[⟨e,f⟩])) z (ix.d _ _ _) h.z) (tag':=tag') d (λa j b=>by have:=k a b;omega) (λa j b=>r a j (by omega)) m ⟨h.g.a d (λa j s=>⟨λb=>by have:=k a b;omega,r a j (by omega)⟩),ac,h.z _ _ _ _ _ h.e d λa j s=>⟨λb=>by have:=k a b;unfold zt at s;omega,r a j (by unfold zt at s;omega)⟩⟩ rfl;refine⟨tag',ix.d _ _ _,h.z,?_⟩;rw[show (c++[(⟨e,f⟩:Mp)]).length=c.length+1 by simp];exact ai.n 1 _ _ _ rfl
def PI:(prog.info? 103).map (λa=>(a.zero,a.size,a.bytes))=S (S (.agg #[P N,P N]),2,16):=by kernel_rfl
def OT(Z g aP l ak al D am an q K n)(W:LS Z g aP l ak al D (L q n.length K) am (ix q K n) an)(aY:hU D)(ab)(aZ:bZ am D<=ab)(a0:(n.length:Int)<=ab)(a1:∀bi∈n,iO bi.cP bi.D)(a2:(ab:Int)<1000000000)(ao t ap bj ar au k av aw ax u e f m)(bL:bj=L e f.length m)(X:rF g e f m)(ce:u.oneCell'=T):
 Cr 43 #[P (S ⟨l,0,N⟩),kq 11 ao t ap bj ar au k av aw ax u] g (B T) λh=>fe Z h l (ab+2):=by
 subst bL;obtain⟨r,E⟩:=ah f.length;obtain⟨ay,V⟩:=LM t f;have a3:=@af _ W.d;have cg(_:=()):∀a,ae aa g a->LS Z a aP l ak al D (L q n.length K) am (ix q K n) an:=λa s=>W.a s;have a4:=@zr _ _ _ _ _ _ _ aY aZ a0 a1 a2 E W.h.1;have aQ(_:=()):∀a,ae aa g a->Calls prog 73 #[L e r m] a λb h=>∃c d,b= .returned (L c r d)/\qT a h e f c d/\ae aa a h:=λa s=>by have:=Oy e f m a (X.a s);grind
 have ch(_:=()):∀a,ae aa g a->rF a e f m:=λa s=>X.a s;have aR(_:=()):∀G a c d,ae aa g G->ae aa G a->qT G a e f c d->Cr 75 #[P (S ⟨l,0,N⟩),L c r d,L e r m] a (B T) λh=>∃ac ad,LS Z h ac l ak al D (L q n.length K) ad (ix q K n) an/\bZ ad D<=bZ am D+1/\ae (λbk=>ag c bk\/aP bk≠0) a h/\(∀k,k<a.heap.size->¬ag c k->ac k=aP k):=λG a c d a5 s az=>by have:=RR (W.a (a5.c s)) az (X.a (a5.c s)) (λk i=>W.d k (UM a5.size i)) (by have:=(mh am D).1 1 (by omega);omega);rw[<-E]at this;exact this
 by_cases a6:ay=0
 .subst a6;obtain⟨o,rfl⟩:∃o:Nat,t=(o:Int):=⟨t.toNat,by
   have v:¬ia t f:=λbM=>by have:=V.1 bM;omega
   unfold ia at v;omega⟩
  have aA(_:=()):∀G a c d,qT G a e f c d->Calls prog 14 #[I J o,L c r d] a λw h=>∃x:Nt,w= .returned (.tuple #[P (S ⟨x.nb,0,N⟩),I J 0])/\sQ h x 0/\x.a=AN.i o (gK f)/\ae aa a h/\∀k,x.c k->a.heap.size<=k:=λG a c d az=>by have v:=az.a;rw[E];exact KQ o f c d a v.1 v.2.1 v.2.2.1 V
  have aB(_:=()):∀a,ae aa g a->Calls prog 83 #[I J o,L e r m] a λw h=>∃u:Dn,w= .returned (.tuple #[P (S ⟨u.b,0,N⟩),I J 0])/\bP h u/\u.a=AN.i o (gK f)/\ae aa a h/\∀k,u.cE k≠(0,0,0)->a.heap.size<=k:=λa s=>by rw[E];exact Ml o f e m a (X.a s).b V
  have bl:=@af _ V;rw[<-E];clear W aY aZ a0 a1 a2 X V E;go_enter func43,ntmps43;go_wp2_with fail;obtain⟨y,M⟩:=ah (g.alloc (.cells #[I J 11,I J ao,I J o,I J ap,L e r m,B ar,I J au,I J k,I J av,I J aw,B ax,u] 80));have aD:aq y g.heap.size #[I J 11,I J ao,I J o,I J ap,L e r m,B ar,I J au,I J k,I J av,I J aw,B ax,u] 80:=by rw[M];exact aq.e _ _ _
  have aE:ae aa g y:=by rw[M];exact(ae.a aa g).b _
  rw[<-M];have H:=@aC _ _ aD aE;clear M aD aE;refine Uq (aQ () y H.2) ?_;rintro w ai ⟨c,d,rfl,aF,Y⟩;have z:=@aC _ _ aF Y;have O:=H.1.c Y λb=>b;have Q:=O.a 2;have p:=O.a 4;simp at Q p;have j:=O.b;clear aF Y aQ O;go_wp2_with fail;refine Uq (aA () y ai c d z.1) ?_;rintro w aG ⟨x,rfl,bm,bo,A,bp⟩;have aj:=@gA _ _ _ _ bm bo A bp;have Q:=(A.f _ 2 j λb=>b).trans Q;have p:=(A.f _ 4 j λb=>b).trans p;have j:=Un j A.size;clear bm bo A bp aA;obtain⟨bq,a7⟩:=ah x.nb;rw[<-a7];have bN:=@af _ a7;clear a7;go_wp2_with fail;refine Uq (aB () aG ((H.2.c z.2).c aj.2.2.1)) ?_;rintro w aH ⟨aI,rfl,br,bs,R,bt⟩;have aS:=@gA _ _ _ _ br bs R bt;have p:=(R.f _ 4 j λb=>b).trans p;have j:=Un j R.size;clear br bs R bt aB;obtain⟨bu,a8⟩:=ah aI.b;rw[<-a8];have bO:=@af _ a8;clear a8;go_wp2_with fail;have aJ:=@af _ (aj.2.2.1.c aS.2.2.1);refine Uq (aR () y aH c d H.2 (z.2.c aJ) (z.1.b aJ)) ?_;rintro w U ⟨rfl,ac,ad,C,aK,aL,aM⟩;have bv:=@gA _ _ _ _ C aK aL aM;have aT:=C.b.a.a 1;have bw:=C.b.a.d 1;simp at aT;have aU:=C.h.1;have bx:¬ag q l:=λb=>by have v:=C.c.c l b;have bz:=C.h.2;omega
  clear C aK aL aM aR Q p j;obtain⟨aV,aW⟩:=ah n.length;have a9(_:=()):RV U 103 2 q aV K (m9 n)/\(aV:Int)<1000000000:=⟨by rw[aW];exact bv.1.c.b,by have:=a4;omega⟩
  rw[<-aW]at aT;have bQ:=@cf _ _ _ aW bN bO;clear aW;go_wp2_with (at_builtin;refine jX _ rfl (.tmp 54) (.tmp 58) 63 rfl 103 (.agg #[P N,P N]) 2 16 underlying63 PI rfl q aV K rfl (m9 n) (a9.1.c _) ⟨U.heap.size,0,N⟩ 1 1 (by omega) rfl [P (S ⟨bq,0,N⟩),P (S ⟨bu,0,N⟩)] rfl (gJ U [P (S ⟨bq,0,N⟩),P (S ⟨bu,0,N⟩)] 103 _ rfl) (by intro ci bA;simp at bA;obtain rfl|rfl:=bA<;>rfl) (by have:=a9.2;omega) (by have:=a9.2;omega) ?_;intro na' nc' ba bB bC bD;have aN:ae (ag q) U ba:=((ae.a (ag q) U).b _).c bD;have cj:=(aN.f l 1 aU bx).trans aT;have ck:=(aN.h l 1 aU bx).trans bw;have cl:l<ba.heap.size:=Un aU aN.size);have bR(_:=()):fe Z (ba.setCell ⟨l,1,N⟩ (L na' (aV+1) nc')) l (ab+2):=by
   obtain⟨bb,bS,bT,bc,bU,bV,bW⟩:=a4;obtain⟨bE,bX,bY⟩:=bQ;obtain⟨aO,bd,b0,b1⟩:=aj;obtain⟨bF,b2,bG,b3⟩:=aS;obtain⟨b4,cm,be,b5⟩:=bv;have cn:=wK bl;have b6:=z.1.a.2.2.2;have C:=H.2.size;have aK:=z.2.size;have aL:=b0.size;have aM:=bG.size;have bH:∀k,ai.heap.size<=k->¬ag c k:=λk i b=>by have:=(b6 k b).2;omega
   have bI:∀k,ai.heap.size<=k->k<aH.heap.size->ac k=0:=λk v bz=>by rw[b5 k bz (bH k v)];exact a3 () k (by omega)
   have bf:∀k,x.c k->ai.heap.size<=k/\k<aG.heap.size:=λk i=>⟨b1 k i,aO.c.e i⟩
   have bg:∀k,aI.cE k≠(0,0,0)->aG.heap.size<=k/\k<aH.heap.size:=λk i=>⟨b3 k i,bF.h i⟩
   have b7:=aO.c.a bG λ_ _ b=>b;have b8:bn U x:=b7.a be λk i b=>by have:=bf k i;obtain b|b:=b;grind;exact b (a3 () k (by omega))
   have b9:bP U aI:=bF.g be λk i b=>by apply UC;intro bh;have:=bg k bh;obtain b|b:=b;exact bH k (by omega) b;exact b (a3 () k (by omega))
   have co:=be.size;obtain⟨ca,bJ⟩:=b4.C aN b8 b9 (λk i=>by have:=bf k i;exact bI k this.1 (by omega)) (λk i=>by have:=bg k i;exact bI k (by omega) this.2) (λk i=>by
    apply UC;intro bh;have:=bf k i;have:=bg k bh;omega) (na':=na') (nc':=nc') (by rw[<-bE];unfold rk;simp only;rw[<-bX,<-bY];exact bB) (λcp bK=>by
    obtain⟨b,_⟩|⟨b,_⟩:=bC;grind;rw[b]at bK;have:=cM.1 bK;simp only[Uv]at this;exact Up (by omega))
   rw[<-bE]at bJ;have cb:=Sm.Kb bl;have cc:(AN.i o (gK f)).bd.length=o:=by simp[AN.i]
   have cq:iO x aI:=by
    have b:x.aK.length=o:=by rw[<-cc,<-bd,bn.b.2]
    refine⟨by rw[bd,b2],AX aO.d (by omega),aO.e,aO.b,by rw[b,bd];exact cb⟩
   refine⟨na',nc',n++[⟨x,aI⟩],⟨ca,ak,al,D,ad,an,bJ,bb,by omega⟩,λcd aX=>?_,by rw[Uu];simp only[VH];omega⟩;obtain aX|aX:=UP.1 aX;exact bc cd aX;grind
  clear bB bC bD aN aT bw aU;go_wp2;go_ret;simp_all
 .have aA(_:=()):∀G a c d,qT G a e f c d->Cr 14 #[I J t,L c r d] a (.tuple #[P N,I J ay]) λh=>ae aa a h:=λG a c d az=>by have v:=az.a;rw[E];exact KR t f c d a v.1 v.2.1 ay V a6
  have aB(_:=()):∀a,ae aa g a->Cr 83 #[I J t,L e r m] a (.tuple #[P N,I J ay]) λh=>ae aa a h:=λa s=>by rw[E];exact Mm t f e m a (X.a s).b ay V a6
  rw[<-E];clear W aY aZ a0 a1 a2 X V E;go_enter func43,ntmps43;go_wp2_with fail;obtain⟨y,M⟩:=ah (g.alloc (.cells #[I J 11,I J ao,I J t,I J ap,L e r m,B ar,I J au,I J k,I J av,I J aw,B ax,u] 80));have aD:aq y g.heap.size #[I J 11,I J ao,I J t,I J ap,L e r m,B ar,I J au,I J k,I J av,I J aw,B ax,u] 80:=by rw[M];exact aq.e _ _ _
  have aE:ae aa g y:=by rw[M];exact(ae.a aa g).b _
  rw[<-M];have H:=@aC _ _ aD aE;clear M aD aE;refine Uq (aQ () y H.2) ?_;rintro w ai ⟨c,d,rfl,aF,Y⟩;have z:=@aC _ _ aF Y;have O:=H.1.c Y λb=>b;have Q:=O.a 2;have p:=O.a 4;simp at Q p;have j:=O.b;clear aF Y aQ O;go_wp2_with fail;refine Uq (aA () y ai c d z.1) ?_;rintro w aG ⟨rfl,A⟩;have aj:=@af _ A;have Q:=(A.f _ 2 j λb=>b).trans Q;have p:=(A.f _ 4 j λb=>b).trans p;have j:=Un j A.size;clear A aA;go_wp2_with fail;refine Uq (aB () aG ((H.2.c z.2).c aj)) ?_;rintro w aH ⟨rfl,R⟩;have aS:=@af _ R;have p:=(R.f _ 4 j λb=>b).trans p;have j:=Un j R.size;clear R aB;go_wp2_with fail;have aJ:=@af _ (aj.c aS);refine Uq (aR () y aH c d H.2 (z.2.c aJ) (z.1.b aJ)) ?_;rintro w U ⟨rfl,ac,ad,C,aK,aL,aM⟩;have bR(_:=()):fe Z U l (ab+2):=by obtain⟨bb,bS,bT,bc,bU,bV,bW⟩:=a4;exact⟨q,K,n,⟨ac,ak,al,D,ad,an,C,bb,by omega⟩,bc,by omega⟩
  clear C aK aL aM aR Q p j;go_wp2;go_ret;simp_all
end Go.Proofs.YtlfijfodklhplaaGreat
