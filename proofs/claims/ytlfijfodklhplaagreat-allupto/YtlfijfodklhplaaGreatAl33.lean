import Derived.Test.YtlfijfodklhplaaGreatAl32
set_option maxRecDepth 100000
set_option maxHeartbeats 32000000
set_option linter.all false
open Go.RowKit Go.Proofs.Tryz
open Go.Value renaming int->I,slice->L,pointer->P,bool->B
open Go.IntKind renaming i64->J
open Option renaming some->S,none->N
open Bool renaming true->T,false->F
namespace Go.Proofs.YtlfijfodklhplaaGreat
abbrev Lp.v(a:Lp):Value:= .agg #[P (S ⟨a.b,0,N⟩),P (S ⟨a.a,0,N⟩)]
def Hm{e k n f}(o:RV e 76 4 k f.length n (cH f))(c d)(l:f[c]?=S d):∃a b,k=S ⟨a,b,N⟩/\e.cell? ⟨a,b+c*4,N⟩=S (.int J d.a)/\e.cell? ⟨a,b+c*4+1,N⟩=S (.int J d.c)/\e.cell? ⟨a,b+c*4+2,N⟩=S (.int J d.b)/\e.cell? ⟨a,b+c*4+3,N⟩=S (B d.d):=by
 obtain⟨r,s,g⟩:=o;have t:=(Ul.1 l).1;obtain⟨_,g,_⟩|⟨a,b,g,p⟩:=g;omega;have h:∀i j,(dy d)[i]?=S j->e.cell? ⟨a,b+c*4+i,N⟩=S j:=λi j m=>by have q:=(Ul.1 m).1;rw[UI];exact p.a _ _ ((yJ f c d l i q).trans m)
 exact⟨a,b,g,h 0 _ rfl,h 1 _ rfl,h 2 _ rfl,h 3 _ rfl⟩
def EQ(an V v ai aw ax W ay w az aA)(o:LS an V v ai aw ax W ay w az aA)(G b)(H:W[G]?=S b)(X:Lk b.e b.r)(A l ao)(s:lR V A l ao)(Y:∀i ap,A=S ⟨i,ap,N⟩->i<V.heap.size->l≠[]->v i=9\/(2<=v i/\v i<=8))(f)(Q:Is l f)(bG:((w 0).n:Int)<1099511627776)(bH:((w 2).n:Int)<1099511627776)(bI:(b.e.aA.length:Int)<1099511627000):
 Cr 86 #[P (S ⟨ai,0,N⟩),b.v,L A l.length ao] V (B T) λK=>∃ar M x,LS an K ar ai aw ax (W.set G x) ay M az aA/\x.b=b.b/\x.a=b.a/\x.e=b.e.d f/\Lk x.e x.r/\(M 0).n<=(w 0).n+1/\(M 2).n=(w 2).n+1/\(∀j,j≠0->j≠2->M j=w j)/\(∀c,c<V.heap.size->v c≠0->ar c=v c)/\V.heap.size<=K.heap.size:=by
 have C:=@nh _ _ _ _ _ _ o H X s Y Q;have a5:=@cf _ _ _ bG bH bI;obtain⟨aR,bl⟩:=ah b.b;obtain⟨aH,bm⟩:=ah b.a;have aI:=@aC _ _ bl bm;obtain⟨cA,bn⟩:=ah l.length;have b2:=@af _ bn;simp only[Lp.v];rw[<-bl,<-bm,<-bn];clear o H X s Y Q bG bH bI bl bm bn;go_enter func86,ntmps86;go_wp2_with fail;obtain⟨m,a6⟩:=ah (V.alloc (.cells #[P (S ⟨aR,0,N⟩),P (S ⟨aH,0,N⟩)] 98));have aJ:aq m V.heap.size #[P (S ⟨aR,0,N⟩),P (S ⟨aH,0,N⟩)] 98:=by rw[a6];exact aq.e _ _ _
 have a7:ae aa V m:=by rw[a6];exact(ae.a aa V).b _
 rw[<-a6];obtain⟨bo,bJ⟩:=ah V.heap.size;rw[<-bJ]at aJ|-;have bp:=@aC _ _ aJ ((C ()).1.d bo (by omega));have b3:=@af _ a7.size;have bq(_:=()):LS an m v ai aw ax W ay w az aA/\W[G]?=S b/\Lk b.e b.r/\lR m A l ao/\(∀i ap,A=S ⟨i,ap,N⟩->i<m.heap.size->l≠[]->v i=9\/(2<=v i/\v i<=8))/\Is l f:=by obtain⟨o,H,X,s,Y,Q⟩:=C ();refine⟨o.a a7,H,X,s.a a7 λ_ _ _ _ _ d=>d,λi ap O aS Z=>Y i ap O ?_ Z,Q⟩;obtain⟨k,_⟩|⟨aY,k,ab,_⟩:=s;rw[k]at O;cases O;rw[k]at O;cases O;obtain ab|⟨bK,b4,ab,aS,_⟩:=ab;exact(Z ab).elim;cases ab;exact aS
 have bL:=@af _ (Oz A l ao m bq.2.2.2.1);clear a6 aJ a7 bJ C;have C:=@bq;clear bq;rw[b2];refine Uq bL ?_;rintro d D ⟨aT,aB,rfl,ac,R⟩;have aK:=@aC _ _ ac R;have aZ(_:=()):Calls prog 131 #[P (S ⟨aR,0,N⟩),aT] D λb5 K=>∃aL y,b5= .returned aL/\sZ D K aR y aL (b.e.b f)/\bO K nj 147 aR 0 (b.e.d f) y/\fG D K aR b.p y:=by obtain⟨o,H,X,s,Y,Q⟩:=C ();rw[aI.1];exact NY nj 147 b.b 0 b.e b.p aT l f D ((o.a R).f H).iJ (ac.b s.d s.c) Q a5.2.2
 have bM:=(bp.1.c R λd=>d).a 0;simp at bM;clear ac R bL;go_wp2_with fail;refine Uq aZ ?_;rintro d z ⟨aL,y,rfl,⟨E,aD,rfl,aM,t⟩,aN,aj⟩;have bN(_:=()):z.cell? ⟨bo,1,N⟩=S (P (S ⟨aH,0,N⟩)):=by
  have b6:=bp.1.c aK.2 λd=>d;have a0:=(((C ()).1.a aK.2).f (C ()).2.1)
  have aO:=b6.c aj.c (λd=>by rw[aI.1]at d;have:=a0.tp bo d.a;have:=bp.2;omega);have:=aO.a 1;simpa using this
 have aP(_:=()):∃ak,LS an z ak ai aw ax (W.set G {b with e:=b.e.d f,p:=y}) ay w az aA/\(∀c,c<D.heap.size->ak c=v c)/\RV z 76 4 E (b.e.b f).length aD (cH (b.e.b f))/\(∀a,ag E a->D.heap.size<=a/\ak a=0)/\rS m z A l aT aB/\lR z A l ao/\D.heap.size<=z.heap.size:=by
  obtain⟨o,H,X,s,Y,Q⟩:=C ();obtain⟨ac,R⟩:=aK;obtain⟨br,aU⟩:=aI;rw[br]at aN aj t;have bP:=o.a R;obtain⟨ak,aE,ad,al⟩:=bP.o H aN aj;have aV:∀c,ma b.b b.p c->v c=20+4*G:=λc u=>(bP.f H).tp c u.a;have u:=aj.c;refine⟨ak,aE,ad,aM,λa g=>⟨(t a g).1,al a (t a g).1 (t a g).2⟩,ac.a u λh a8 g d=>?_,(s.a R λ_ _ _ _ _ d=>d).a u λi ap O b7 Z d=>?_,u.size⟩;have am:=aV h d;obtain⟨_,_,_,k⟩|⟨a,bs,aY,_,_,bt,_,_,_,aQ⟩:=ac;exact k h g;have:=(aQ h).1 g;have:=o.d h (by omega);omega;have am:=aV i d;have aJ:i<m.heap.size:=by obtain k|k:=Xt i m.heap.size;exact k;have:=o.d i k;omega
  have:=Y i ap O aJ Z;omega
 clear aM t aN aj aZ;obtain⟨ak,bQ⟩:=aP;have aP:=@af _ bQ;clear bQ;have a9(_:=()):(W.set G {b with e:=b.e.d f,p:=y})[G]?=S {b with e:=b.e.d f,p:=y}:=UQ (Ul.1 (C ()).2.1).1;have aZ(_:=()):Calls prog 132 #[P (S ⟨aH,0,N⟩),L A l.length ao] z λh K=>∃E aD aF y,h= .returned (L E (b.e.b f).length aD)/\RV K 76 4 E (b.e.b f).length aD (cH (b.e.b f))/\(∀a,ag E a->z.heap.size<=a/\¬hJ aH y a)/\cV K aH aF y/\Lk (b.e.d f) aF/\fR z K aH b.q y:=by obtain⟨o,H,X,s,Y,Q⟩:=C ();obtain⟨aE,ad,aM,t,ac,aO,ba⟩:=aP;rw[aI.2];have a0:=(aE.f a9).js;have bR:=(o.f H).iJ;exact G4 b.a b.e b.r b.q f _ z a0 X (aO.b Q) (λcB b8=>by subst b8;exact Q.1) bR.kn bR.lp (by have:=a5.2.2;rw[<-X.b];omega)
 clear bM;have b9:=bN;clear bN;go_wp2_with fail;refine Uq aZ ?_;rintro d n ⟨a1,bu,aF,bv,rfl,aM,t,aN,bS,aj⟩;have au(_:=()):∃U,LS an n U ai aw ax ((W.set G {b with e:=b.e.d f,p:=y}).set G {b with e:=b.e.d f,p:=y,r:=aF,q:=bv}) ay w az aA/\(∀c,c<z.heap.size->U c=ak c)/\RV n 76 4 E (b.e.b f).length aD (cH (b.e.b f))/\RV n 76 4 a1 (b.e.b f).length bu (cH (b.e.b f))/\(∀a,ag E a->D.heap.size<=a/\a<n.heap.size/\U a=0)/\(∀a,ag a1 a->D.heap.size<=a/\a<n.heap.size/\U a=0)/\rS m n A l aT aB/\lR n A l ao/\z.heap.size<=n.heap.size/\Lk (b.e.d f) aF:=by
  obtain⟨o,H,X,s,Y,Q⟩:=C ();obtain⟨a2,R⟩:=aK;obtain⟨aE,ad,bb,a3,ac,aO,ba⟩:=aP;obtain⟨br,aU⟩:=aI;rw[aU]at aN aj t;have a0:=aE.f a9;obtain⟨U,bw,al,ca⟩:=aE.p a9 aN aj;have aV:∀c,mI b.a b.q c->ak c=21+4*G:=λc u=>a0.tr c (Ur u);have u:=aj.b;have cb:=R.size;have cc:∀h,h<z.heap.size->aB h->ak h=0:=λh a8 g=>by obtain⟨_,_,_,k⟩|⟨a,bs,aY,_,_,bt,_,_,bx,aQ⟩:=a2;exact(k h g).elim;have d:=(aQ h).1 g;rw[ad h (by omega)];exact o.d h (by omega)
  refine⟨U,bw,al,bb.a u (λa g d=>by have:=aV a d;have:=(a3 a g).2;omega),aM,λa g=>?_,λa g=>⟨by have:=(t a g).1;omega,aM.b a g,ca a (t a g).1 (t a g).2⟩,ac.a u (λh a8 g d=>by have:=aV h d;have:=cc h a8 g;omega),aO.a u λi ap O b7 Z d=>?_,u.size,bS⟩;have aS:=bb.b a g;exact⟨(a3 a g).1,by have:=u.size;omega,by rw[al a aS];exact(a3 a g).2⟩;have am:=aV i d;have aJ:i<m.heap.size:=by obtain k|k:=Xt i m.heap.size;exact k;obtain bT|bT:=Xt i D.heap.size;have:=o.d i k;have:=ad i bT;omega;obtain⟨k,_⟩|⟨aY,k,ab,_⟩:=s;rw[k]at O;cases O;rw[k]at O;cases O;obtain ab|⟨bK,b4,ab,aS,_⟩:=ab;exact(Z ab).elim;cases ab;omega
  have:=Y i ap O aJ Z;have:=ad i (by omega);omega
 clear aM t aN aj bS aZ b9;obtain⟨U,bz⟩:=au;have au(_:=()):LS an n U ai aw ax (W.set G {b with e:=b.e.d f,p:=y,r:=aF,q:=bv}) ay w az aA/\(∀c,c<z.heap.size->U c=ak c)/\RV n 76 4 E (b.e.b f).length aD (cH (b.e.b f))/\RV n 76 4 a1 (b.e.b f).length bu (cH (b.e.b f))/\(∀a,ag E a->D.heap.size<=a/\a<n.heap.size/\U a=0)/\(∀a,ag a1 a->D.heap.size<=a/\a<n.heap.size/\U a=0)/\rS m n A l aT aB/\lR n A l ao/\z.heap.size<=n.heap.size/\Lk (b.e.d f) aF:=by rw[Xu]at bz;exact bz
 clear bz;have bA(_:=()):(∀h,h<n.heap.size->aB h->U h=0)/\(∀h,aB h->h<D.heap.size):=by obtain⟨o,H,X,s,Y,Q⟩:=C ();obtain⟨a2,R⟩:=aK;obtain⟨aE,ad,bb,a3,ac,aO,ba⟩:=aP;obtain⟨bw,al,_⟩:=au;refine⟨λh a8 g=>?_,λh g=>?_⟩;obtain⟨_,_,_,k⟩|⟨a,bs,aY,_,_,bt,_,_,bx,aQ⟩:=a2;exact(k h g).elim;have d:=(aQ h).1 g;rw[al h (by omega),ad h (by omega)];exact o.d h (by omega);obtain⟨_,_,_,k⟩|⟨a,bs,aY,_,_,bt,_,_,bx,aQ⟩:=a2;exact(k h g).elim;rw[(aQ h).1 g];exact bx
 have bU:=@af _ (RT an n au.1 A l ao aT aB m au.2.2.2.2.2.2.1 au.2.2.2.2.2.2.2.1 bA.1 a5.1);go_wp2_with fail;refine Uq bU ?_;rintro d aG ⟨rfl,bc,bB,bd,be,a4,bV,bW,bf⟩;have bg(_:=()):LS an aG bc ai aw ax (W.set G {b with e:=b.e.d f,p:=y,r:=aF,q:=bv}) ay bB az aA/\(bB 0).n<=(w 0).n+1/\(∀j,j≠0->bB j=w j)/\RV aG 76 4 E (b.e.b f).length aD (cH (b.e.b f))/\RV aG 76 4 a1 (b.e.b f).length bu (cH (b.e.b f))/\(∀a,ag E a->a<aG.heap.size->bc a=0)/\(∀c,c<m.heap.size->v c≠0->bc c=v c)/\m.heap.size<=aG.heap.size:=by
  obtain⟨a2,R⟩:=aK;obtain⟨aE,ad,bb,a3,ac,aO,ba⟩:=aP;obtain⟨bw,al,bh,bX,t,cd,_,_,cC,_⟩:=au;have Z:∀a,D.heap.size<=a->¬aB a:=λa g d=>by have:=bA.2 a d;omega
  have cb:=R.size;refine⟨bd,be,a4,bh.a bf λa g d=>?_,bX.a bf λa g d=>?_,λa g aS=>?_,λc u aW=>?_,by have:=bf.size;omega⟩;have am:=t a g;obtain d|d:=d;exact Z a am.1 d;omega;have am:=cd a g;obtain d|d:=d;exact Z a am.1 d;omega;have am:=t a g;rw[bV a am.2.1 (Z a am.1)];exact am.2.2;have br:=ad c (by omega);have aU:=al c (by omega);rw[bW c (by omega) (by omega)];omega
 have ce:=@af _ (au.2.2.2.2.2.2.2.2.2);clear bd be a4 bV bW bf bU bA au aP aK a9;obtain⟨av,bC⟩:=ah (b.e.b f);have bY(_:=()):av.length<=4:=by rw[bC];exact Cs b.e f ((C ()).1.f (C ()).2.1).iJ.ft
 rw[<-bC]at bg|-;clear bC;have bD(_:=()):∀bi,ae aa aG bi->Cr 133 #[P (S ⟨ai,2,N⟩),L E av.length aD] bi (.tuple #[]) λK=>∃ar M x,LS an K ar ai aw ax (W.set G x) ay M az aA/\x.b=b.b/\x.a=b.a/\x.e=b.e.d f/\Lk x.e x.r/\(M 0).n<=(w 0).n+1/\(M 2).n=(w 2).n+1/\(∀j,j≠0->j≠2->M j=w j)/\(∀c,c<m.heap.size->v c≠0->ar c=v c)/\m.heap.size<=K.heap.size:=λbi bE=>by obtain⟨bd,be,a4,bh,bX,t,cg,ba⟩:=bg;have bZ:=bd.a bE;have ch:∀aX,aX<bi.heap.size->ag E aX->bc aX=0:=λaX _ s=>t aX s (bh.b aX s);have cD:=bZ.h;have aU:=a4 2 (by omega);refine(bZ.j (κ:=2) (by omega) (bh.a bE λ_ _ d=>d) ch (show (av.length:Int)<=1000 by have:=bY;omega) (by rw[aU];exact a5.2.1)).mono ?_;rintro d ci ⟨rfl,ar,M,cj,ck,b0,ad,al,cl⟩;have cE:=cl.size;have cF:=bE.size;refine⟨rfl,ar,M,_,cj,rfl,rfl,rfl,ce,?_,by rw[ck,aU],λj aW cm=>(b0 j cm).trans (a4 j aW),λc u aW=>?_,by omega⟩;rw[b0 0 (by omega)];exact be;have:=cg c u aW;rw[al c (by omega) (by omega)];exact this
 go_wp2_with fail;go_loopw [11,12] (λcn aL wr=>∃j bj:Nat,j<=av.length/\aL= .int J j/\cn=B T/\wr=aG.drewN bj) λ_ aL _=>av.length-(intOf aL).toNat;case atStart=>exact⟨0,0,by omega,rfl,by simp,rfl⟩
 case round=>
  obtain⟨j,bj,cG,rfl,rfl,rfl⟩:=hrel;by_cases co:j<av.length
  .obtain⟨bk,bF⟩:∃bk,av[j]?=S bk:=⟨_,Um co⟩
   obtain⟨a,cI,rfl,cJ,cK,cL,cM⟩:=Hm bg.2.2.2.1 j bk bF;obtain⟨cN,cO,rfl,cP,bK,cQ,cR⟩:=Hm bg.2.2.2.2.1 j bk bF;have cS:(j:Int)<av.length:=by omega
   have cT:(j:Int)<4:=by have:=bY;omega
   clear bF bD;go_wp2_with fail;go_quiet (fail);go_wp2;exact⟨⟨j+1,bj+nq,by omega,by go_num,by simp,rfl⟩,by simp[intOf];omega⟩
  .have cp:j=av.length:=by omega
   subst cp;go_wp2_with fail;refine Uq (bD () _ ((ae.a aa aG).drewN bj)) ?_;rintro d ci ⟨rfl,b1⟩;have cq:=@af _ b1;clear b1 bD;go_wp2;go_ret;obtain⟨ar,M,x,cr,cs,ct,cu,cv,cw,cx,cy,cz,cU⟩:=cq;have cW:=b3;exact⟨rfl,ar,M,x,cr,cs.trans aI.1.symm,ct.trans aI.2.symm,cu,cv,cw,cx,cy,λc u aW=>cz c (by omega) aW,by omega⟩
structure jP(k:Option Addr)(m:Nat)(g:List (Nat×Nat))(h:List Fr.ff)(w:World)(tag:Nat->Nat):Prop where
 c:RV w 56 1 k h.length m (pI g h)
 b:g.length=h.length
 a:∀(i:Nat)(f:Nat×Nat)(j:Fr.ff),g[i]?=S f->h[i]?=S j->gp w f.1 (Fr.bi j) f.2/\ee j<=f.2
 e:∀l,ag k l->tag l=4
 d:∀(i:Nat)(f:Nat×Nat),g[i]?=S f->tag f.1=5
structure om(k:Option Addr)(o:Nat)(h:List Nat)(j:List Fr.ff)(l:Nat)(w:World)(tag:Nat->Nat):Prop where
 a:RV w 56 1 k j.length o (oU h j)
 c:h.length=j.length
 f:h.Nodup
 b:∀(g i:Nat)(m:Fr.ff),l<=g->h[g]?=S i->j[g]?=S m->eB w i (Fr.bi m) 10
 d:∀n,ag k n->tag n=2
 e:∀(g i:Nat),l<=g->h[g]?=S i->tag i=3
def jP.f{g h c d w tag}(e:jP g h c d w tag){a:Nat}{b}(f:c[a]?=S b):b.1<w.heap.size:=by
 have j:=(Ul.1 f).1;have i:a<d.length:=by have:=e.b;omega
 exact(e.a a b _ f (Um i)).1.b
def om.g{h i c d e w tag}(f:om h i c d e w tag){a b}(j:e<=a)(g:c[a]?=S b):b<w.heap.size:=by
 have l:=(Ul.1 g).1;have k:a<d.length:=by have:=f.c;omega
 exact(f.b a b _ j g (Um k)).c
def yO(e o f p):oJ (jP e o f p):=λg w w' tag h c i j=>by have k:∀a,ag e a->¬g a/\h a=tag a:=λa b=>j a (c.c.b a b) (by have:=c.e a b;unfold zt;omega);have l:∀(d:Nat)(a:Nat×Nat),f[d]?=S a->¬g a.1/\h a.1=tag a.1:=λd a b=>j a.1 (c.f b) (by have:=c.d d a b;unfold zt;omega);exact⟨c.c.a i λa b=>(k a b).1,c.b,λd a m b n=>⟨(c.a d a m b n).1.a i (l d a b).1,(c.a d a m b n).2⟩,λa b=>(k a b).2.trans (c.e a b),λd a b=>(l d a b).2.trans (c.d d a b)⟩
def By(f o g p h):oJ (om f o g p h):=λi w w' tag j c k l=>by have m:∀a,ag f a->¬i a/\j a=tag a:=λa b=>l a (c.a.b a b) (by have:=c.d a b;unfold zt;omega);have n:∀(d a:Nat),h<=d->g[d]?=S a->¬i a/\j a=tag a:=λd a e b=>l a (c.g e b) (by have:=c.e d a e b;unfold zt;omega);exact⟨c.a.a k λa b=>(m a b).1,c.c,c.f,λd a q e b r=>(c.b d a q e b r).a k (n d a e b).1,λa b=>(m a b).2.trans (c.d a b),λd a e b=>(n d a e b).2.trans (c.e d a e b)⟩
def wP{Z a}(h:oJ Z)(i:oJ a):oJ (λw b=>Z w b/\a w b):=λc w w' tag d e f g=>⟨h c w w' tag d e.1 f g,i c w w' tag d e.2 f g⟩
def T9:oJ (λ_ _=>True):=λ_ _ _ _ _ _ _ _=>VU
section
variable {W0 w w' : World} {tag : Nat → Nat} {yb : Nat} {ea : Option Addr} {ec : Nat} {l : List Lp} {p1 : Value} {R : Nat → Rw} {Y Z : World → (Nat → Nat) → Prop}
def LS.E(j:LS W0 w tag yb ea ec l p1 R Y Z){k b}(v:l[k]?=S b)(H:cV w' b.a b.r.d {b.q with fa:=N,fc:=0,gs:=[]})(e:ae (ap b.a) w w'):
 ∃tag',LS W0 w' tag' yb ea ec (l.set k {b with r:=b.r.d,q:= {b.q with fa:=N,fc:=0,gs:=[]}}) p1 R Y (jP b.q.fa b.q.fc b.q.gs b.r.bD):=by
 classical
 have d:=j.f v;obtain⟨tag',x⟩:∃tag':Nat->Nat,tag'=λa=>if ag b.q.fa a then 4 else if ∃h,(a,h)∈b.q.gs then 5 else tag a:=⟨_,rfl⟩
 have m:∀a,tag a≠21+4*k->tag' a=tag a:=λa e=>by have A:¬ag b.q.fa a:=λc=>e (d.tr a (Ur (Up (Up (Up c)))));have C:¬∃h,(a,h)∈b.q.gs:=λc=>e (d.tr a (Up c));grind
 have K:∀a,ag b.q.fa a->tag' a=4:=λa e=>by rw[x];simp only;rw[UG e]
 have M:∀a h,(a,h)∈b.q.gs->tag' a=5:=λa h e=>by rw[x];simp only;rw[Us λc=>d.js.c a h e (Up (Up (Up c))),UG ⟨h,e⟩]
 have O:∀a,hJ b.a {b.q with fa:=N,fc:=0,gs:=[]} a->tag' a=21+4*k/\hJ b.a b.q a:=λa g=>by
  have D:a=b.a\/ag b.q.sa a\/ag b.q.ka a:=by obtain(g|g|g|g)|⟨h,g⟩:=g;grind;grind;grind;exact(b8 a g).elim;simp at g
  have y:mI b.a b.q a:=by obtain c|c|c:=D;exact Ur c;exact Up (Ur c);exact Up (Up (Ur c))
  refine⟨?_,Ur y⟩;have A:¬ag b.q.fa a:=λc=>by obtain n|n|n:=D;subst n;exact d.js.d c;exact d.js.m a n c;exact d.js.l a n c
  have C:¬∃h,(a,h)∈b.q.gs:=λ⟨h,c⟩=>d.js.c a h c y;rw[x];simp only;rw[Us A,Us C];exact d.tr a (Ur y)
 have o:∀a,ap b.a a->tag a=21+4*k:=λa c=>by rw[show a=b.a from c];exact(d.tr b.a (Ur (Ur rfl)))
 have Q:qF w' tag' ea ec (l.set k {b with r:=b.r.d,q:= {b.q with fa:=N,fc:=0,gs:=[]}}):=by have u:=j.g;refine⟨?_,λf i=>?_,λp U s=>?_⟩;rw[UA,yr l k b {b with r:=b.r.d,q:= {b.q with fa:=N,fc:=0,gs:=[]}} v rfl rfl];exact u.mu.a e (λf i c=>by have:=o f c;have:=u.tr f i;omega);have:=u.tr f i;rw[m f (by omega)];exact this;obtain⟨rfl,rfl⟩|⟨W,s⟩:=wH v s;exact⟨d.iJ.a e (λa g c=>by have:=o a c;have:=d.tp a g;omega),H,λa g=>by have:=d.tp a g;rw[m a (by omega)];exact this,λa g=>(O a g).1⟩;exact(u.rG p U s).a e λa t z=>⟨λc=>by have:=o a c;omega,m a (by omega)⟩
 have s:∀a,w'.heap.size<=a->tag' a=0:=λa t=>by have:=j.d a (UM e.size t);rw[m a (by omega)];exact this
 have V:jP b.q.fa b.q.fc b.q.gs b.r.bD w' tag':=by refine⟨d.js.oF.a e λf i c=>?_,d.js.e,λp f E i G=>⟨(d.js.oE p f E i G).1.a e λc=>?_,(d.js.oE p f E i G).2⟩,K,λp f i=>M f.1 f.2 (Uo i)⟩;rw[show f=b.a from c]at i;exact d.js.d i;exact d.js.c f.1 f.2 (Uo i) (Ur c)
 refine⟨tag',j.y,yO _ _ _ _,?_⟩;have X:=j.b.d (C':=ql W0 R ea ec (l.set k {b with r:=b.r.d,q:= {b.q with fa:=N,fc:=0,gs:=[]}}) Y (jP b.q.fa b.q.fc b.q.gs b.r.bD) j.y (yO _ _ _ _)) (tag':=tag') e (λa t c=>by have:=o a c;omega) (λa t c=>m a (by omega)) s ⟨Q,j.y _ _ _ _ _ j.c e (λa t z=>⟨λc=>by have:=o a c;unfold yt at z;omega,m a (by unfold yt at z;omega)⟩),V⟩ rfl;grind
def LS.D(g:LS W0 w tag yb ea ec l p1 R Y Z){k b}(v:l[k]?=S b)(E:bO w' nj 147 b.b 0 b.e.f {b.p with oa:=N,oc:=0,gs:=[]})(d:ae (ap b.b) w w'):
 ∃tag',LS W0 w' tag' yb ea ec (l.set k {b with e:=b.e.f,p:= {b.p with oa:=N,oc:=0,gs:=[]}}) p1 R Y (λw r=>Z w r/\om b.p.oa b.p.oc b.p.gs b.e.aA 0 w r):=by
 classical
 have f:=g.f v;obtain⟨tag',x⟩:∃tag':Nat->Nat,tag'=λa=>if ag b.p.oa a then 2 else if a∈b.p.gs then 3 else tag a:=⟨_,rfl⟩
 have m:∀a,tag a≠20+4*k->tag' a=tag a:=λa d=>by have z:¬ag b.p.oa a:=λc=>d (f.tp a (Up (Up (Ur c))));have A:¬a∈b.p.gs:=λc=>d (f.tp a (Up (Up (Up c))));grind
 have G:∀a,ag b.p.oa a->tag' a=2:=λa d=>by rw[x];simp only;rw[UG d]
 have H:∀a,a∈b.p.gs->tag' a=3:=λa d=>by rw[x];simp only;rw[Us λc=>f.iJ.gw a d (Up (Up c)),UG d]
 have K:∀a,lZ b.b {b.p with oa:=N,oc:=0,gs:=[]} a->tag' a=20+4*k:=λa i=>by
  have C:a=b.b\/ag b.p.wa a:=by obtain i|i|i|i:=i;omega;grind;exact(b8 a i).elim;simp at i
  have D:ma b.b b.p a:=C.elim Ur λc=>Up (Ur c);have z:¬ag b.p.oa a:=λc=>by obtain y|y:=C;subst y;exact f.iJ.ob c;exact f.iJ.wo a y c
  have A:¬a∈b.p.gs:=λc=>f.iJ.gw a c D;rw[x];simp only;rw[Us z,Us A];exact f.tp a D.a
 have n:∀a,ap b.b a->tag a=20+4*k:=λa c=>by rw[show a=b.b from c];exact(f.tp b.b (Ur rfl))
 have M:qF w' tag' ea ec (l.set k {b with e:=b.e.f,p:= {b.p with oa:=N,oc:=0,gs:=[]}}):=by have t:=g.g;refine⟨?_,λh j=>?_,λu O s=>?_⟩;rw[UA,yr l k b {b with e:=b.e.f,p:= {b.p with oa:=N,oc:=0,gs:=[]}} v rfl rfl];exact t.mu.a d (λh j c=>by have:=n h c;have:=t.tr h j;omega);have:=t.tr h j;rw[m h (by omega)];exact this;obtain⟨rfl,rfl⟩|⟨W,s⟩:=wH v s;exact⟨E,f.js.a d (λa i c=>by have:=n a c;have:=f.tr a i;omega),K,λa i=>by have:=f.tr a i;rw[m a (by omega)];exact this⟩;exact(t.rG u O s).a d λa o q=>⟨λc=>by have:=n a c;omega,m a (by omega)⟩
 have s:∀a,w'.heap.size<=a->tag' a=0:=λa o=>by have:=g.d a (UM d.size o);rw[m a (by omega)];exact this
 have Q:om b.p.oa b.p.oc b.p.gs b.e.aA 0 w' tag':=by refine⟨f.iJ.l8.a d λh j c=>?_,f.iJ.gl,f.iJ.gn,λu h U _ j V=>(f.iJ.l6 u h U j V).a d λc=>?_,G,λu h _ j=>H h (Uo j)⟩;rw[show h=b.b from c]at j;exact f.iJ.ob j;exact f.iJ.gw h (Uo j) (Ur c)
 refine⟨tag',g.y,wP g.z (By _ _ _ _ _),?_⟩;have X:=g.b.d (C':=ql W0 R ea ec (l.set k {b with e:=b.e.f,p:= {b.p with oa:=N,oc:=0,gs:=[]}}) Y (λw r=>Z w r/\om b.p.oa b.p.oc b.p.gs b.e.aA 0 w r) g.y (wP g.z (By _ _ _ _ _))) (tag':=tag') d (λa o c=>by have:=n a c;omega) (λa o c=>m a (by omega)) s ⟨M,g.y _ _ _ _ _ g.c d (λa o q=>⟨λc=>by have:=n a c;unfold yt at q;omega,m a (by unfold yt at q;omega)⟩),g.z _ _ _ _ _ g.e d (λa o q=>⟨λc=>by have:=n a c;unfold zt at q;omega,m a (by unfold zt at q;omega)⟩),Q⟩ rfl;grind
end
def Tv(W0 w tag yb ea ec l p1 R Y z A t C D u m f)(v:LS W0 w tag yb ea ec l p1 R Y λw i=>jP z A t m w i/\om C D u m f w i)(b j d)(q:u[f]?=S b)(Q:t[f]?=S j)(H:m[f]?=S d)(U:((R 0).n:Int)<1099511627776):
 Cr 78 #[P (S ⟨yb,0,N⟩),oO b d,lN j d] w (B T) λw'=>∃E r,LS W0 w' E yb ea ec l p1 r Y (λw i=>jP z A t m w i/\om C D u m (f+1) w i)/\(r 0).n=(R 0).n+1/\(∀g,g≠0->r g=R g):=by
 have o:=v.e.1;have e:=v.e.2;have x:=e.e f b (UF _) q;have aq:=e.g (UF _) q;obtain⟨p,K⟩:∃p:Nat->Nat,p=λa=>if a=b then 0 else tag a:=⟨_,rfl⟩
 have s:∀a,a≠b->p a=tag a:=λa k=>by rw[K];simp only;rw[Us k]
 have V:p b=0:=by rw[K];simp
 have W:LS W0 w p yb ea ec l p1 R Y (λw i=>jP z A t m w i/\om C D u m (f+1) w i):=by
  refine v.i (wP (yO _ _ _ _) (By _ _ _ _ _)) (λa k c=>s a λX=>by rw[X,x]at c;omega) (λa k=>?_) ⟨⟨o.c,o.b,o.a,λa k=>?_,λg n y=>?_⟩,⟨e.a,e.c,e.f,λg n d Z=>e.b g n d (by omega),λa k=>?_,λg n Z y=>?_⟩⟩;rw[s a (by omega)];exact v.d a k;have:=o.e a k;rw[s a λc=>by rw[c,x]at this;omega];exact this;have:=o.d g n y;rw[s n.1 λc=>by rw[c,x]at this;omega];exact this;have:=e.d a k;rw[s a λc=>by rw[c,x]at this;omega];exact this;have:=e.e g n (by omega) y;have ar:n≠b:=λc=>by subst c;have:=(Xz ((Ul.1 q).1) e.f).1 (q.trans y.symm);omega
  grind
 have aa:∀h,h<w.heap.size->ap b h->p h=0:=λh _ c=>by rw[show h=b from c];exact V
 obtain⟨ab,au⟩:=o.a f j d Q H;have ac:=vT d;have M:=lB d;have ad:oO b d=L (S ⟨b,0,N⟩) (Fr.bi d).length 10:=by unfold oO;rw[M]
 have ae:lN j d=L (S ⟨j.1,0,N⟩) (Fr.bi d).length j.2:=by unfold lN;rw[M]
 rw[ad,ae];have O:=A4 (e.b f b d (UF _) q H);refine(W.n (κ:=0) (by omega) (G:=ag (S ⟨b,0,N⟩)) (λh af c=>aa h af (cM.1 c)) λav ah ai aj ak=>(zm (mM w b 0 10 _ (lI O)) (mM w j.1 0 j.2 _ (lI ab)) ah ai aj ak (O.h (by simp) ac) (by omega) U).mono λ_ _ ⟨h,al⟩=>⟨h,0,al⟩).mono ?_;rintro c w' ⟨rfl,E,r,am,an,ao,_⟩;exact⟨rfl,E,r,am,an,ao⟩
def Tt(W0 w tag yb ea ec l p1 R Y n o p e r x b)(f:LS W0 w tag yb ea ec l p1 R Y λw s=>jP n o p b w s/\om e r x b b.length w s)(y:((R 5).n:Int)<1099511627776)(H:(b.length:Int)<1099511627776):
 Cr 137 #[P (S ⟨yb,2,N⟩),L e b.length r] w (.tuple #[]) λw'=>∃q g,LS W0 w' q yb ea ec l p1 g Y (jP n o p b)/\(g 5).n=(R 5).n+1/\(∀h,h≠5->g h=R h):=by
 classical
 have i:=f.e.1;obtain⟨d,t⟩:∃d:Nat->Nat,d=λa=>if ag e a then 0 else tag a:=⟨_,rfl⟩
 have m:∀a,tag a≠2->d a=tag a:=λa c=>by rw[t];simp only;rw[Us λj=>c (f.e.2.d a j)]
 have z:∀a,ag e a->d a=0:=λa c=>by rw[t];simp only;rw[UG c]
 have u:LS W0 w d yb ea ec l p1 R Y (jP n o p b):=by refine f.i (yO _ _ _ _) (λa c j=>m a (by omega)) (λa c=>?_) ⟨i.c,i.b,i.a,λa c=>?_,λh v A=>?_⟩;have:=f.d a c;rw[m a (by omega)];exact this;have:=i.e a c;rw[m a (by omega)];exact this;have:=i.d h v A;rw[m v.1 (by omega)];exact this
 have C:∀k,k<w.heap.size->ag e k->d k=0:=λk _ j=>z k j;have K:=u.h;refine(u.j (κ:=5) (by omega) f.e.2.a C (show (b.length:Int)<=5864062014700 by omega) y).mono ?_;rintro j w' ⟨rfl,q,g,D,E,G,_⟩;exact⟨rfl,q,g,D,E,G⟩
def Qs{b c}{a d:Nat}{e}(f:b[a]?=S d)(g:c[a]?=S e):(oU b c)[a]?=S (oO d e):=by unfold oU;rw[Wd,f,g]
def Hn{b c}{a:Nat}{d e}(f:b[a]?=S d)(g:c[a]?=S e):(pI b c)[a]?=S (lN d e):=by unfold pI;rw[Wd,f,g]
def Cc{w i f j k g}(l:RV w i 1 f j k g){d e}(h:g[d]?=S e):∃a b,f=S ⟨a,b,N⟩/\w.cell? ⟨a,b+d,N⟩=S e:=by obtain⟨n,o,c⟩:=l;have p:=(Ul.1 h).1;obtain⟨_,c,_⟩|⟨a,b,c,m⟩:=c;omega;exact⟨a,b,c,m.a d e h⟩
def GM(W0 t tag yb ea ec l p1 R Y Z)(H:LS W0 t tag yb ea ec l p1 R Y Z)(h a)(K:l[h]?=S a)(ac:Lk a.e a.r)(aY:((R 0).n:Int)+(a.e.aA.length:Int)<1099511627776)(aZ:((R 5).n:Int)<1099511627776):
 Calls prog 89 #[P (S ⟨yb,0,N⟩),.agg #[P (S ⟨a.b,0,N⟩),P (S ⟨a.a,0,N⟩)]] t λm w'=>∃u n o,m= .returned (.tuple #[L u a.e.aA.length n,B T])/\
  ∃M i z,LS W0 w' M yb ea ec (l.set h z) p1 i Y (jP u n o a.e.aA)/\z.b=a.b/\z.a=a.a/\z.e=a.e.f/\Lk z.e z.r/\(i 0).n=(R 0).n+a.e.aA.length/\(i 5).n=(R 5).n+1/\(∀b,b≠0->b≠5->i b=R b):=by
 have j:=@cf _ _ _ H K ac;have av:=@aC _ _ aY aZ;obtain⟨ad,aw⟩:=ah a.b;obtain⟨A,ax⟩:=ah a.a;obtain⟨c,a0⟩:=ah a.e.aA;have O:=@gA _ _ _ _ aw ax a0 ac.b;rw[<-aw,<-ax];clear H K ac aY aZ aw ax a0;go_enter func89,ntmps89;go_wp2_with fail;obtain⟨w,ag⟩:=ah (t.alloc (.cells #[P (S ⟨ad,0,N⟩),P (S ⟨A,0,N⟩)] 98));have ay:aq w t.heap.size #[P (S ⟨ad,0,N⟩),P (S ⟨A,0,N⟩)] 98:=by rw[ag];exact aq.e _ _ _
 have a1:ae aa t w:=by rw[ag];exact(ae.a aa t).b _
 rw[<-ag];obtain⟨az,a2⟩:=ah t.heap.size;rw[<-a2]at ay|-;have a3(_:=()):aq w az #[P (S ⟨ad,0,N⟩),P (S ⟨A,0,N⟩)] 98/\az≠A:=⟨ay,λm=>by have ai:=(j ()).1.d az (by omega);have a4:=((j ()).1.f (j ()).2.1).tr a.a (Ur (Ur rfl));rw[m,O.2.1]at ai;omega⟩
 have a5:=@aC _ _ ((j ()).1.a a1) ((j ()).2);clear ag ay a1 a2 j;have j:=@a5;clear a5;have Q(_:=()):Calls prog 135 #[P (S ⟨A,0,N⟩)] w λaA w'=>aA= .returned (L a.q.fa c.length a.q.fc)/\ae (ap A) w w'/\∃M,LS W0 w' M yb ea ec (l.set h {a with r:=a.r.d,q:= {a.q with fa:=N,fc:=0,gs:=[]}}) p1 R Y (jP a.q.fa a.q.fc a.q.gs c):=by obtain⟨H,K,ac⟩:=j ();obtain⟨aj,ak,C,aB⟩:=O;rw[ak,C,aB];refine(G5 a.a a.r a.q w (H.f K).js).mono ?_;rintro aA w' ⟨rfl,aD,v⟩;exact⟨rfl,v,H.E K aD v⟩
 refine Uq Q ?_;rintro m aE ⟨rfl,a6,bz,D⟩;have a7:=(a3.1.c a6 λm=>a3.2 m).a 0;simp at a7;clear a6;obtain⟨d,x⟩:∃d:Lp,d= {a with r:=a.r.d,q:= {a.q with fa:=N,fc:=0,gs:=[]}}:=⟨_,rfl⟩
 rw[<-x]at D;have aF(_:=()):(l.set h d)[h]?=S d/\d.b=a.b/\d.a=a.a/\d.e=a.e/\d.r=a.r.d/\d.p=a.p:=⟨UQ (Ul.1 (j ()).2.1).1,by rw[x],by rw[x],by rw[x],by rw[x],by rw[x]⟩
 have a8:=@af _ D;clear D Q x;have Q(_:=()):Cr 136 #[P (S ⟨ad,0,N⟩)] aE (L a.p.oa c.length a.p.oc) λw'=>∃M,LS W0 w' M yb ea ec ((l.set h d).set h {d with e:=d.e.f,p:= {d.p with oa:=N,oc:=0,gs:=[]}}) p1 R Y (λw s=>jP a.q.fa a.q.fc a.q.gs c w s/\om a.p.oa a.p.oc a.p.gs c 0 w s):=by have D:=a8;obtain⟨aG,aH,a9,al,ba,aI⟩:=aF;obtain⟨aj,ak,C,aB⟩:=O;have bk:=(D.f aG).iJ;refine((Vj (λbl=>Calls prog 136 #[P (S ⟨bl,0,N⟩)] aE _) (aj.trans aH.symm)).mpr (Qq nj 147 d.b 0 d.e d.p aE bk)).mono ?_;rintro aA w' ⟨rfl,aD,v⟩;have:=D.D aG aD v;rw[al,aI,<-C]at this;rw[al,aI,<-C];exact⟨rfl,this⟩
 go_wp2_with fail;refine Uq Q ?_;rintro m bA ⟨rfl,bm,aJ⟩;obtain⟨f,E⟩:∃f:Lp,f= {d with e:=d.e.f,p:= {d.p with oa:=N,oc:=0,gs:=[]}}:=⟨_,rfl⟩
 rw[<-E,Xu]at aJ;have am(_:=()):f.b=a.b/\f.a=a.a/\f.e=a.e.f/\Lk f.e f.r:=by
  obtain⟨aG,aH,a9,al,ba,aI⟩:=aF;have bb:f.e=a.e.f:=by rw[E,<-al]
  have bn:f.r=a.r.d:=by rw[E,<-ba]
  refine⟨by rw[E,<-aH],by rw[E,<-a9],bb,?_⟩;rw[bb,bn];exact(j ()).2.2.q
 have aK:=@af _ aJ;have aL(_:=()):(c.length:Int)<1099511627776/\c.length=a.e.aA.length:=by have:=av;have:=O.2.2.1;rw[this];exact⟨by omega,rfl⟩
 clear aJ Q E a8 aF a7;obtain⟨bc,aM⟩:=ah a.p.oa;obtain⟨an,aN⟩:=ah a.p.oc;obtain⟨U,bd⟩:=ah a.p.gs;obtain⟨u,aO⟩:=ah a.q.fa;obtain⟨n,aP⟩:=ah a.q.fc;obtain⟨o,be⟩:=ah a.q.gs;rw[<-aM,<-aN,<-bd,<-aO,<-aP,<-be]at aK;rw[<-aM,<-aN,<-aO,<-aP];clear aM aN bd aO aP be;go_wp2_with fail;go_loopw [8,9] (λbo aQ wr=>∃b:Nat,∃(ao:Nat->Nat)(i:Nat->Rw),b<=c.length/\aQ= .int J b/\bo=B T/\LS W0 wr ao yb ea ec (l.set h f) p1 i Y (λw s=>jP u n o c w s/\om bc an U c b w s)/\(i 0).n=(R 0).n+b/\(∀b,b≠0->i b=R b)) λ_ aQ _=>c.length-(intOf aQ).toNat;case atStart=>exact⟨0,bm,R,by omega,rfl,by simp,aK,by omega,λ_ _=>rfl⟩
 case round=>
  obtain⟨b,ao,i,bB,rfl,rfl,bf,bg,bh⟩:=hrel;have g:=@cf _ _ _ bf bg bh;clear aK bf bg bh;by_cases bp:b<c.length
  .obtain⟨aR,ar⟩:∃aR,c[b]?=S aR:=⟨_,Um bp⟩
   obtain⟨aS,aT⟩:∃aS,U[b]?=S aS:=⟨_,Um (by have:=g.1.e.2.c;omega)⟩
   obtain⟨aU,aV⟩:∃aU,o[b]?=S aU:=⟨_,Um (by have:=g.1.e.1.b;omega)⟩
   obtain⟨bq,br,rfl,bi⟩:=Cc g.1.e.2.a (Qs aT ar);obtain⟨bs,bt,rfl,bj⟩:=Cc g.1.e.1.c (Hn aV ar);have y(_:=()):∀aW,ae aa wr aW->_:=λaW bu=>Tv W0 aW ao yb ea ec (l.set h f) p1 i Y _ n o _ an U c b (g.1.a bu) aS aU aR aT aV ar (by have ai:=g.2.1;have a4:=av;have bC:=aL;omega);unfold oO at bi y;unfold lN at bj y;have bD:(b:Int)<c.length:=by omega
   have bE:(b:Int)<1099511627776:=by have:=aL;omega
   clear ar aT aV;go_wp2_with fail;go_still_tail 9,(by kernel_rfl)
   go_wp2_with fail;refine Uq (y () _ ((ae.a aa wr).drew)) ?_;rintro m aX ⟨rfl,V,k,W,X,G⟩;have au(_:=()):LS W0 aX V yb ea ec (l.set h f) p1 k Y (λw s=>jP (S ⟨bs,bt,N⟩) n o c w s/\om (S ⟨bq,br,N⟩) an U c (b+1) w s)/\(k 0).n=(R 0).n+(b+1)/\(∀b,b≠0->k b=R b):=⟨W,by rw[X,g.2.1];omega,λab v=>(G ab v).trans (g.2.2 ab v)⟩
   clear W X G y bi bj;go_wp2;exact⟨⟨b+1,V,k,by omega,by go_num,rfl,au⟩,by simp[intOf];omega⟩
  .have bv:b=c.length:=by omega
   subst bv;have y:=@af _ (Tt W0 wr ao yb ea ec (l.set h f) p1 i Y u n o bc an U c g.1 (by have ai:=g.2.2 5 (by omega);have a4:=av;rw[ai];omega) aL.1);go_wp2_with fail;refine Uq y ?_;rintro m aX ⟨rfl,V,k,W,X,G⟩;have au(_:=()):LS W0 aX V yb ea ec (l.set h f) p1 k Y (jP u n o c)/\(k 0).n=(R 0).n+c.length/\(k 5).n=(R 5).n+1/\(∀b,b≠0->b≠5->k b=R b):=⟨W,by rw[G 0 (by omega),g.2.1],by rw[X,g.2.2 5 (by omega)],λab bw bx=>(G ab bx).trans (g.2.2 ab bw)⟩
   clear W X G y;go_wp2;go_ret2;obtain⟨aj,ak,C,aB⟩:=O;rw[<-C];exact⟨u,n,o,rfl,V,k,f,au.1,am.1.trans aj.symm,am.2.1.trans ak.symm,am.2.2.1,am.2.2.2,au.2⟩
def mP(a:List Lp):Nat:=(a.map λb=>b.e.l).sum
def bZ(a:Nat->Rw)(b:List Lp):Nat:=(a 0).n+(a 1).n+(a 2).n+(a 3).n+(a 4).n+(a 5).n+b.length+mP b
def uL:∀e d b c,e[d]?=S b->mP (e.set d c)+b.e.l=mP e+c.e.l
 |[],d,b,c,a=>by simp at a
 |g::f,0,b,c,a=>by simp at a;subst a;simp[mP];omega
 |g::f,d+1,b,c,a=>by rw[UH]at a;have:=uL f d b c a;simp only[mP,UB,WV,List.sum_cons]at this|-;omega
def OR{b}{a:Nat}{d}(c:b[a]?=S d):d.e.l<=mP b:=by
 have g:∀(b:List Lp)(a:Nat),b[a]?=S d->d.e.l<=mP b:=by
  intro b;induction b with
  |nil=>intro a c;simp at c
  |cons e f h=>
   intro a c;have i:mP (e::f)=e.e.l+mP f:=by simp[mP]
   cases a with
   |zero=>simp at c;subst c;omega
   |succ a=>rw[UH]at c;have:=h a c;omega
 exact g b a c
def mh(c b):(∀a,a<6->(c a).n<=bZ c b)/\b.length<=bZ c b/\mP b<=bZ c b:=by
 refine⟨λa d=>?_,by unfold bZ;omega,by unfold bZ;omega⟩;have:a=0\/a=1\/a=2\/a=3\/a=4\/a=5:=by omega
 obtain rfl|rfl|rfl|rfl|rfl|rfl:=this<;>unfold bZ<;>omega
def tC{R a}{c:Nat}{b}(d:a[c]?=S b):3*b.e.aA.length<=bZ R a:=by have e:=T2 b.e;have f:=OR d;have g:=(mh R a).2.2;omega
def hU(b:List Lp):Prop:=∀(c:Nat)(a:Lp),b[c]?=S a->Lk a.e a.r
def hU.a{a}(e:hU a){d f b}(g:a[d]?=S f)(h:Lk b.e b.r):hU (a.set d b):=λi j c=>by obtain⟨rfl,rfl⟩|⟨_,c⟩:=wH g c;exact h;exact e i j c
def rV(c d:List Lp):Prop:=d.length=c.length/\∀(e:Nat)(a:Lp),c[e]?=S a->∃b:Lp,d[e]?=S b/\b.b=a.b/\b.a=a.a
def rV.b(a):rV a a:=⟨rfl,λd b c=>⟨b,c,rfl,rfl⟩⟩
def rV.a{d a}(e:rV d a){f b c}(j:a[f]?=S b)(k:c.b=b.b)(l:c.a=b.a):rV d (a.set f c):=by refine⟨by rw[UA];exact e.1,λg h i=>?_⟩;obtain⟨m,n,o,p⟩:=e.2 g h i;grind
def mQ(c:Bool)(a:List Fr.ff)(b:Nat):List Fr.ff:=if c then a.take (a.length-b)else a.drop b
def RO(a b):mQ a b 0=b:=by unfold mQ;cases a<;>simp
def sn(b:Bool)(c a:Nat):Nat:=if b then c-1-a else a
def RM(c a b e)(f:b<a.length)(d:a[sn c a.length b]?=S e):iv (mQ c a b)=iv (mQ c a (b+1))+fw e/\(mQ c a b).length=(mQ c a (b+1)).length+1:=by
 unfold mQ sn at *;cases c with
 |false=>
  simp only[V7,Xi]at d|-;rw[VY f,((Ul.1 d).2)];refine⟨?_,by simp⟩;simp[iv];omega
 |true=>
  simp only[VR]at d|-;have g:a.length-b=(a.length-1-b)+1:=by omega
  have h:a.length-(b+1)=a.length-1-b:=by omega
  rw[g,h,Vz,d];simp only[Option.toList_some,BU,Uu,VH];exact⟨by simp[iv],VU⟩
def zB(a:Nat)(b:Array Value)(c:TypeId)(d:World)(e:Nat->Nat):Prop:=aq d a b c/\e a=6
def Li(b c d):qZ (zB b c d):=λg h i j k a e f=>by have:=f b a.1.b (by rw[a.2];unfold yt;omega);exact⟨a.1.c e this.1,this.2.trans a.2⟩
def T6{b c}(l:qZ b)(m:qZ c):qZ (λa d=>b a d/\c a d):=λe a f g h i j k=>⟨l e a f g h i.1 j k,m e a f g h i.2 j k⟩
def LS.s{o a h p q r s t u v w}(c:LS o a h p q r s t u v w){g l m}(x:aq a g l m)(z:h g=0):
 ∃e,LS o a e p q r s t u (λa y=>v a y/\zB g l m a y) w:=by
 obtain⟨e,n⟩:∃e:Nat->Nat,e=λf=>if f=g then 6 else h f:=⟨_,rfl⟩
 have j:∀f,h f≠0->e f=h f:=λf A=>by rw[n];simp only;rw[Us λb=>A (by rw[b];exact z)]
 have C:e g=6:=by rw[n];simp
 refine⟨e,T6 c.y (Li g l m),c.z,c.b.d (ae.a aa a) (λ_ _ b=>b.elim) (λd i b=>j d (by omega)) (λd i=>?_) ⟨?_,⟨?_,x,C⟩,?_⟩ rfl⟩;have:=c.d d i;have D:=x.b;rw[n];simp only;rw[Us (by omega)];exact this;exact c.g.a (ae.a aa a) (λd i k=>⟨λb=>b,j d (by omega)⟩);exact c.y _ _ _ _ _ c.c (ae.a aa a) (λd i k=>⟨λb=>b,j d (by unfold yt at k;omega)⟩);exact c.z _ _ _ _ _ c.e (ae.a aa a) λd i k=>⟨λb=>b,j d (by unfold zt at k;omega)⟩
def LS.K{d a e f g h i j k}{c o l:World->(Nat->Nat)->Prop}(b:LS d a e f g h i j k (λa m=>c a m/\o a m) l)(p:qZ c):LS d a e f g h i j k c l:=
 ⟨p,b.z,b.b.d (ae.a aa a) (λ_ _ n=>n.elim) (λq r n=>rfl) b.d ⟨b.g,b.c.1,b.e⟩ rfl⟩
def QD(m A bf i n o b p R ay C)(r:LS m A bf i n o b p R ay C)(az:hU b)(t s:Nat)(q w)(x:b[t]?=S q)(aR:b[s]?=S w)(j)(aS:(bZ R b:Int)<1000000000):
 Cr 90 #[P (S ⟨i,0,N⟩),.agg #[P (S ⟨q.b,0,N⟩),P (S ⟨q.a,0,N⟩)],.agg #[P (S ⟨w.b,0,N⟩),P (S ⟨w.a,0,N⟩)],B j] A (B T) λaj=>∃aA d c bg,LS m aj aA i n o c p d ay bg/\hU c/\rV b c/\bZ d c<=bZ R b+1:=by
 have y:=@lP _ _ _ _ _ r az x aR aS;have aB(_:=()):∀g h l,LS m g h i n o b p R l C->_:=λg h l r=>GM m g h i n o b p R l C r t q x (az t q x) (by have u:=tC (R:=R) x;have v:=(mh R b).1 0 (by omega);omega) (by have v:=(mh R b).1 5 (by omega);omega);obtain⟨aD,ak⟩:=ah q.b;obtain⟨aE,al⟩:=ah q.a;obtain⟨G,aF⟩:∃aD,aD=w.b:=⟨_,rfl⟩
 obtain⟨H,aG⟩:∃aE,aE=w.a:=⟨_,rfl⟩
 obtain⟨a,U⟩:=ah q.e.aA;have aT:=@aC _ _ ak al;have aU(_:=()):G=w.b/\H=w.a/\(∀f∈a,dx f)/\(a.length:Int)<1000000000:=⟨aF,aG,by rw[U];exact(r.f x).iJ.l7,by have u:=tC (R:=R) x;rw[U];omega⟩
 rw[<-ak,<-al,<-U]at aB;rw[<-ak,<-al,<-aF,<-aG];have aV(_:=()):∀(d:Nat->Rw)(K:Lp),K.e=q.e.f->(d 0).n=(R 0).n+a.length->(d 5).n=(R 5).n+1->(∀s,s≠0->s≠5->d s=R s)->bZ d (b.set t K)+iv a=bZ R b+a.length+1:=λd K bh am an D=>by have u:=uL b t q K x;have v:=Iq q.e;rw[bh]at u;rw[<-U]at v;unfold bZ;rw[am,an,D 1 (by omega) (by omega),D 2 (by omega) (by omega),D 3 (by omega) (by omega),D 4 (by omega) (by omega),UA];omega
 clear r az x aR aS ak al aF aG U;go_enter func90,ntmps90;go_wp2_with fail;obtain⟨g,ao⟩:∃bi,bi=(A.alloc (.cells #[P (S ⟨aD,0,N⟩),P (S ⟨aE,0,N⟩)] 98)).alloc (.cells #[P (S ⟨G,0,N⟩),P (S ⟨H,0,N⟩)] 98):=⟨_,rfl⟩
 have aH:aq g (A.heap.size+1) #[P (S ⟨G,0,N⟩),P (S ⟨H,0,N⟩)] 98:=by rw[ao];exact aq.h _ _ _ _ (by simp)
 have aW:ae aa A g:=by rw[ao];exact((ae.a aa A).b _).b _
 rw[<-ao];obtain⟨ap,aX⟩:=ah (A.heap.size+1);rw[<-aX]at aH|-;obtain⟨aY,aI⟩:=(y.1.a aW).s aH (y.1.d ap (by omega));obtain⟨l,aJ⟩:=ah λg aZ=>ay g aZ/\zB ap #[P (S ⟨G,0,N⟩),P (S ⟨H,0,N⟩)] 98 g aZ;rw[<-aJ]at aI;have aK:=@aC _ _ aJ (y.1.y);have bj(_:=()):∀ {g h b R C},LS m g h i n o b p R l C->g.cell? ⟨ap,0,N⟩=S (P (S ⟨G,0,N⟩))/\g.cell? ⟨ap,1,N⟩=S (P (S ⟨H,0,N⟩)):=@λ{g h b R C} bk=>by have u:=bk.c;rw[aK.1]at u;have v:=u.2.1.a 0;have aL:=u.2.1.a 1;simp at v aL;exact⟨v,aL⟩
 have bl(_:=()):LS m g aY i n o b p R l C:=aI;clear ao aH aW aX aI aJ;refine Uq (aB () g aY l bl) ?_;rintro V bm ⟨aM,ar,W,rfl,a0,au,E,a1,a2,a3,a4,a5,am,an,D⟩;have X(_:=()):LS m bm a0 i n o (b.set t E) p au l (jP aM ar W a)/\hU (b.set t E)/\rV b (b.set t E)/\bZ au (b.set t E)+iv a=bZ R b+a.length+1:=
  ⟨a1,y.2.1.a y.2.2.1 a5,(rV.b b).a y.2.2.1 (a2.trans aT.1) (a3.trans aT.2),aV () au E a4 am an D⟩
 clear a1 a2 a3 a4 a5 am an D aB aV;go_wp2_with fail;go_loopw [10,11] (λbn aN wr=>∃e:Nat,∃(h:Nat->Nat)(d:Nat->Rw)(c:List Lp),e<=a.length/\aN= .int J e/\bn=B T/\LS m wr h i n o c p d l (jP aM ar W a)/\hU c/\rV b c/\bZ d c+iv (mQ j a e)<=bZ R b+(mQ j a e).length+1) λ_ aN _=>a.length-(intOf aN).toNat;case atStart=>exact⟨0,a0,au,_,by omega,rfl,rfl,X.1,X.2.1,X.2.2.1,by rw[RO];exact Nat.le_of_eq X.2.2.2⟩
 case round=>
  obtain⟨e,h,d,c,bH,rfl,rfl,a6,Y,Z,av⟩:=hrel;have z(_:=()):LS m wr h i n o c p d l (jP aM ar W a)/\hU c/\rV b c/\bZ d c+iv (mQ j a e)<=bZ R b+(mQ j a e).length+1:=⟨a6,Y,Z,av⟩
  obtain⟨a7,a8⟩:=bj () z.1;clear X a6 Y Z av;by_cases bo:e<a.length;obtain⟨f,M⟩:∃f,a[sn j a.length e]?=S f:=⟨_,Um (by unfold sn;split<;>omega)⟩
  obtain⟨k,ab⟩:∃k,W[sn j a.length e]?=S k:=⟨_,Um (by have:=z.1.e.b;unfold sn;split<;>omega)⟩
  obtain⟨bp,bq,rfl,O⟩:=Cc z.1.e.c (Hn ab M);have ac(_:=()):Cr 86 #[P (S ⟨i,0,N⟩),.agg #[P (S ⟨G,0,N⟩),P (S ⟨H,0,N⟩)],lN k f] wr.drew (B T) λaj=>∃(h:Nat->Nat)(d:Nat->Rw)(c:List Lp),LS m aj h i n o c p d l (jP (S ⟨bp,bq,N⟩) ar W a)/\hU c/\rV b c/\bZ d c+iv (mQ j a (e+1))<=bZ R b+(mQ j a (e+1)).length+1:=by
   obtain⟨r,Y,Z,av⟩:=z;have r:=r.a ((ae.a aa wr).drew);obtain⟨br,bs,bt,bI⟩:=aU;obtain⟨aw,Q,bu,bv⟩:=Z.2 s w y.2.2.2.1;have a9:=r.e;obtain⟨ba,bJ⟩:=a9.a _ k f ab M;have bb:=bt f (Uo M);have bK:=vT f;have bw:=lB f;have bL:=yU (mQ j a e);have bM:=y.2.2.2.2;have bc:=mh d c;have bN:=bc.1 0 (by omega);have bO:=bc.1 2 (by omega);have bx:=tC (R:=d) Q;have bz:lR wr.drew (S ⟨k.1,0,N⟩) (Fr.bi f) k.2:=Up ⟨_,rfl,Up ⟨k.1,0,rfl,ba.b,lI ba⟩,by omega,qo f bb,by omega⟩;have:=EQ m wr.drew h i n o c p d l _ r s aw Q (Y s aw Q) (S ⟨k.1,0,N⟩) (Fr.bi f) k.2 bz (λbP bx V _ _=>by cases V;have:=a9.d _ k ab;omega) (S f) ⟨bb,rfl⟩ (by omega) (by omega) (by omega);rw[br,bs,<-bu,<-bv];have bA:lN k f=L (S ⟨k.1,0,N⟩) (Fr.bi f).length k.2:=by unfold lN;rw[bw]
   rw[bA];refine this.mono ?_;rintro V aj ⟨rfl,aA,ad,K,bB,E,bC,bD,bE,bQ,bR,ax,_,_⟩;refine⟨rfl,aA,ad,_,bB,Y.a Q bE,Z.a Q E bC,?_⟩;obtain⟨bS,bT⟩:=RM j a e f bo M;have u:=uL c s aw K Q;have v:=Ip aw.e (S f);rw[<-bD]at v;have aL:ow (S f)=fw f-3:=rfl;have bU:3<=fw f:=by unfold fw;split<;>omega
   unfold bZ at av|-;rw[ax 1 (by omega) (by omega),ax 3 (by omega) (by omega),ax 4 (by omega) (by omega),ax 5 (by omega) (by omega),UA];omega
  have bV:(e:Int)<a.length:=by omega
  have bW:=aU.2.2.2;unfold lN at O ac;cases j with
  |false=>
   simp only[sn,V7,Xi]at O;clear M ab;go_wp2_with fail;go_still_tail 6,(by kernel_rfl)
   go_wp2_with fail;refine Uq ac ?_;rintro V bF ⟨rfl,aO,ad,aP,ag⟩;have aQ:=@af _ ag;clear ag ac O a7 a8;go_wp2;exact⟨⟨e+1,aO,ad,aP,by omega,by go_num,rfl,aQ⟩,by simp[intOf];omega⟩
  |true=>
   simp only[sn,VR]at O;obtain⟨ai,bd⟩:∃ai:Nat,ai=a.length-1-e:=⟨_,rfl⟩
   rw[<-bd]at O;have bX:IntKind.i64.wrap ((a.length:Int)-1)=(a.length:Int)-1:=by rw[VM];omega
   have bY:IntKind.i64.wrap ((a.length:Int)-1-(e:Int))=(ai:Int):=by rw[VM];omega
   have b0:(a.length:Int)-1-(e:Int)=ai:=by omega
   have b1:(ai:Int)<a.length:=by omega
   clear M ab bd;go_wp2_with fail;go_still_tail 6,(by kernel_rfl)
   go_wp2_with fail;refine Uq ac ?_;rintro V bF ⟨rfl,aO,ad,aP,ag⟩;have aQ:=@af _ ag;clear ag ac O a7 a8;go_wp2;exact⟨⟨e+1,aO,ad,aP,by omega,by go_num,rfl,aQ⟩,by simp[intOf];omega⟩
  .have bG:e=a.length:=by omega
   subst bG;go_wp2;go_ret;have be:=z.1;rw[aK.1]at be;refine⟨rfl,h,d,c,_,be.K aK.2,z.2.1,z.2.2.1,?_⟩;have u:=z.2.2.2;have v:=yU (mQ j a a.length);omega
def yY{d e f k}(j:k<6)(c:(e k).n=(d k).n+1)(g:∀b,b≠k->e b=d b):bZ e f=bZ d f+1:=by
 have a:∀b,b≠k->(e b).n=(d b).n:=λb h=>by rw[g b h]
 have i:k=0\/k=1\/k=2\/k=3\/k=4\/k=5:=by omega
 unfold bZ;obtain rfl|rfl|rfl|rfl|rfl|rfl:=i;rw[c,a 1 (by omega),a 2 (by omega),a 3 (by omega),a 4 (by omega),a 5 (by omega)];omega;rw[c,a 0 (by omega),a 2 (by omega),a 3 (by omega),a 4 (by omega),a 5 (by omega)];omega;rw[c,a 0 (by omega),a 1 (by omega),a 3 (by omega),a 4 (by omega),a 5 (by omega)];omega;rw[c,a 0 (by omega),a 1 (by omega),a 2 (by omega),a 4 (by omega),a 5 (by omega)];omega;rw[c,a 0 (by omega),a 1 (by omega),a 2 (by omega),a 3 (by omega),a 5 (by omega)];omega;rw[c,a 0 (by omega),a 1 (by omega),a 2 (by omega),a 3 (by omega),a 4 (by omega)];omega
def QP(w b n x y o z)(G:kt w b n x y o z)(p q r j e f k g h i l)(Z:j.oneCell'=T)(ab:l.oneCell'=T)(A:iZ e f k g h i≠0)(H:(o:Int)<1099511627776):
 Cr 40 #[P (S ⟨n,0,N⟩),kq 2 p q r j e f k g h i l] b (B T) λK=>kt w K n x y (o+1) z:=by
 obtain⟨ac,ad,ag,ai,aj,ak,M⟩:=G;have s:=@af _ M;have O:=@af _ H;have Q:=@af _ (KP e f k g h i A);have R:=@af _ (B6 e f k g h i A);go_enter func40,ntmps40;go_wp2_with fail;obtain⟨C,m⟩:=ah (b.alloc (.cells #[I J 2,I J p,I J q,I J r,j,B e,I J f,I J k,I J g,I J h,B i,l] 80));have D:aq C b.heap.size #[I J 2,I J p,I J q,I J r,j,B e,I J f,I J k,I J g,I J h,B i,l] 80:=by rw[m];exact aq.e _ _ _
 have E:ae aa b C:=by rw[m];exact(ae.a aa b).b _
 rw[<-m];obtain⟨al,U⟩:=ah b.heap.size;have c:=@aC _ _ D E;clear m D E U;refine(Q () _).mono ?_;rintro a am ⟨rfl,d⟩;have an:=(c.1.c d λa=>a).a 5;have ao:=(c.1.c d λa=>a).a 6;have ap:=(c.1.c d λa=>a).a 7;have ar:=(c.1.c d λa=>a).a 8;have au:=(c.1.c d λa=>a).a 9;have av:=(c.1.c d λa=>a).a 10;go_wp2_with fail;refine(R () _).mono ?_;rintro a t ⟨rfl,V⟩;have u:=@af _ ((c.2.c d).c V);have W:=@af _ (zm (ES t) (ES t) ((s.a u).b) rfl (b8 _) ((s.a u).c.a λv _ _ X a=>X (Ur (a.resolve_left (b8 v)))) (RV.d t 5 1) (by omega) O);go_wp2_with fail;refine Uq W ?_;rintro a aw ⟨rfl,Y⟩;have ax:=@af _ (s.d u (λv a=>(b8 v a).elim) Y);go_wp2;go_ret;simp_all
def QQ(A b s C D t E)(V:kt A b s C D t E)(u v w o h i k j l m p)(ar:o.oneCell'=T)(au:p.oneCell'=T)(W:iZ h i k j l m=0)(X:(t:Int)<1099511627776):
 Cr 40 #[P (S ⟨s,0,N⟩),kq 2 u v w o h i k j l m p] b (B T) λf=>kt A f s C D (t+1) E:=by
 obtain⟨av,aw,ax,ay,az,aA,Y⟩:=V;have n:=@af _ Y;have Z:=@af _ X;obtain⟨c,G,H⟩:=Bf W;have ab(_:=()):∀b,Calls prog 76 #[.agg (fc h i k j l m)] b λa f=>∃d,a= .returned (.tuple #[L (S ⟨d,0,N⟩) (ee c) 10,I J 0])/\b.heap.size<=d/\eB f d (Fr.bi c) 10/\ae aa b f:=λb=>by rw[<-H];exact KO c G b
 have ac(_:=()):∀b,Calls prog 77 #[.agg (fc h i k j l m)] b λa f=>∃d x,a= .returned (.tuple #[L (S ⟨d,0,N⟩) (ee c) x,I J 0])/\b.heap.size<=d/\ee c<=x/\gp f d (Fr.bi c) x/\ae aa b f:=λb=>by rw[<-H];exact tE c G b
 go_enter func40,ntmps40;go_wp2_with fail;obtain⟨K,q⟩:=ah (b.alloc (.cells #[I J 2,I J u,I J v,I J w,o,B h,I J i,I J k,I J j,I J l,B m,p] 80));have M:aq K b.heap.size #[I J 2,I J u,I J v,I J w,o,B h,I J i,I J k,I J j,I J l,B m,p] 80:=by rw[q];exact aq.e _ _ _
 have O:ae aa b K:=by rw[q];exact(ae.a aa b).b _
 rw[<-q];obtain⟨aB,ad⟩:=ah b.heap.size;have e:=@aC _ _ M O;clear q M O ad;refine(ab () _).mono ?_;rintro a ag ⟨d,rfl,aD,ai,g⟩;have aE:=(e.1.c g λa=>a).a 5;have aF:=(e.1.c g λa=>a).a 6;have aG:=(e.1.c g λa=>a).a 7;have aH:=(e.1.c g λa=>a).a 8;have aI:=(e.1.c g λa=>a).a 9;have aJ:=(e.1.c g λa=>a).a 10;have r(_:=()):b.heap.size<=d/\eB ag d (Fr.bi c) 10:=⟨by have:=e.2.size;omega,ai⟩
 go_wp2_with fail;refine(ac () _).mono ?_;rintro a Q ⟨aj,ak,rfl,aK,aL,al,R⟩;have y:=@af _ ((e.2.c g).c R);have z:=@aC _ _ (r.2.a R λa=>a) al;have am(_:=()):_:=zm (mM Q d 0 10 (Fr.bi c) (lI (A4 z.1))) (mM Q aj 0 ak (Fr.bi c) (lI z.2)) ((n.a y).b) rfl (λa=>by have:=cM.1 a;have:=n.b.b;have:=r.1;omega) ((n.a y).c.a λU aM an ao a=>by obtain a|a:=a;have:=cM.1 a;have:=(n.c.c U an).1;have:=r.1;omega;exact ao (Ur a)) ((A4 z.1).h (by simp) (vT c)) (by have:=vT c;omega) Z
 rw[<-lB c];go_wp2_with fail;refine Uq am ?_;rintro a aN ⟨rfl,ap⟩;have aO:=@af _ (n.d y (λU a=>by rw[cM.1 a];exact r.1) ap);go_wp2;go_ret;simp_all
def QN(w a n x y q z)(au:kt w a n x y q z)(A C D r E G k H K M O)(aI:r.oneCell'=T)(aJ:O.oneCell'=T)(aK:O=L N 0 0)(aL:(q:Int)<1099511627776):
 Cr 40 #[P (S ⟨n,0,N⟩),kq 3 A C D r E G k H K M O] a (B T) λo=>kt w o n x y q z:=by
 obtain⟨av,aw,ax,ay,az,aA,aB⟩:=au;have aD:=@af _ aB;obtain⟨c,d,e,f,g,h,Q,aE,aF⟩:∃(c:Bool)(d e f g:Int)(h:Bool)(Q:Int),(∀a,Cr 80 #[L N 0 0] a (.tuple #[.agg #[B c,.int J d,.int J e,.int J f,.int J g,B h],.int J Q]) λo=>ae aa a o)/\
  (∀a,Cr 81 #[L N 0 0] a (.tuple #[.agg #[B c,I J d,I J e,I J f,I J g,B h],I J Q]) λo=>ae aa a o):=
  ⟨F,0,0,0,0,F,9,KM,λa=>wF N 0 0 a (by decide) (by decide)⟩
 have aG:=@af _ aE;have aH:=@af _ aF;go_enter func40,ntmps40;go_wp2_with fail;obtain⟨ac,s⟩:=ah (a.alloc (.cells #[I J 3,I J A,I J C,I J D,r,B E,I J G,I J k,I J H,I J K,B M,L N 0 0] 80));have R:aq ac a.heap.size #[I J 3,I J A,I J C,I J D,r,B E,I J G,I J k,I J H,I J K,B M,L N 0 0] 80:=by rw[s];exact aq.e _ _ _
 have ad:ae aa a ac:=by rw[s];exact(ae.a aa a).b _
 rw[<-s];obtain⟨ag,ai⟩:=ah a.heap.size;rw[<-ai]at R|-;have p:=@aC _ _ R ad;clear s R ad ai;refine(FR _).mono ?_;rintro b aM ⟨rfl,rfl⟩;go_wp2_with fail;refine(aG () _).mono ?_;rintro b i ⟨rfl,U⟩;have V:=(p.1.c U λb=>b).a 11;have W:ag<i.heap.size:=by have:=p.1.b;have:=(U).size;omega
 have X:=@af _ U;go_wp2_with fail;obtain⟨aj,t⟩:=ah (i.alloc (.cells #[B c,I J d,I J e,I J f,I J g,B h] 78));have ak:aq aj i.heap.size #[B c,I J d,I J e,I J f,I J g,B h] 78:=by rw[t];exact aq.e _ _ _
 have al:ae aa i aj:=by rw[t];exact(ae.a aa i).b _
 rw[<-t];obtain⟨aN,am⟩:=ah i.heap.size;have u:=@cf _ _ _ ak al am;clear t ak al am V W;refine(aH () _).mono ?_;rintro b j ⟨rfl,Y⟩;have V:=(p.1.c ((X.c u.2.1).c Y) λb=>b).a 11;have W:ag<j.heap.size:=by have:=p.1.b;have:=X.size;have:=u.2.1.size;have:=Y.size;omega
 have an:=@af _ Y;go_wp2_with fail;obtain⟨Z,v⟩:=ah (j.alloc (.cells #[B c,I J d,I J e,I J f,I J g,B h] 78));have ao:aq Z j.heap.size #[B c,I J d,I J e,I J f,I J g,B h] 78:=by rw[v];exact aq.e _ _ _
 have ap:ae aa j Z:=by rw[v];exact(ae.a aa j).b _
 rw[<-v];obtain⟨aO,ar⟩:=ah j.heap.size;have ab:=@cf _ _ _ ao ap ar;clear v ao ap ar V W;refine(Hg n (L N 0 0) _).mono ?_;rintro b aP ⟨rfl,rfl⟩;have aQ(_:=()):kt w Z n x y q z:=⟨av,aw,ax,ay,az,aA,aD.a ((((p.2.c X).c u.2.1).c an).c ab.2.1)⟩
 have l:=(u.1.c an λb=>b).c ab.2.1 λb=>b;have m:=ab.1;have aR:=l.a 0;have aS:=l.a 1;have aT:=l.a 2;have aU:=l.a 3;have aV:=l.a 4;have aW:=l.a 5;have aX:=m.a 0;have aY:=m.a 1;have aZ:=m.a 2;have a0:=m.a 3;have a1:=m.a 4;have a2:=m.a 5;go_wp2;go_ret;simp_all
def QO(aJ a M aK aL Q aM)(a5:kt aJ a M aK aL Q aM)(ak al am R an ao k ar au av aw)(br:R.oneCell'=T)(bs:aw.oneCell'=T)(h i d)(bt:aw=L (S h) d.length i)(aN:nT a h d)(aO:d.length<=i)(aP:(d.length:Int)<=140737488351232)(C:∀c∈d,c<256)(a6:(Q:Int)<1099511627776):
 Cr 40 #[P (S ⟨M,0,N⟩),kq 3 ak al am R an ao k ar au av aw] a (B T) λo=>kt aJ o M aK aL (Q+1) aM:=by
 obtain⟨aQ,a7,a8,bu,bv,bw,a9⟩:=a5;have t:=@af _ a9;have ba:=@af _ a6;obtain⟨u,v,w,x,y,z,ax,bb,bc⟩:∃(u:Bool)(v w x y:Int)(z:Bool)(ax:Int),(∀(a:World)(e f:Nat),fE a e 0 d->e<a.heap.size->d.length<=f->Cr 80 #[L (S ⟨e,0,N⟩) d.length f] a (.tuple #[.agg #[B u,.int J v,.int J w,.int J x,.int J y,B z],.int J ax]) λo=>ae aa a o)/\
  (∀a:World,nT a h d->Cr 81 #[L (S h) d.length i] a (.tuple #[.agg #[B u,I J v,I J w,I J x,I J y,B z],I J ax]) λo=>ae aa a o):=by
  by_cases U:d=[]
  subst U;have V:∀c,¬ie [] c:=λc ⟨k,bx,bz,_,j,_⟩=>by simp at j
  exact⟨F,0,0,0,0,F,9,λa e f j g D=>Et e 0 f [] a j g D (by simp) C V,λa _=>wF (S h) 0 i a (by decide) (by decide)⟩;have aR:∀a:World,nT a h d->∃n p,h=⟨n,p,N⟩/\n<a.heap.size/\fE a n p d:=λa l=>l.elim (λl=>(U l).elim) id;by_cases A:∃c,ie d c;obtain⟨c,A⟩:=A;exact⟨c.d,c.s,c.k,c.l,c.n,c.f,0,λa e f j g D=>KN e 0 f d a j g D (by omega) C c A,λa l=>by obtain⟨n,p,rfl,g,j⟩:=aR a l;exact Hd n p i d a j g aO C c A⟩
  have V:∀c,¬ie d c:=λc l=>A ⟨c,l⟩;exact⟨F,0,0,0,0,F,9,λa e f j g D=>Et e 0 f d a j g D (by omega) C V,λa l=>by obtain⟨n,p,rfl,g,j⟩:=aR a l;exact Hc n p i d a j g aO C V⟩
 have bd:=@af _ bb;have be:=@af _ bc;have W:=@cf _ _ _ aN aP C;have bf(_:=()):∀q,ae aa a q->Calls prog 79 #[L (S h) d.length i] q λb o=>∃e f,b= .returned (L (S ⟨e,0,N⟩) d.length f)/\q.heap.size<=e/\gp o e (d++jI 8) f/\d.length+8<=f/\ae aa q o:=λq k=>by by_cases U:0<d.length;obtain b|⟨n,p,rfl,bg,bh⟩:=aN.a k;grind;exact FP n p i d q bh bg aP U;have:d=[]:=U1 (by omega);have:=FQ h i q;grind
 go_enter func40,ntmps40;go_wp2_with fail;obtain⟨aS,X⟩:=ah (a.alloc (.cells #[I J 3,I J ak,I J al,I J am,R,B an,I J ao,I J k,I J ar,I J au,B av,L (S h) d.length i] 80));have ay:aq aS a.heap.size #[I J 3,I J ak,I J al,I J am,R,B an,I J ao,I J k,I J ar,I J au,B av,L (S h) d.length i] 80:=by rw[X];exact aq.e _ _ _
 have aT:ae aa a aS:=by rw[X];exact(ae.a aa a).b _
 rw[<-X];obtain⟨aU,aV⟩:=ah a.heap.size;rw[<-aV]at ay|-;have r:=@aC _ _ ay aT;clear X ay aT aV;refine(bf () _ r.2).mono ?_;rintro b q ⟨e,f,rfl,bi,aW,bj,bk⟩;have m:=@lP _ _ _ _ _ bi aW bj bk aW.b;go_wp2_with fail;refine(bd () _ e f (by have:=lI m.2.1;intro bl bm;have g:=this bl (by rw[Uu];omega);rw[V3 bm]at g;exact g) m.2.2.2.2 (by have:=m.2.2.1;omega)).mono ?_
 rintro b E ⟨rfl,Y⟩;have az:=(r.1.c (m.2.2.2.1.c Y) λb=>b).a 11;have aA:aU<E.heap.size:=by have:=r.1.b;have:=((m.2.2.2.1.c Y)).size;omega
 have Z:=@af _ (m.2.2.2.1.c Y);have aX:=@af _ Y;go_wp2_with fail;obtain⟨aY,ab⟩:=ah (E.alloc (.cells #[B u,I J v,I J w,I J x,I J y,B z] 78));have aB:aq aY E.heap.size #[B u,I J v,I J w,I J x,I J y,B z] 78:=by rw[ab];exact aq.e _ _ _
 have aZ:ae aa E aY:=by rw[ab];exact(ae.a aa E).b _
 rw[<-ab];obtain⟨a0,aD⟩:=ah E.heap.size;rw[<-aD]at aB|-;have s:=@cf _ _ _ aB aZ aD;clear ab aB aZ aD az aA;refine(be () _ (W.1.a (r.2.c (Z.c s.2.1)))).mono ?_;rintro b G ⟨rfl,aE⟩;have az:=(r.1.c ((Z.c s.2.1).c aE) λb=>b).a 11;have aA:aU<G.heap.size:=by have:=r.1.b;have:=Z.size;have:=s.2.1.size;have:=aE.size;omega
 have ac:=@af _ aE;go_wp2_with fail;obtain⟨ad,ag⟩:=ah (G.alloc (.cells #[B u,I J v,I J w,I J x,I J y,B z] 78));have aF:aq ad G.heap.size #[B u,I J v,I J w,I J x,I J y,B z] 78:=by rw[ag];exact aq.e _ _ _
 have a1:ae aa G ad:=by rw[ag];exact(ae.a aa G).b _
 rw[<-ag];obtain⟨a2,aG⟩:=ah G.heap.size;rw[<-aG]at aF|-;have O:=@cf _ _ _ aF a1 aG;clear ag aF a1 aG az aA;have ai:=@af _ ((((r.2.c Z).c s.2.1).c ac).c O.2.1);have bn:=@af _ (((aX.c s.2.1).c ac).c O.2.1);have aj(_:=()):a.heap.size<=e/\e<a0/\e<a2:=by have j:=r.2.size;have g:=m.1;have D:=m.2.2.2.2;have bA:=aX.size;have bB:=s.2.2;have bC:=s.2.1.size;have bD:=ac.size;have bE:=O.2.2;omega
 have bo(_:=()):_:=Hh M e f h i d aQ Q a7 a8 _ ad ((t.a ai).b) rfl (by have:=t.b.b;have:=aj.1;omega) ((t.a ai).c.a λc A bp l b=>by obtain b|b:=b;have:=(t.c.c c bp).1;have:=aj.1;omega;exact l (Ur b)) (m.2.1.a bn λb=>b) m.2.2.1 (W.1.a ai) W.2.2 W.2.1 ba
 refine Uq bo ?_;rintro b bF ⟨rfl,bq,aH⟩;have aI:=(ae.a aa ad).drewN bq;have bG:=@af _ (t.d (ai.c aI) (λc b=>by rw[b];exact aj.1) aH);have a3:∀c,a.heap.size<=c->e<c->¬(ap e c\/c=M\/aQ=S ⟨c,0,N⟩):=λc A bH b=>by obtain b|b|b:=b;simp only[ap]at b;omega;have:=t.b.b;omega;have:=(t.c.c c b).1;omega
 have a4:=aj;have H:=(((s.1.c ac λb=>b).c O.2.1 λb=>b).c aI λb=>b).c aH.b (a3 a0 (by omega) a4.2.1);have K:=(O.1.c aI λb=>b).c aH.b (a3 a2 (by omega) a4.2.2);have bI:=H.a 0;have bJ:=H.a 1;have bK:=H.a 2;have bL:=H.a 3;have bM:=H.a 4;have bN:=H.a 5;have bO:=K.a 0;have bP:=K.a 1;have bQ:=K.a 2;have bR:=K.a 3;have bS:=K.a 4;have bT:=K.a 5;go_wp2;go_ret;simp_all
def QL(m a e n o p q)(M:kt m a e n o p q)(r b s t u v k w x y i)(am:t.oneCell'=T)(an:i.oneCell'=T)(ao:t=L N 0 0):
 Cr 40 #[P (S ⟨e,0,N⟩),kq 1 r b s t u v k w x y i] a (B T) λf=>kt m f e n o p q:=by
 obtain⟨O,Q,R,U,V,W,X⟩:=M;have Y:=@af _ X;have C:∀a,gh a N []:=λa=>Ur rfl;have Z(_:=()):∀a,Calls prog 13 #[I J b,L N 0 0] a λz f=>∃d:Int,z= .returned (.int J d)/\gq b [] d/\ae aa a f:=λa=>Es b N [] 0 a (C a) (by simp);have ab(_:=()):∀a,Calls prog 74 #[I J b,L N 0 0] a λz f=>∃d:Int,z= .returned (.int J d)/\gq b [] d/\ae aa a f:=λa=>yZ b N [] 0 a (C a);go_enter func40,ntmps40;go_wp2_with fail;obtain⟨D,j⟩:=ah (a.alloc (.cells #[I J 1,I J r,I J b,I J s,L N 0 0,B u,I J v,I J k,I J w,I J x,B y,i] 80));have g:aq D a.heap.size #[I J 1,I J r,I J b,I J s,L N 0 0,B u,I J v,I J k,I J w,I J x,B y,i] 80:=by rw[j];exact aq.e _ _ _
 have E:ae aa a D:=by rw[j];exact(ae.a aa a).b _
 rw[<-j];obtain⟨ac,G⟩:=ah a.heap.size;rw[<-G]at g|-;have h:=@aC _ _ g E;have ad:=g.a 2;have H:=g.a 4;clear j g E G;refine(FO _).mono ?_;rintro c ap ⟨rfl,rfl⟩;go_wp2_with fail;refine(Z () _).mono ?_;rintro c ag ⟨d,rfl,A,ai⟩;have aj:=@af _ A;have l:=@af _ ai;have ad:=(h.1.c l λc=>c).a 2;have H:=(h.1.c l λc=>c).a 4;have ar:ac<ag.heap.size:=by have:=h.1.b;have:=l.size;omega
 go_wp2_with fail;refine(ab () _).mono ?_;rintro c ak ⟨au,rfl,A,al⟩;have av:=A.b aj;have K:=@af _ (l.c al);have H:=(h.1.c K λc=>c).a 4;go_wp2_with fail;refine(He e (L N 0 0) _).mono ?_;rintro c aw ⟨rfl,rfl⟩;have ax(_:=()):kt m ak e n o p q:=⟨O,Q,R,U,V,W,Y.a (h.2.c K)⟩
 go_wp2;go_ret;simp_all
def QM(V a q W X Y r)(ap:kt V a q W X Y r)(w g x y z A k C D E s)(a1:y.oneCell'=T)(a2:s.oneCell'=T)(h i b)(a3:y=L (S h) b.length i)(Z:gh a (S h) b)(ar:(b.length:Int)<=5864062014700)(au:(r:Int)<1099511627776):
 Cr 40 #[P (S ⟨q,0,N⟩),kq 1 w g x y z A k C D E s] a (B T) λm=>kt V m q W X Y (r+1):=by
 obtain⟨a4,a5,a6,av,aw,ax,ay⟩:=ap;have o:=@af _ ay;have az:=@af _ au;have G:=@aC _ _ Z ar;have aA(_:=()):∀j,ae aa a j->Calls prog 73 #[L (S h) b.length i] j λc m=>∃d e,c= .returned (L (S ⟨d,0,N⟩) b.length e)/\j.heap.size<=d/\rE m d (b++jV 8) e/\b.length+8<=e/\ae aa j m:=λj k=>by by_cases ab:0<b.length;obtain⟨aB,aD,aE,aF,aG⟩:=(Z.a k).b ab;cases aE;exact FM aB aD i b j aG aF (by omega) ab;have:b=[]:=U1 (by omega);subst this;have:=FN h i j;omega
 have aH(_:=()):∀a d e,mU a d 0 b->d<a.heap.size->b.length<=e->Calls prog 13 #[I J g,L (S ⟨d,0,N⟩) b.length e] a λH m=>∃n:Int,H= .returned (.int J n)/\gq g b n/\ae aa a m:=λa d e t ac aI=>Es g _ b e a (Up ⟨d,0,rfl,ac,t⟩) aI;have aJ(_:=()):∀a,gh a (S h) b->Calls prog 74 #[I J g,L (S h) b.length i] a λH m=>∃n:Int,H= .returned (.int J n)/\gq g b n/\ae aa a m:=λa t=>yZ g _ b i a t;go_enter func40,ntmps40;go_wp2_with fail;obtain⟨ad,u⟩:=ah (a.alloc (.cells #[I J 1,I J w,I J g,I J x,L (S h) b.length i,B z,I J A,I J k,I J C,I J D,B E,s] 80));have K:aq ad a.heap.size #[I J 1,I J w,I J g,I J x,L (S h) b.length i,B z,I J A,I J k,I J C,I J D,B E,s] 80:=by rw[u];exact aq.e _ _ _
 have ag:ae aa a ad:=by rw[u];exact(ae.a aa a).b _
 rw[<-u];obtain⟨M,ai⟩:=ah a.heap.size;rw[<-ai]at K|-;have f:=@aC _ _ K ag;clear u K ag ai;refine(aA () _ f.2).mono ?_;rintro c j ⟨d,e,rfl,aK,aj,aL,aM⟩;have l:=@lP _ _ _ _ _ aK aj aL aM aj.b;have aN:=(f.1.c l.2.2.2.1 λc=>c).a 2;have ak:M<j.heap.size:=by have:=f.1.b;have:=l.2.2.2.1.size;omega
 go_wp2_with fail;refine(aH () _ d e (by intro aO aP al;rw[Ve];refine l.2.1.c aO aP ?_;rw[vR,Ux (Ul.1 al).1];exact al) l.2.2.2.2 (by have:=l.2.2.1;omega)).mono ?_
 rintro c aQ ⟨n,rfl,O,am⟩;have aR:=@af _ O;have aS:=@af _ am;have p:=@af _ (l.2.2.2.1.c am);have aN:=(f.1.c p λc=>c).a 2;have aT:=(f.1.c p λc=>c).a 4;have ak:M<aQ.heap.size:=by have:=f.1.b;have:=p.size;omega
 go_wp2_with fail;refine(aJ () _ (G.1.a (f.2.c p))).mono ?_;rintro c Q ⟨a7,rfl,O,an⟩;have a8:=O.b aR;have R:=@af _ (p.c an);have aU:=@af _ (aS.c an);have aT:=(f.1.c R λc=>c).a 4;have ak:M<Q.heap.size:=by have:=f.1.b;have:=R.size;omega
 have v:=@af _ (f.2.c R);have U(_:=()):a.heap.size<=d:=by have t:=f.2.size;have ac:=l.1;omega
 have aV(_:=()):_:=Hf q d e h i b av r aw ax _ Q ((o.a v).b) rfl (by have:=o.b.b;have:=U;omega) ((o.a v).e.a λao a9 aW aX c=>by obtain c|c:=c;have:=(o.e.c ao aW).1;have:=U;omega;exact aX (Ur c)) (l.2.1.a aU λc=>c) l.2.2.1 (G.1.a v) G.2 az
 go_wp2_with fail;refine Uq aV ?_;rintro c ba ⟨rfl,aY,aZ⟩;have a0:=(ae.a aa Q).drewN aY;have bb:=@af _ (o.f (v.c a0) (λao c=>by rw[c];exact U) aZ);go_wp2;go_ret;simp_all
def QK(g e f h i a b)(s:kt g e f h i a b)(w:iM)(E:w.b e)(M:1<=w.a)(O:w.a<=3)(y:(a:Int)<1099511627776)(Q:(b:Int)<1099511627776):
 Cr 40 #[P (S ⟨f,0,N⟩),w.v] e (B T) λj=>∃G H,G<=a+1/\H<=b+1/\kt g j f h i G H:=by
 obtain⟨z,t,u,v,Z,R,U,k,l,m,n,o,p,aa,V,W⟩:=w;simp only at M O;obtain rfl|rfl|rfl:z=1\/z=2\/z=3:=by omega
 obtain⟨q,r,A⟩|⟨C,q,r,D⟩:=E.e;subst q r A;refine(QL g e f h i a b s t u v (L N 0 0) k l m n o p _ rfl rfl rfl).mono ?_;rintro x j ⟨c,d⟩;exact⟨c,a,b,by omega,by omega,d⟩;subst q;refine(QM g e f h i a b s t u v _ k l m n o p _ rfl rfl C U R rfl r D Q).mono ?_;rintro x j ⟨c,d⟩;exact⟨c,a,b+1,by omega,by omega,d⟩;by_cases K:iZ k l m n o p=0;refine(QQ g e f h i a b s t u v _ k l m n o p _ rfl rfl K y).mono ?_;rintro x j ⟨c,d⟩;exact⟨c,a+1,b,by omega,by omega,d⟩;refine(QP g e f h i a b s t u v _ k l m n o p _ rfl rfl K y).mono ?_;rintro x j ⟨c,d⟩;exact⟨c,a+1,b,by omega,by omega,d⟩;obtain⟨q,r,A⟩|⟨C,q,r,D,X,Y⟩:=E.a;subst q r A;refine(QN g e f h i a b s t u v _ k l m n o p (L N 0 0) rfl rfl rfl y).mono ?_;rintro x j ⟨c,d⟩;exact⟨c,a,b,by omega,by omega,d⟩;subst q;refine(QO g e f h i a b s t u v _ k l m n o p _ rfl rfl C W V rfl r Y D X y).mono ?_;rintro x j ⟨c,d⟩;exact⟨c,a+1,b,by omega,by omega,d⟩
def yV(a b)(l: -9223372036854775808<=a)(m:a<=9223372036854775807)(i:0<b)(n:b<4294967296):
 ∃c:Nat,(c:Int)<b/\∀f,Cr 45 #[.int J a,.int J b] f (.int J c) λk=>f=k:=by
 by_cases o:a<0
 .have j:(-(a+1)).tmod b=(-(a+1))%b:=Int.tmod_eq_emod_of_nonneg (by omega);have d:=Int.emod_nonneg (-(a+1)) (show b≠0 by omega);have g:=Int.emod_lt_of_pos (-(a+1)) i;obtain⟨c,e⟩:∃c:Nat,(c:Int)=(-(a+1))%b:=⟨((-(a+1))%b).toNat,VV d⟩
  have h:Hid (-(a+1).tmod b=(c:Int)):=by rw[e,<-j,Int.neg_tmod];rfl
  refine⟨c,by omega,λf=>?_⟩;clear j d g e;go_enter func45,ntmps45;go_wp2;go_ret;exact⟨rn h.out,rfl⟩
 .have d:=Int.emod_nonneg a (show b≠0 by omega);have g:=Int.emod_lt_of_pos a i;obtain⟨c,e⟩:∃c:Nat,(c:Int)=a%b:=⟨(a%b).toNat,VV d⟩
  have h:Hid (a%b=(c:Int)):=e.symm;refine⟨c,by omega,λf=>?_⟩;clear d g e;go_enter func45,ntmps45;go_wp2;go_ret;exact⟨rn h.out,rfl⟩
def Pp{k b c d}(f:bJ k b c d=T):∃a,dC a/\k=(a.a:Int)/\b=(a.c:Int)/\c=(a.b:Int)/\d=a.d:=by
 have g:iZ T 0 k b c d=0:=by unfold iZ;rw[Us (by omega),UG (Ur ⟨rfl,f⟩)]
 obtain⟨h,i,e⟩:=Bf g;obtain⟨w,x,j,l,m,n⟩:=h;simp only[fv,fc,Array.mk.injEq,XL,Value.bool.injEq,Value.int.injEq,XT,XU]at e;obtain⟨y,z,o,p,q,r⟩:=e;obtain⟨_,⟨_,s,t,u,v⟩|⟨A,_⟩⟩:=i;exact⟨⟨j,l,m,n⟩,⟨s,t,u,v⟩,o.symm,p.symm,q.symm,r.symm⟩;grind
def fQ(c d:World)(e:Nat)(f:Value)(g:World->(Nat->Nat)->Prop)(h:Nat):Prop:=∃(i:Nat->Nat)(j:Option Addr)(k:Nat)(a:List Lp)(b:Nat->Rw)(l:World->(Nat->Nat)->Prop),LS c d i e j k a f b g l/\hU a/\bZ b a<=h
def fQ.b{a b w' c d e f}(g:fQ a b c d e f)(k:ae aa b w'):fQ a w' c d e f:=
 let ⟨h,i,j,l,m,n,o,p,q⟩:=g;⟨h,i,j,l,m,n,o.a k,p,q⟩
def fQ.a{a b c d e f g}(h:fQ a b c d e f)(i:f<=g):fQ a b c d e g:=
 let ⟨j,k,l,m,n,o,p,q,r⟩:=h;⟨j,k,l,m,n,o,p,q,UM r i⟩
def GX{e a b c d}(g:a[b]?=S c){f}(h:d.e.l<=c.e.l+f):bZ e (a.set b d)<=bZ e a+f:=by have:=uL a b c d g;unfold bZ;rw[UA];omega
def Sn(H h t K u v b M R O w)(x:LS H h t K u v b M R O w)(y:hU b)(m a)(c:b[m]?=S a)(k i j l)(aj:(bZ R b:Int)<1000000000):
 ∃Q,Calls prog 84 #[P (S ⟨a.b,0,N⟩),.agg #[.int J k,.int J i,.int J j,B l]] h λg n=>g= .returned (.int J Q)/\ae (λE=>t E=20+4*m) h n/\
  ∀d,ae aa n d->Cr 85 #[P (S ⟨a.a,0,N⟩),.agg #[.int J k,.int J i,.int J j,B l]] d (.int J Q) λz=>fQ H z K M O (bZ R b+6):=by
 have A:=y m a c;have C:=x.f c;have ak:=tC (R:=R) c;by_cases U:bJ k i j l=T;obtain⟨f,D,rfl,rfl,rfl,rfl⟩:=Pp U;by_cases V:a.e.aJ+a.e.aI.length=65536;refine⟨1,(So nj 147 a.b 0 a.e a.p f D h C.iJ V).mono ?_⟩;rintro g n ⟨rfl,o⟩;refine⟨rfl,o.d λ_ _ q=>q.elim,λd r=>?_⟩;have s:=(x.a o).a r;refine(G6 a.a a.r a.q f D d (s.f c).js (by rw[<-A.m];exact V)).mono ?_;rintro g z ⟨rfl,G⟩;exact⟨rfl,t,u,v,b,R,w,s.a G,y,by omega⟩;have W:a.e.aJ+a.e.aI.length<65536:=by have:=C.iJ.jn;omega
 refine⟨0,(Sr nj 147 a.b 0 a.e a.p f D h C.iJ W (by omega)).mono ?_⟩;rintro g n ⟨rfl,X,ad,Y⟩;obtain⟨al,af,am,_⟩:=x.o c ad Y;refine⟨rfl,Y.c.d λE _ q=>C.tp E q.a,λd r=>?_⟩;have s:=af.a r;have Z:(b.set m {a with e:=a.e.n f,p:=X})[m]?=S {a with e:=a.e.n f,p:=X}:=UQ (Ul.1 c).1;refine(G8 a.a a.r a.q f D d (s.f Z).js (by rw[<-A.m];exact W) (by rw[<-A.b];omega)).mono ?_;rintro g z ⟨rfl,an,ag,ah⟩;obtain⟨ai,ab,_,_⟩:=s.p Z ag ah;rw[Xu]at ab;exact⟨rfl,ai,u,v,_,R,w,ab,y.a c (A.s f),GX c (T3 a.e f)⟩;have ac:bJ k i j l=F:=by simpa using U
 refine⟨10,(Sq a.b 0 k i j l ac h).mono ?_⟩;rintro g n ⟨rfl,o⟩;refine⟨rfl,o.d λ_ _ q=>q.elim,λd r=>?_⟩;refine(G7 a.a k i j l ac d).mono ?_;rintro g z ⟨rfl,G⟩;exact⟨rfl,t,u,v,b,R,w,((x.a o).a r).a G,y,by omega⟩
def OM(j a s g O Q b l h m R)(t:LS j a s g O Q b l h m R)(U:hU b)(u:Nat)(c)(V:b[u]?=S c)(W:(bZ h b:Int)<1000000000)(v w x n y z k d e f o)(ay:n.oneCell'=T)(az:o.oneCell'=T):
 Cr 44 #[P (S ⟨g,0,N⟩),.agg #[P (S ⟨c.b,0,N⟩),P (S ⟨c.a,0,N⟩)],kq 5 v w x n y z k d e f o] a (B T) λZ=>fQ j Z g l m (bZ h b+24):=by
 obtain⟨A,C⟩:=ah c.b;obtain⟨D,E⟩:=ah c.a;have X:=@af _ t.d;have ab:Unit->∀i,ae aa a i->∃G:Int,Calls prog 84 #[P (S ⟨A,0,N⟩),.agg #[I J k,I J d,I J e,B f]] i λH K=>H= .returned (.int J G)/\ae (λac=>s ac=20+4*u) i K/\
  ∀M,ae aa K M->Cr 85 #[P (S ⟨D,0,N⟩),.agg #[I J k,I J d,I J e,B f]] M (I J G) λad=>fQ j ad g l m (bZ h b+6):=λ_ i ag=>by
  rw[C,E];exact Sn j i s g O Q b l h m R (t.a ag) U u c V k d e f W
 rw[<-C,<-E];clear t U V W C E;go_enter func44,ntmps44;go_wp2_with fail;obtain⟨p,q⟩:=ah ((a.alloc (.cells #[P (S ⟨A,0,N⟩),P (S ⟨D,0,N⟩)] 98)).alloc (.cells #[I J 5,I J v,I J w,I J x,n,B y,I J z,I J k,I J d,I J e,B f,o] 80));have ai:aq p a.heap.size #[P (S ⟨A,0,N⟩),P (S ⟨D,0,N⟩)] 98:=by rw[q];exact(aq.e _ _ _).g _
 have aj:aq p (a.heap.size+1) #[I J 5,I J v,I J w,I J x,n,B y,I J z,I J k,I J d,I J e,B f,o] 80:=by rw[q];exact aq.h _ _ _ _ (by simp)
 have ak:ae aa a p:=by rw[q];exact((ae.a aa a).b _).b _
 rw[<-q];have al:=@af _ ai;have am:=@af _ aj;have an:=@af _ ak;obtain⟨G,ao⟩:=ab () p an;have ap:=@af _ ao;refine Uq ap ?_;rintro H K ⟨rfl,Y,ar⟩;have au:=@af _ ar;have aA:=(al.c Y λav=>by have:=X () a.heap.size (by omega);omega).a 1;have r:=am.c Y (λav=>by have:=X () (a.heap.size+1) (by omega);omega);have aB:=r.a 7;have aC:=r.a 8;have aD:=r.a 9;have aE:=r.a 10;go_wp2_with fail;refine Uq (au () _ (ae.a _ _)) ?_;rintro H M ⟨rfl,aw⟩;have ax:=@af _ aw;go_wp2;go_ret;exact⟨by simp,ax.a (by omega)⟩
def TA(k f l m n o c q R r s)(t:LS k f l m n o c q R r s)(u:hU c)(d a)(b:c[d]?=S a)(U:(bZ R c:Int)<1000000000):
 Calls prog 87 #[P (S ⟨a.b,0,N⟩)] f λh i=>h= .returned (.tuple #[])/\ae (λj=>l j=20+4*d) f i/\
  ∀g,ae aa i g->Cr 88 #[P (S ⟨a.a,0,N⟩)] g (.tuple #[]) λv=>fQ k v m q r (bZ R c+24):=by
 have w:=u d a b;have x:=t.f b;have V:=tC (R:=R) b;refine(Tz nj 147 a.b 0 a.e a.p f x.iJ (by omega)).mono ?_;rintro h i ⟨rfl,y,E,z⟩;obtain⟨W,G,X,_⟩:=t.o b E z;refine⟨rfl,z.c.d λj _ H=>x.tp j H.a,λg K=>?_⟩;have A:=G.a K;have C:(c.set d {a with e:=a.e.o,p:=y})[d]?=S {a with e:=a.e.o,p:=y}:=UQ (Ul.1 b).1;refine(Ha a.a a.r a.q g (A.f C).js (by rw[<-w.b];omega)).mono ?_;rintro h v ⟨rfl,Y,M,O⟩;obtain⟨Q,D,_,_⟩:=A.p C M O;rw[Xu]at D;exact⟨rfl,Q,n,o,_,R,s,D,u.a b w.w,GX b (T4 a.e)⟩
def ON(g a j d y z b h e i A)(l:LS g a j d y z b h e i A)(C:hU b)(m:Nat)(c)(D:b[m]?=S c)(E:(bZ e b:Int)<1000000000)(G H K n M O k Q R U o)(am:n.oneCell'=T)(an:o.oneCell'=T):
 Cr 44 #[P (S ⟨d,0,N⟩),.agg #[P (S ⟨c.b,0,N⟩),P (S ⟨c.a,0,N⟩)],kq 8 G H K n M O k Q R U o] a (B T) λV=>fQ g V d h i (bZ e b+24):=by
 obtain⟨p,q⟩:=ah c.b;obtain⟨r,s⟩:=ah c.a;have W:=@af _ l.d;have X:Unit->∀f,ae aa a f->Calls prog 87 #[P (S ⟨p,0,N⟩)] f λt u=>t= .returned (.tuple #[])/\ae (λY=>j Y=20+4*m) f u/\
  ∀v,ae aa u v->Cr 88 #[P (S ⟨r,0,N⟩)] v (.tuple #[]) λZ=>fQ g Z d h i (bZ e b+24):=λ_ f ab=>by
  rw[q,s];exact TA g f j d y z b h e i A (l.a ab) C m c D E
 rw[<-q,<-s];clear l C D E q s;go_enter func44,ntmps44;go_wp2_with fail;obtain⟨w,x⟩:=ah ((a.alloc (.cells #[P (S ⟨p,0,N⟩),P (S ⟨r,0,N⟩)] 98)).alloc (.cells #[I J 8,I J G,I J H,I J K,n,B M,I J O,I J k,I J Q,I J R,B U,o] 80));have ac:aq w a.heap.size #[P (S ⟨p,0,N⟩),P (S ⟨r,0,N⟩)] 98:=by rw[x];exact(aq.e _ _ _).g _
 have ad:ae aa a w:=by rw[x];exact((ae.a aa a).b _).b _
 rw[<-x];have ag:=@af _ ac;have ai:=@af _ ad;refine Uq (X () w ai) ?_;rintro t u ⟨rfl,aj,ak⟩;have al:=@af _ ak;have ao:=(ag.c aj λap=>by have:=W () a.heap.size (by omega);omega).a 1;go_wp2_with fail;refine Uq (al () _ (ae.a _ _)) ?_;rintro t v ⟨rfl,ar⟩;go_wp2;go_ret;simp_all
def OK(f c x d q r b g R h y)(z:LS f c x d q r b g R h y)(s:hU b)(i:Nat)(a)(e:b[i]?=S a)(X:(bZ R b:Int)<1000000000)(A C D t E G k H j K u)(ap:t.oneCell'=T)(aq:u.oneCell'=T):
 Cr 44 #[P (S ⟨d,0,N⟩),.agg #[P (S ⟨a.b,0,N⟩),P (S ⟨a.a,0,N⟩)],kq 9 A C D t E G k H j K u] c (B T) λl=>fQ f l d g h (bZ R b+24):=by
 obtain⟨M,v⟩:=ah a.b;obtain⟨O,w⟩:=ah a.a;have Y(_:=()):∀m,ae aa c m->Calls prog 89 #[P (S ⟨d,0,N⟩),.agg #[P (S ⟨M,0,N⟩),P (S ⟨O,0,N⟩)]] m λQ l=>∃n j o,Q= .returned (.tuple #[L n j o,B T])/\fQ f l d g h (bZ R b+24):=λm Z=>by rw[v,w];have ar:=tC (R:=R) e;have U:=mh R b;have au:=U.1 0 (by omega);have av:=U.1 5 (by omega);refine(GM f m x d q r b g R h y (z.a Z) i a e (s i a e) (by omega) (by omega)).mono ?_;rintro Q l ⟨n,o,aw,rfl,ab,ac,ad,ag,ax,ay,ai,aj,ak,al,p⟩;refine⟨n,_,o,rfl,ab,q,r,_,ac,_,ag,s.a e aj,?_⟩;have am:=uL b i a ad e;have az:=Iq a.e;have aA:=yU a.e.aA;rw[ai]at am;unfold bZ;rw[ak,al,p 1 (by omega) (by omega),p 2 (by omega) (by omega),p 3 (by omega) (by omega),p 4 (by omega) (by omega),UA];omega
 rw[<-v,<-w];clear z s e X v w;go_enter func44,ntmps44;go_wp2_with fail;obtain⟨V,W⟩:=ah ((c.alloc (.cells #[P (S ⟨M,0,N⟩),P (S ⟨O,0,N⟩)] 98)).alloc (.cells #[I J 9,I J A,I J C,I J D,t,B E,I J G,I J k,I J H,I J j,B K,u] 80));have an:ae aa c V:=by rw[W];exact((ae.a aa c).b _).b _
 rw[<-W];have ao:=@af _ an;refine Uq (Y () V ao) ?_;rintro aB aC ⟨n,aD,o,rfl,aE⟩;go_wp2;go_ret;simp_all
def ER(m c d g n o a p R q s)(x:LS m c d g n o a p R q s)(t:hU a)(h:Nat)(b)(e:a[h]?=S b)(Q:(bZ R a:Int)<1000000000)(i j r)(u:lR c i j r)(y:∀f z,i=S ⟨f,z,N⟩->f<c.heap.size->j≠[]->d f=9\/(2<=d f/\d f<=8)):
 Cr 86 #[P (S ⟨g,0,N⟩),.agg #[P (S ⟨b.b,0,N⟩),P (S ⟨b.a,0,N⟩)],L i j.length r] c (B T) λv=>fQ m v g p q (bZ R a+24):=by
 obtain⟨k,A⟩:=FF u.c;have U:=tC (R:=R) e;have w:=mh R a;have V:=w.1 0 (by omega);have W:=w.1 2 (by omega);refine(EQ m c d g n o a p R q s x h b e (t h b e) i j r u y k A (by omega) (by omega) (by omega)).mono ?_;rintro X v ⟨rfl,C,D,E,G,Y,Z,H,K,aa,ab,l,_,_⟩;refine⟨rfl,C,n,o,_,D,_,G,t.a e K,?_⟩;have M:=uL a h b E e;have ac:=Ip b.e k;have ad:ow k<=3:=by
  cases k with
  |none=>exact Vl _
  |some O=>show fw O-3<=3;unfold fw;split<;>omega
 rw[H]at M;unfold bZ;rw[l 1 (by omega) (by omega),l 3 (by omega) (by omega),l 4 (by omega) (by omega),l 5 (by omega) (by omega),UA];omega
def OJ(h a w b x y c l i m z)(p:LS h a w b x y c l i m z)(A:hU c)(C:Nat)(e)(D:c[C]?=S e)(E:(bZ i c:Int)<1000000000)(G H K q M O k Q R U r f g j)(am:r=L f g.length j)(V:lR a f g j)(s:∀d n,f=S ⟨d,n,N⟩->g≠[]->d<h.heap.size/\d≠b)(an:q.oneCell'=T)(ag:r.oneCell'=T):
 Cr 44 #[P (S ⟨b,0,N⟩),.agg #[P (S ⟨e.b,0,N⟩),P (S ⟨e.a,0,N⟩)],kq 6 G H K q M O k Q R U r] a (B T) λt=>fQ h t b l m (bZ i c+24):=by
 obtain⟨W,u⟩:=ah e.b;obtain⟨X,v⟩:=ah e.a;have ai(_:=()):∀o,ae aa a o->Cr 86 #[P (S ⟨b,0,N⟩),.agg #[P (S ⟨W,0,N⟩),P (S ⟨X,0,N⟩)],L f g.length j] o (B T) λt=>fQ h t b l m (bZ i c+24):=λo Y=>by rw[u,v];exact ER h o w b x y c l i m z (p.a Y) A C e D E f g j (V.a Y λ_ _ _ _ _ aj=>aj) λd n Z ao ab=>Ur (p.b.e d (s d n Z ab).1 (s d n Z ab).2)
 rw[<-u,<-v];clear p A D E u v V s ag;generalize g.length=dn at *;go_enter func44,ntmps44;go_wp2_with fail;obtain⟨ac,ad⟩:=ah ((a.alloc (.cells #[P (S ⟨W,0,N⟩),P (S ⟨X,0,N⟩)] 98)).alloc (.cells #[I J 6,I J G,I J H,I J K,q,B M,I J O,I J k,I J Q,I J R,B U,(L f dn j)] 80));have ak:ae aa a ac:=by rw[ad];exact((ae.a aa a).b _).b _
 rw[<-ad];have al:=@af _ ak;refine Uq (ai () ac al) ?_;rintro ap aq ⟨rfl,ar⟩;go_wp2;go_ret;simp_all
def ld.a{a c z d h e f b g}(m:ld d (S ⟨b,g,N⟩) e (jA a) (r9 a c z))(n:b<d.heap.size)(k:ae aa d h)(o:f<e)(p:a≠0){j i}(l:(qq a c z)[j]?=S i):h.cell? ⟨b,g+(f*jA a+j),N⟩=S i:=by
 have r:(qq a c z).length=jA a:=by unfold qq jA;split<;>simp_all
 have:=(Ul.1 l).1;rw[<-FC p l];refine(k.f b _ n λq=>q).trans (m b g rfl _ ?_);have:=V8 (jA a) (show f+1<=e from o);rw[V6]at this;omega
def nu.m{aK e an R aL aM ao}(C:nu aK e an R aL aM ao)(ap:∀n,n<6->((ao n).n:Int)<1099511627776)(W)(aN:W=48\/W=28/\∀l,ae aa e l->Cr 48 #[P (S ⟨R,2,N⟩)] l (B T) λw=>ae aa e w):
 Cr W #[P (S ⟨R,2,N⟩)] e (B T) λw=>ae aa e w:=by
 have D(_:=()):∀n,n<6->∃A d x y,(∀l,ae aa e l->l.cell? ⟨R,n+2,N⟩=S (L A d x))/\D6 e A d x y/\(∀a b,y[a]?=S b->um n e a b λaO=>an aO=1)/\(d:Int)<1099511627776:=λn X=>by refine⟨_,_,_,_,λl h=>((C.a.c h λq=>q).a (n+2)).trans ?_,(C.c n X).d,C.i n X,ap n X⟩;obtain rfl|rfl|rfl|rfl|rfl|rfl:=(by omega:n=0\/n=1\/n=2\/n=3\/n=4\/n=5)<;>rfl
 clear C ap;obtain rfl|⟨rfl,aq⟩:=aN;obtain⟨A,d,x,y,k⟩:=D () 3 (by omega);have i:=@af _ k;have r:=k.1 e (ae.a _ _);clear k;focus
  go_enter func48,ntmps48;go_wp2_with fail
 clear r;focus go_loopw [3] (λb wr=>∃a:Nat,a<=d/\b= .int J a/\ae aa e wr) λb _=>d-(intOf b).toNat
 case atStart=>exact⟨0,by omega,rfl,ae.a _ _⟩
 obtain⟨a,s,rfl,f⟩:=hrel;have c:=@af _ f;have o:=i.1 wr f;clear f;by_cases t:a<d;have Y:=VU;rotate_left
 have u:a=d:=by omega
 subst u;clear t s i;obtain⟨A,d,x,y,k⟩:=D () 4 (by omega);have i:=@af _ k;have r:=k.1 _ c;clear k;focus go_wp2_with fail
 clear o r;focus go_loopw [7] (λb wr=>∃a:Nat,a<=d/\b= .int J a/\ae aa e wr) λb _=>d-(intOf b).toNat
 case atStart=>exact⟨0,by omega,rfl,c⟩
 clear c;obtain⟨a,s,rfl,f⟩:=hrel;have c:=@af _ f;have o:=i.1 wr f;clear f;by_cases t:a<d;have ar:=VU;rotate_left
 have u:a=d:=by omega
 subst u;clear t s i;obtain⟨A,d,x,y,k⟩:=D () 5 (by omega);have i:=@af _ k;have r:=k.1 _ c;clear k;focus go_wp2_with fail
 clear o r;focus go_loopw [10] (λb wr=>∃a:Nat,a<=d/\b= .int J a/\ae aa e wr) λb _=>d-(intOf b).toNat
 case atStart=>exact⟨0,by omega,rfl,c⟩
 clear c;obtain⟨a,s,rfl,f⟩:=hrel;have c:=@af _ f;have o:=i.1 wr f;clear f;by_cases t:a<d;have Z:=VU;rotate_left
 have u:a=d:=by omega
 subst u
 .clear i t s;go_wp2;go_ret;exact⟨rfl,c⟩
 have au:=@af _ aq;clear aq;obtain⟨A,d,x,y,k⟩:=D () 0 (by omega);have i:=@af _ k;have r:=k.1 e (ae.a _ _);clear k;focus
  go_enter func28,ntmps28;go_wp2_with fail
 clear r;focus go_loopw [3] (λb wr=>∃a:Nat,a<=d/\b= .int J a/\ae aa e wr) λb _=>d-(intOf b).toNat
 case atStart=>exact⟨0,by omega,rfl,ae.a _ _⟩
 obtain⟨a,s,rfl,f⟩:=hrel;have c:=@af _ f;have o:=i.1 wr f;clear f;by_cases t:a<d;have Y:=VU;rotate_left
 have u:a=d:=by omega
 subst u;clear t s i;obtain⟨A,d,x,y,k⟩:=D () 1 (by omega);have i:=@af _ k;have r:=k.1 _ c;clear k;focus go_wp2_with fail
 clear o r;focus go_loopw [6] (λb wr=>∃a:Nat,a<=d/\b= .int J a/\ae aa e wr) λb _=>d-(intOf b).toNat
 case atStart=>exact⟨0,by omega,rfl,c⟩
 clear c;obtain⟨a,s,rfl,f⟩:=hrel;have c:=@af _ f;have o:=i.1 wr f;clear f;by_cases t:a<d;have av:=VU;rotate_left
 have u:a=d:=by omega
 subst u;clear t s i;obtain⟨A,d,x,y,k⟩:=D () 2 (by omega);have i:=@af _ k;have r:=k.1 _ c;clear k;focus go_wp2_with fail
 clear o r;focus go_loopw [9] (λb wr=>∃a:Nat,a<=d/\b= .int J a/\ae aa e wr) λb _=>d-(intOf b).toNat
 case atStart=>exact⟨0,by omega,rfl,c⟩
 clear c;obtain⟨a,s,rfl,f⟩:=hrel;have c:=@af _ f;have o:=i.1 wr f;clear f;by_cases t:a<d;have aw:=VU;rotate_left
 have u:a=d:=by omega
 subst u
 .clear i t s;go_wp2_with fail;refine(au () _ c).mono ?_;rintro q w ⟨rfl,aP⟩;go_wp2;go_ret;exact⟨rfl,aP⟩
 all_goals as_aux_lemma=>
  try clear au
  clear D;obtain⟨b,ab⟩:∃b,y[a]?=S b:=⟨_,Um (by have:=i.2.1.1;omega)⟩
  obtain⟨ax,rfl,ac⟩:=i.2.1.2.2 a b ab;obtain⟨ad,ay,az,aA,aQ,rfl,aB,aC,aR,aD⟩:=i.2.2.1 a b ab;have ag(_:=()):∀l,ae aa e l->l.cell? ⟨ax,a,N⟩=S (L (S ⟨aA,0,N⟩) 4 4):=λl ai=>(ai.f ax a (UL e _ ac) λq=>q).trans ac;have aj:=@cf _ _ _ aB aC az;have aS:=@af _ aD;have a4:(a:Int)<d:=by omega
  have aE:(a:Int)<1099511627776:=by have:=i.2.2.2;omega
  have a5:(d:Int)<=x:=by have:=i.2.1.2.1;omega
  have a6:IntKind.i64.wrap (-7070-(a:Int))= -7070-(a:Int):=by rw[VM];omega
  have a7:IntKind.i64.wrap ((a:Int)+1)=(a:Int)+1:=by rw[VM];omega
  have aF:=@af _ aE;clear ab aB aC aR aD aE ac az;have U:=ag () wr c;try
   have aG(_:=()):∀v,Cr 100 #[I J a] v (.string (kM ⟨#[80]⟩ a)) λw=>w=v:=λv=>GS a v aF
   obtain⟨aT,ak⟩:=ah (kM ⟨#[80]⟩ a)
   rw[<-ak]at aG
   have aU(_:=()):∀l,ae aa e l->(convert 56 9 (rr a ad ay)).run prog l= .ok (.string aT) l:=λl h=>by have aH:=aj.2.2 ad _ rfl;rw[ak,rr,mM l ad 0 ay _ (aH.2.2.a h aH.2.1 λq=>q),Lj]
   have:=Z
   clear ak
   go_wp2_with fail
   refine(aG () _).mono ?_
   rintro q w ⟨rfl,rfl⟩
  go_wp2_with fail;clear o U;first|(have:=Y;go_loopw [4] (λb wr=>∃h:Nat,h<=4/\b= .int J h/\ae aa e wr) λb _=>4-(intOf b).toNat)|(have:=av;go_loopw [7] (λb wr=>∃h:Nat,h<=4/\b= .int J h/\ae aa e wr) λb _=>4-(intOf b).toNat)|(have:=aw;go_loopw [10] (λb wr=>∃h:Nat,h<=4/\b= .int J h/\ae aa e wr) λb _=>4-(intOf b).toNat)|(have:=ar;go_loopw [8] (λb wr=>∃h:Nat,h<=4/\b= .int J h/\ae aa e wr) λb _=>4-(intOf b).toNat)|(have:=Z;go_loopw [12] (λb wr=>∃h:Nat,h<=4/\b= .int J h/\ae aa e wr) λb _=>4-(intOf b).toNat)
  case atStart=>exact⟨0,by omega,rfl,c⟩
  case round=>
   obtain⟨h,a8,rfl,f⟩:=hrel;clear c;have c:=@af _ f;clear f;have o:=i.1 wr c;have U:=ag () wr c;by_cases aV:h<4
   .obtain⟨K,al⟩:∃K,aQ[h]?=S K:=⟨_,Um (by rw[aj.2.1];exact aV)⟩
    have am(_:=()):∀l,ae aa e l->l.cell? ⟨aA,h,N⟩=S K.d:=λl ai=>by rw[(aj.1.c ai λq=>q).a h,UN,Uz,al];rfl
    have a9:(h:Int)<4:=by omega
    have M:=@af _ (aS () K (Uo al));clear al;obtain⟨aW,p,ba⟩:=K;simp only[Ls.d]at am M;have aI:=am () wr c;go_wp2_with fail;clear o U aI;first|(have:=Y;go_loopw [5] (λm z=>∃g:Nat,g<=p/\m= .int J g/\ae aa e z) λm _=>p-(intOf m).toNat)|(have:=av;go_loopw [8] (λm z=>∃g:Nat,g<=p/\m= .int J g/\ae aa e z) λm _=>p-(intOf m).toNat)|(have:=aw;go_loopw [11] (λm z=>∃g:Nat,g<=p/\m= .int J g/\ae aa e z) λm _=>p-(intOf m).toNat)|(have:=ar;go_loopw [9] (λm z=>∃g:Nat,g<=p/\m= .int J g/\ae aa e z) λm _=>p-(intOf m).toNat)|(have:=Z;go_loopw [13] (λm z=>∃g:Nat,g<=p/\m= .int J g/\ae aa e z) λm _=>p-(intOf m).toNat)
    case atStart=>exact⟨0,by omega,rfl,c⟩
    case round=>
     obtain⟨g,bb,rfl,f⟩:=hrel;clear c;have c:=@af _ f;clear f;have o:=i.1 wr c;have U:=ag () wr c;have aI:=am () wr c;by_cases V:g<p
     .obtain⟨H,O,rfl⟩:∃H O,aW=S ⟨H,O,N⟩:=M.1.resolve_left (by omega);have E:=(M.2.2.2 H (eN H O)).2;have bc:(g:Int)<p:=by omega
      have aX:(g:Int)<4611686018427387904:=by have:=M.2.2.1;omega
      have bd:IntKind.i64.wrap ((g:Int)+1)=(g:Int)+1:=by rw[VM];omega
      have G:=M.2.1;first
      |(have Q:=G.a E c V (by omega) (j:=0) rfl
        simp only[jA,Vn,Xb]at Q
        try (have aY:=G.a E c V (by omega) (j:=1) rfl;simp only[jA,<-UI]at aY)
        try (have aZ:=G.a E c V (by omega) (j:=2) rfl;simp only[jA,<-UI]at aZ)
        try (have a0:=G.a E c V (by omega) (j:=3) rfl;simp only[jA,<-UI]at a0)
        try (have aJ:=aU () wr c;unfold rr at Q aJ;generalize (bl (kM ⟨#[80]⟩ a)).length=zl at Q aJ)
        clear G E
        go_wp2
        exact⟨⟨g+1,by omega,by go_num,by first|exact c|exact c.b _⟩,by simp[intOf];omega⟩)
      |(have Q:=(c.f H (O+g) E λq=>q).trans (G H O rfl g (by simp only[jA];omega))
        simp only[r9,VR,bv]at Q
        have a1(_:=()):∀v,Cr 47 #[I J a,I J g] v (I .u8 ((nQ a g:Nat):Int)) λw=>w=v:=λv=>(wI a g (by have:=aF;omega) aX v).mono λ_ _ C=>⟨C.1,C.2.symm⟩
        clear G E
        go_wp2_with fail
        go_quiet ((go_at_call 47;refine(a1 () _).mono ?_;rintro q v ⟨rfl,rfl⟩;exact⟨rfl,_,rfl⟩))
        go_wp2
        exact⟨⟨g+1,by omega,by go_num,c.drewN _⟩,by simp[intOf];omega⟩)
     .have a2:g=p:=by omega
      subst a2;go_wp2;go_roundw;case rel=>exact⟨h+1,by omega,by go_num,c⟩
      case measure=>simp[intOf];omega
   .have a3:h=4:=by omega
    subst a3;go_wp2;go_roundw;case rel=>exact⟨a+1,by omega,by go_num,c⟩
    case measure=>simp[intOf];omega
def nu.o{h a i b j k c}(d:nu h a i b j k c)(e:∀f,f<6->((c f).n:Int)<1099511627776):
 Cr 28 #[P (S ⟨b,2,N⟩)] a (B T) λl=>ae aa a l:=
 d.m e 28 (Up ⟨rfl,λo g=>((d.j g).m e 48 (Ur rfl)).mono λ_ _ ⟨m,n⟩=>⟨m,g.c n⟩⟩)
end Go.Proofs.YtlfijfodklhplaaGreat
