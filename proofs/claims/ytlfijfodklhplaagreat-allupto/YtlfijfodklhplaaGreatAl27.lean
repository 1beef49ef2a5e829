import Derived.Test.YtlfijfodklhplaaGreatAl26
set_option maxRecDepth 100000
set_option maxHeartbeats 4000000
set_option linter.all false
open Go.RowKit Go.Proofs.Tryz
open Go.Value renaming int->I,pointer->P,bool->B
open Go.IntKind renaming i64->J
open Option renaming some->S,none->N
open Bool renaming true->T,false->F
namespace Go.Proofs.YtlfijfodklhplaaGreat
def vK(a:ay):Prop:=a.aP=0->a.aM=0/\a.bI=0/\∀b∈a.ai,b.2=0
def TR{a}(b:a.aP=0)(f:vK a)(c:a.ai=[]):a.b= {a with aP:=2,iy:=T}:=by obtain⟨d,e,_⟩:=f b;obtain⟨g,h,i,j,k,l,m,n,o,p,q,r⟩:=a;simp only at b d e c;subst b;subst d;subst e;subst c;rfl
def TS{a}(b:a.aP=0)(g:vK a)(c:0<a.ai.length):a.b=(({a with aP:=2}:ay).e 0 1).d 0 (.bG 0):=by
 obtain⟨d,e,f⟩:=g b;obtain⟨j,k,l,h,m,n,o,p,q,r,s,t⟩:=a;simp only at b d e f c;subst b;subst d;subst e;cases h with
 |nil=>simp at c
 |cons i u=>
  have:=f i (by simp);unfold ay.b;simp[ay.u,ay.kG,this]
def CA{k l j m n o p d q a}(c:Pn k l j m n o p d q a)(g:a.aP=0)(h:vK a):
 Cr 138 #[P (S ⟨j,0,N⟩),.int J d] q (.tuple #[]) λv=>Pn k l j m n o p d v a.b:=by
 obtain⟨D,E,G,H,K,b⟩:=c.a;have M:=b.d;have O:=b.c;have Q:=b.a;have R:=b.e;have U:=b.g;have r:=b.i;have V:=b.h;have W:=b.r;have X:=b.b (d*11);have Y:=b.b (d*11+9);have s:=@af _ c;by_cases i:a.ai.length=0
 .rw[i]at r;have e:=@af _ (TR g h (U1 i));clear b c h i g;go_enter func138,ntmps138;go_wp2;(try simp only[Exit.inBlock,Exit.then]);refine UO (VX rfl _ _ _) rfl ?_;rw[e];exact⟨rfl,(s.h 2).p T⟩
 .obtain⟨Z,w,rfl⟩:=c.e (by omega);have f:=c.c 0 (by omega);have aa:=f.a;have ab:=f.d;have ac:=f.c (w+2);have x:=f.b;rw[Xr,Vn]at x;have e(_:=()):a.b=(({a with aP:=2}:ay).e 0 1).d 0 (.bG 0)/\0<a.ai.length:=⟨TS g h (by omega),by omega⟩
  have y:0<a.ai.length:=by omega
  have z:(0:Int)<(a.ai.length:Int):=by omega
  have A:¬((a.ai.length:Int)=0):=by omega
  obtain⟨ad,t⟩:=ah a.ai.length;rw[<-t]at r y z A;clear b c h i g f t;go_enter func138,ntmps138;go_wp2_with fail;refine Uq (oV (((s.h 2).c 0 e.2).e 1) 0 (.bG 0) (by unfold ay.e;simpa using e.2)) ?_;rintro ae ag ⟨rfl,u⟩;have C:=@af _ u;clear u;go_wp2;go_end0;rw[e.1];exact⟨rfl,C⟩
def B7{A C t D E G H o K a}(f:Pn A C t D E G H o K a)(p:a.bw<=1001)(i:a.bI=0->a.cB=N->∃d,a.cq=S d/\d<a.ai.length):
 Cr 216 #[P (S ⟨t,0,N⟩),.int J o] K (.tuple #[]) λR=>Pn A C t D E G H o R a.q:=by
 obtain⟨aa,ab,ac,ad,ae,b⟩:=f.a;have ag:=b.d;have ah:=b.c;have ai:=b.a;have aj:=b.e;have ak:=b.g;have U:=b.o;have u:=b.q;have v:=b.l;have w:=b.m;have al:=b.h;have am:=b.b (o*11);have q:=@af _ f;by_cases j:a.bI=0/\a.cB=N;obtain⟨c,k⟩:=j;obtain⟨d,r,x⟩:=i c k;have e(_:=()):a.q=({a with aP:=2}:ay).d d (.bH a.bw)/\d<a.ai.length:=⟨by unfold ay.q;rw[UG ⟨c,k⟩,r],x⟩
 rw[r,rm]at U;rw[k,Qb]at v;rw[c]at w;by_cases g:a.bw=1001
 .have l:fX a.bw=1073741824:=by rw[g];rfl
  rw[l]at u;have y(_:=()):mv (bV.bH a.bw).a= .agg #[I J 6,I J 0,I J 0,B F]:=by rw[g];rfl
  clear b f p i r x g l c k;go_enter func216,ntmps216;go_wp2_with fail;refine Uq (by have:=oV (q.h 2) d (.bH a.bw) e.2;rw[y]at this;exact this) ?_;rintro V W ⟨rfl,m⟩;have z:=@af _ m;clear m;go_wp2;go_end0;rw[e.1];exact⟨rfl,z⟩
 .have l:fX a.bw=(a.bw:Int):=by unfold fX;rw[Us g]
  rw[l]at u;have y(_:=()):mv (bV.bH a.bw).a= .agg #[I J 6,I J 0,I J a.bw,B F]:=by show mv ⟨6,0,if a.bw=1001 then 0 else a.bw,F⟩=_;rw[Us g];rfl
  have X:¬((a.bw:Int)=1073741824):=by omega
  obtain⟨n,h⟩:∃n:Int,n=(a.bw:Int):=⟨_,rfl⟩
  rw[<-h]at X u;have Y:=@af _ h;clear b f p i r x g l h c k;go_enter func216,ntmps216;go_wp2_with fail;refine Uq (by have:=oV (q.h 2) d (.bH a.bw) e.2;rw[y,<-Y]at this;exact this) ?_;rintro V W ⟨rfl,m⟩;have z:=@af _ m;clear m;go_wp2;go_end0;rw[e.1];exact⟨rfl,z⟩
 have e(_:=()):a.q=a:=by unfold ay.q;rw[Us j]
 by_cases c:a.bI=0
 .obtain⟨s,M⟩:∃s,a.cB=S s:=by
   cases Z:a.cB with
   |none=>exact(j ⟨c,Z⟩).elim
   |some s=>exact⟨s,rfl⟩
  rw[M,rm]at v;rw[c]at w;clear b f p i j c M;go_enter func216,ntmps216;go_wp2;(try simp only[Exit.inBlock,Exit.then]);refine UO (VX rfl _ _ _) rfl ?_;rw[e];exact⟨rfl,q⟩
 .obtain⟨n,h⟩:∃n:Int,n=a.bI:=⟨_,rfl⟩
  obtain⟨O,Q⟩:∃O:Int,O=oi a.cB:=⟨_,rfl⟩
  rw[<-h]at c w;rw[<-Q]at v;clear b f p i j h Q;go_enter func216,ntmps216;go_wp2;(try simp only[Exit.inBlock,Exit.then]);refine UO (VX rfl _ _ _) rfl ?_;rw[e];exact⟨rfl,q⟩
def EP{r s l t u v w m j b}(g:Pn r s l t u v w m j b)(a)(h:b.dj=S a)(k:a<b.ai.length):
 Cr 219 #[P (S ⟨l,0,N⟩),.int J m] j (.tuple #[]) λH=>Pn r s l t u v w m H b.s:=by
 obtain⟨ab,x,rfl⟩:=g.e (by omega);obtain⟨ac,ad,ag,ai,aj,c⟩:=g.a;have d:=g.c a k;have K:=c.d;have ak:=c.c;have M:=c.a;have al:=c.e;have am:=c.g;have O:=c.j;have y:=c.i;have z:=c.p;have Q:=d.a;have an:=d.d;have n:=d.b;have R:=d.c (x+a*4+2);rw[h,rm]at z;have ao:(a:Int)<1000:=by have:=c.f;omega
 have e:=@cf _ _ _ g k h;have U:(a:Int)<b.ai.length:=by omega
 obtain⟨A,o⟩:=ah b.ai.length;rw[<-o]at y U;by_cases i:b.c a=1
 .rw[i]at n;have p(_:=()):b.s=b.d a .dO:=by unfold ay.s;rw[h];simp only;rw[UG i]
  clear c g h k d o i;go_enter func219,ntmps219;go_wp2_with fail;go_region;all_goals
   go_wp2_with fail;refine Uq (oV (e.1.b ((ae.a aa j).drew)) a .dO e.2.1) ?_;rintro V C ⟨rfl,f⟩;have q:=@af _ f;clear f;go_wp2;(try simp only[Exit.inBlock,Exit.then]);refine UO (VX rfl _ _ _) rfl ?_;rw[p];exact⟨rfl,q⟩
 .have p(_:=()):b.s=(b.d a (.bG b.aM)).e a 1:=by unfold ay.s;rw[h];simp only;rw[Us i]
  have W:¬((b.c a:Int)=1):=by omega
  obtain⟨D,E⟩:∃D:Int,D=(b.c a:Int):=⟨_,rfl⟩
  rw[<-E]at n W;clear c g h k d o i E;go_enter func219,ntmps219;go_wp2_with fail;go_region;all_goals
   go_wp2_with fail;go_region_with (go_at_call 183;refine Uq (oV (e.1.b (((ae.a aa j).drew).drew)) a (.bG b.aM) e.2.1) ?_;rintro V C ⟨rfl,f⟩);all_goals
    have q:=@af _ f;obtain⟨ap,aq,ar,au,av,c⟩:=f.a;have d:=f.c a e.2.1;have aw:=c.a;have X:=c.i;have Y:=c.p;have ax:=d.a;have az:=d.b;have aA:=d.c (x+a*4+2);rw[show (b.d a (.bG b.aM)).dj=S a from e.2.2,rm]at Y;have Z:(a:Int)<((b.d a (.bG b.aM)).ai.length:Int):=by have:=e.2.1;show (a:Int)<b.ai.length;omega
    obtain⟨aB,G⟩:∃A,A=(b.d a (.bG b.aM)).ai.length:=⟨_,rfl⟩
    rw[<-G]at X Z;clear f c d G O y z n R M Q K;go_wp2_with fail;go_region;all_goals
     go_wp2;go_end0;rw[p];exact⟨rfl,((q.b ((ae.a aa C).drew)).c a e.2.1).e 1⟩
def Fq9:∀(b:List (Nat×Nat))(d:Nat),(ay.kG b d=N/\∀a∈b,a.2≠0)\/∃f a g,b=f++a::g/\ay.kG b d=S (d+f.length)/\a.2=0/\∀h∈f,h.2≠0
 |[],d=>Ur ⟨rfl,by simp⟩
 |a::b,d=>by by_cases e:a.2=0;exact Up ⟨[],a,b,rfl,by simp[ay.kG,e],e,by simp⟩;obtain⟨i,j⟩|⟨f,h,g,i,j,l,m⟩:=Fq9 b (d+1);refine Ur ⟨by simp[ay.kG,e,i],λk c=>?_⟩;obtain rfl|c:=UZ.1 c;exact e;exact j k c;refine Up ⟨a::f,h,g,by rw[i];rfl,?_,l,λk c=>?_⟩;simp only[ay.kG,e,Xi,j,Vg];congr 1;omega;obtain rfl|c:=UZ.1 c;exact e;exact m k c
def OD(a:ay):(a.u=N/\∀b,b<a.ai.length->a.c b≠0)\/∃b,a.u=S b/\b<a.ai.length/\a.c b=0/\∀d,d<b->a.c d≠0:=by obtain⟨c,e⟩|⟨h,k,l,c,e,i,j⟩:=Fq9 a.ai 0;refine Ur ⟨c,λb g=>?_⟩;unfold ay.c;rw[Um g];exact e _ (Vk g);refine Up ⟨h.length,by unfold ay.u;rw[e];simp,by rw[c];simp,?_,λd f=>?_⟩;unfold ay.c;rw[c];simp[i];unfold ay.c;rw[c,Ux f,Um f];exact j _ (Vk f)
def yq{H K A M O Q R v w b}(p:Pn H K A M O Q R v w b)(C:b.bw<=1001)(D:b.u=N->b.bI=0->∃U,b.cq=S U/\U<b.ai.length):
 Cr 217 #[P (S ⟨A,0,N⟩),.int J v] w (.tuple #[]) λZ=>Pn H K A M O Q R v Z b.l:=by
 obtain⟨ap,aq,ar,au,av,c⟩:=p.a;have aw:=c.d;have ax:=c.c;have az:=c.a;have aA:=c.e;have aB:=c.g;have x:=c.f;have aD:=c.j;have aE:=c.n;have V:=c.i;have aF:=c.l;have aG:=c.b (v*11+7);have l:=@aC _ _ p C;obtain⟨m,q⟩|⟨e,m,q,W,X⟩:=OD b
 .have n(_:=()):b.l=({b with cB:=N}:ay).q/\∀a,a<b.ai.length->b.c a≠0:=⟨by unfold ay.l;rw[m],q⟩
  have ab:=@af _ (D m);obtain⟨d,h⟩:=ah b.ai.length;have i:=@af _ h;rw[<-h]at V x;clear c p C D m q h;go_enter func217,ntmps217;go_wp2_with fail;go_loopw [5] (λj wr=>∃a:Nat,a<=d/\j= .int J a/\w=wr) λj _=>d-(intOf j).toNat;case atStart=>exact⟨0,by omega,rfl,rfl⟩
  case round=>
   obtain⟨a,r,rfl,rfl⟩:=hrel;by_cases k:a<d
   .obtain⟨ac,ad,rfl⟩:=l.1.e (by have:=i;omega);have f:=l.1.c a (by have:=i;omega);have o:=n.2 a (by have:=i;omega);have E:¬((b.c a:Int)=0):=by omega
    have ag:=f.a;have y:=f.b;obtain⟨s,t⟩:∃s:Int,s=(b.c a:Int):=⟨_,rfl⟩
    rw[<-t]at y E;have ai:(a:Int)<d:=by omega
    have aj:(a:Int)<1000:=by omega
    have g:=@af _ k;clear f o t r k x;go_wp2;exact⟨⟨a+1,by have:=g;omega,by go_num,by simp⟩,by have:=g;simp[intOf];omega⟩
   .have ak:a=d:=by omega
    subst ak;clear r k;go_wp2_with fail;refine Uq (B7 (l.1.o N) l.2 λal _=>ab () al) ?_;rintro am an ⟨rfl,u⟩;have G:=@af _ u;clear u;go_wp2;go_end0;rw[n.1];exact⟨rfl,G⟩
 .have n(_:=()):b.l=({b with cB:=S e}:ay).d e (.cW b.aM b.cX)/\b.c e=0/\∀a,a<e->b.c a≠0:=⟨by unfold ay.l;rw[m],W,X⟩
  obtain⟨ac,ad,rfl⟩:=p.e (by omega);have ao:=q;obtain⟨d,h⟩:=ah b.ai.length;have i(_:=()):d=b.ai.length/\e<d:=⟨h,by omega⟩
  rw[<-h]at V x;clear c p C D m q W X h ao;go_enter func217,ntmps217;go_wp2_with fail;go_loopw [5] (λj wr=>∃a:Nat,a<=e/\j= .int J a/\w=wr) λj _=>d-(intOf j).toNat;case atStart=>exact⟨0,by omega,rfl,rfl⟩
  case round=>
   obtain⟨a,r,rfl,rfl⟩:=hrel;have k:a<d:=by have:=i.2;omega
   have f:=l.1.c a (by have:=i;omega);have ag:=f.a;have y:=f.b;have ai:(a:Int)<d:=by omega
   have aj:(a:Int)<1000:=by omega
   by_cases z:a=e
   .have o:b.c a=0:=by rw[z];exact n.2.1
    rw[o]at y;have g:=@af _ z;have Y:=@af _ (l.1.o (S a));clear f o z r k;go_wp2_with fail;go_region_with (go_at_call 183;refine Uq (oV (Y.b ((ae.a aa _).drew)) a (.cW b.aM b.cX) (by have:=i;have:=g;show a<b.ai.length;omega)) ?_;rintro am an ⟨rfl,u⟩);all_goals
     have G:=@af _ u;clear u Y;go_wp2;(try simp only[Exit.inBlock,Exit.then]);refine UO (VX rfl _ _ _) rfl ?_;rw[n.1,<-g];exact⟨rfl,G⟩
   .have o:=n.2.2 a (by omega);have E:¬((b.c a:Int)=0):=by omega
    obtain⟨s,t⟩:∃s:Int,s=(b.c a:Int):=⟨_,rfl⟩
    rw[<-t]at y E;have g(_:=()):a<e/\a<d:=⟨by omega,k⟩
    clear f o t r k z x;go_wp2;exact⟨⟨a+1,by have:=g;omega,by go_num,by simp⟩,by have:=g;simp[intOf];omega⟩
structure sw(d:ay):Prop where
 e:vK d
 g:(d.aM:Int)<1000
 a:d.bw<=1001
 h:∀i∈d.ai,i.1<=1000
 b:∀f,d.cq=S f->f<d.ai.length
 c:∀f,d.dj=S f->f<d.ai.length
def Il{a:ay}(b:a.aP≠0):a.b=a:=by unfold ay.b;rw[Us b]
def Cz(a:ay):a.b.ai.length=a.ai.length/\a.b.cq=a.cq/\a.b.dj=a.dj/\a.b.bw=a.bw/\a.b.cB=a.cB/\a.b.aM<=a.aM:=by unfold ay.b;split;split<;>simp[ay.d,ay.e];simp
def LY{s t o p ag u v i y d}(z:Pn s t o p ag u v i y d)(ai:sw d)(b)(aj:b<d.ai.length)(k f A:Nat)(C):
 Cr 212 #[P (S ⟨o,0,N⟩),.int J i,.int J b,.agg #[.int J k,.int J f,.int J A,B C]] y (B (d.m b f).2) λao=>Pn s t o p ag u v i ao (d.m b f).1:=by
 obtain⟨O,D,rfl⟩:=z.e (by omega);obtain⟨aN,aO,aP,aQ,aR,c⟩:=z.a;have ap:=c.d;have aq:=c.c;have ar:=c.a;have au:=c.e;have aS:=c.g;have aT:(b:Int)<1000:=by have:=c.f;omega
 have av:=c.h;have E:=@cf _ _ _ z ai aj;clear z ai c aj;go_enter func212,ntmps212;go_upto_if 21 with fail;obtain⟨l,G⟩:∃l:Array Value,l= #[I J k,I J f,I J A,B C]:=⟨_,rfl⟩
 obtain⟨ak,H⟩:=ah (y.alloc (.cells #[I J k,I J f,I J A,B C] 76));obtain⟨Q,R⟩:=ah y.heap.size;have U(_:=()):Pn s t o p (S ⟨O,D,N⟩) ((Q,l,76)::u) v i ak d/\l= #[I J k,I J f,I J A,B C]:=by refine⟨?_,G⟩;have:=E.1.i l 76;rw[<-R,G,<-H]at this;rw[G];exact this
 rw[<-H,<-R];have aw:p<ak.heap.size:=by rw[H];simp;omega
 clear H R G ar ap aq au av;go_cut [] λax=>Pn s t o p (S ⟨O,D,N⟩) ((Q,l,76)::u) v i ax d.b;case first=>
  by_cases K:d.aP=0
  .have V:=@af _ K;have aU:(d.aP:Int)=0:=by omega
   clear K;go_wp2_with fail;refine Uq (CA U.1 V E.2.1.e) ?_;rintro W X ⟨rfl,g⟩;have m:=@af _ g;clear g;go_wp2;go_meet;case rel=>exact m
  .have V:=@af _ K;have aV:¬((d.aP:Int)=0):=by omega
   clear K;go_wp2;go_meet;case rel=>rw[Il V];exact U.1
 case rest=>
 obtain⟨a,Y⟩:=ah d.b;have Z:=(Cz d).1;have al:=(Cz d).2.2.2.2.2;rw[<-Y]at hcut Z al;have e(_:=()):Pn s t o p (S ⟨O,D,N⟩) ((Q,l,76)::u) v i wc a/\a=d.b/\b<a.ai.length:=⟨hcut,Y,by rw[Z];exact E.2.2⟩
 have aW:(a.aM:Int)<1000:=by have:=E.2.1.g;omega
 obtain⟨aX,aY,aZ,a0,a1,c⟩:=hcut.a;have q:=hcut.c b e.2.2;have az:=c.d;have a2:=c.c;have aA:=c.a;have aB:=c.e;have ab:=c.h;have aC:=c.j;have aD:=c.n;have am:=c.i;have aE:=c.m;have aF:=c.b (i*11+8);obtain⟨r,aG⟩:=hcut.g;dsimp only at r aG;rw[U.2]at r;have aH:=r.a 1;have aI:=r.a 2;simp at aH aI;have a3:=r.b;have a4:=q.a;have a5:=q.d;have aJ:=q.f;have ac:=q.b;have aK:=q.c (D+b*4+2);have aL:(b:Int)<a.ai.length:=by have:=e.2.2;omega
 obtain⟨a6,an⟩:=ah a.ai.length;rw[<-an]at am aL;clear r aw q c hcut Y Z al an;by_cases j:f<a.aM;have aM:(f:Int)<a.aM:=by omega
 by_cases h:a.aP=1
 .rw[h]at ab;have n(_:=()):d.m b f=({ (a.e b 1).d b (.aL a.aM a.cX T)with bI:=wrap64 (a.bI+1)},T):=by unfold ay.m;rw[<-e.2.1];simp only;rw[UG j,h];rfl
  clear j h;go_wp2_with fail;go_region;all_goals
   go_wp2_with fail;go_region_with (go_at_call 183;refine Uq (oV ((((e.1.b ((ae.a aa wc).drew)).c b e.2.2).e 1).b ((ae.a aa _).drew)) b (.aL a.aM a.cX T) (by unfold ay.e;simpa using e.2.2)) ?_;rintro W X ⟨rfl,g⟩);all_goals
    have m:=@af _ g;obtain⟨a7,a8,a9,ba,bb,c⟩:=g.a;have bc:=c.a;have bd:=c.m;have be:=c.b (i*11+8);clear g c aJ ac aK ab aC aD am aE aF aA az aB;go_wp2;go_ret;rw[n];exact⟨rfl,(m.m _).d⟩
 .have n(_:=()):d.m b f=((a.e b 1).d b (.aL a.aM a.cX F),T):=by unfold ay.m;rw[<-e.2.1];simp only;rw[UG j,show (a.aP==1)=F from Uy.2 h];rfl
  have M:¬((a.aP:Int)=1):=by omega
  obtain⟨w,x⟩:∃w:Int,w=(a.aP:Int):=⟨_,rfl⟩
  rw[<-x]at ab M;have ad:=@af _ (Uy.2 M);clear j h x;go_wp2_with fail;go_region;all_goals
   go_wp2_with fail;go_region_with (go_at_call 183;rw[ad];refine Uq (oV ((((e.1.b ((ae.a aa wc).drew)).c b e.2.2).e 1).b ((ae.a aa _).drew)) b (.aL a.aM a.cX F) (by unfold ay.e;simpa using e.2.2)) ?_;rintro W X ⟨rfl,g⟩);all_goals
    have m:=@af _ g;clear g;go_wp2;go_ret;rw[n];exact⟨rfl,m.d⟩
 have aM:¬((f:Int)<a.aM):=by omega
 by_cases h:a.c b=0
 .rw[h]at ac;have n(_:=()):d.m b f=(a,F):=by unfold ay.m;rw[<-e.2.1];simp only;rw[Us j,UG h]
  clear j h;go_wp2_with fail;go_region;all_goals
   go_wp2;go_ret;rw[n];exact⟨rfl,(e.1.b ((ae.a aa wc).drew)).d⟩
 .have M:¬((a.c b:Int)=0):=by omega
  obtain⟨w,x⟩:∃w:Int,w=(a.c b:Int):=⟨_,rfl⟩
  rw[<-x]at ac M;have n(_:=()):d.m b f=(a.d b (.aL (a.aM+1) (a.p b) T),T):=by unfold ay.m;rw[<-e.2.1];simp only;rw[Us j,Us h]
  have ad(_:=()):IntKind.i64.wrap ((a.aM:Int)+1)=((a.aM+1:Nat):Int):=by rw[VM];omega
  clear j h x;go_wp2_with fail;go_region;all_goals
   go_wp2_with fail;go_region_with (go_at_call 183;rw[ad];refine Uq (oV (e.1.b (((ae.a aa wc).drew).drew)) b (.aL (a.aM+1) (a.p b) T) e.2.2) ?_;rintro W X ⟨rfl,g⟩);all_goals
    have m:=@af _ g;clear g;go_wp2;go_ret;rw[n];exact⟨rfl,m.d⟩
def Ty{s t n o aq u v p E d}(G:Pn s t n o aq u v p E d)(ar:sw d)(c)(au:c<d.ai.length)(av:d.cB=S c->d.cq≠N)(k g h:Nat)(H):
 Cr 214 #[P (S ⟨n,0,N⟩),.int J p,.int J c,.agg #[.int J k,.int J g,.int J h,B H]] E (B (d.r c g h).2) λaJ=>Pn s t n o aq u v p aJ (d.r c g h).1:=by
 obtain⟨K,A,rfl⟩:=G.e (by omega);obtain⟨a7,a8,a9,ba,bb,e⟩:=G.a;have aK:=e.d;have aL:=e.c;have aM:=e.a;have aN:=e.e;have bc:=e.g;have bd:(c:Int)<1000:=by have:=e.f;omega
 have aO:=e.h;have w:=@gA _ _ _ _ G ar au av;clear G ar e au av;go_enter func214,ntmps214;go_upto_if 20 with fail;obtain⟨l,M⟩:∃l:Array Value,l= #[I J k,I J g,I J h,B H]:=⟨_,rfl⟩
 obtain⟨aw,O⟩:=ah (E.alloc (.cells #[I J k,I J g,I J h,B H] 76));obtain⟨Q,Z⟩:=ah E.heap.size;have q(_:=()):Pn s t n o (S ⟨K,A,N⟩) ((Q,l,76)::u) v p aw d/\l= #[I J k,I J g,I J h,B H]:=by refine⟨?_,M⟩;have:=w.1.i l 76;rw[<-Z,M,<-O]at this;rw[M];exact this
 rw[<-O,<-Z];have aP:o<aw.heap.size:=by rw[O];simp;omega
 clear O Z M aM aK aL aN aO;go_cut [] λab=>Pn s t n o (S ⟨K,A,N⟩) ((Q,l,76)::u) v p ab d.b;case first=>
  by_cases j:d.aP=0
  .have ac:=@af _ j;have aQ:(d.aP:Int)=0:=by omega
   clear j;go_wp2_with fail;refine Uq (CA q.1 ac w.2.1.e) ?_;rintro ad ag ⟨rfl,i⟩;have r:=@af _ i;clear i;go_wp2;go_meet;case rel=>exact r
  .have ac:=@af _ j;have aR:¬((d.aP:Int)=0):=by omega
   clear j;go_wp2;go_meet;case rel=>rw[Il ac];exact q.1
 case rest=>
 obtain⟨a,ai⟩:=ah d.b;obtain⟨R,aj,ax,ak,al,az⟩:=Cz d;rw[<-ai]at hcut R aj ax ak al az;have f(_:=()):Pn s t n o (S ⟨K,A,N⟩) ((Q,l,76)::u) v p wc a/\a=d.b/\c<a.ai.length/\a.bw<=1001/\(a.cB=S c->∃C,a.cq=S C/\C<a.ai.length):=⟨hcut,ai,by rw[R];exact w.2.2.1,by rw[ak];exact w.2.1.a,λU=>by
  rw[al]at U;rw[aj,R];cases aA:d.cq with
  |none=>exact(w.2.2.2 U aA).elim
  |some C=>exact⟨C,rfl,w.2.1.b C aA⟩⟩
 obtain⟨be,bf,bg,bh,bi,e⟩:=hcut.a;have D:=hcut.c c f.2.2.1;have aS:=e.d;have aT:=e.c;have aU:=e.a;have aV:=e.e;have aW:=e.j;have aB:=e.n;have aC:=e.i;have aX:=e.l;obtain⟨x,aY⟩:=hcut.g;dsimp only at x aY;rw[q.2]at x;have aZ:=x.a 1;have a0:=x.a 2;simp at aZ a0;have bj:=x.b;have a1:=D.a;have bk:=D.d;have a2:=D.b;have a3:=D.c (A+c*4+2);have a4:(c:Int)<a.ai.length:=by have:=f.2.2.1;omega
 obtain⟨bl,aD⟩:=ah a.ai.length;rw[<-aD]at aC a4;clear x aP D e hcut ai R az aD aj ax ak al;by_cases y:a.aM<g
 .have a5:(a.aM:Int)<g:=by omega
  have am(_:=()):d.r c g h=(a,F):=by unfold ay.r;rw[<-f.2.1];simp only;rw[UG y]
  clear y;go_wp2_with fail;go_region;all_goals
   go_wp2;go_ret;rw[am];exact⟨rfl,(f.1.b ((ae.a aa wc).drew)).d⟩
 have a5:¬((a.aM:Int)<g):=by omega
 by_cases V:h≠a.cX
 .have bm:¬((h:Int)=a.cX):=by omega
  have am(_:=()):d.r c g h=(a.d c .dG,T):=by unfold ay.r;rw[<-f.2.1];simp only;rw[Us y,UG V]
  clear y V;go_wp2_with fail;go_region;all_goals
   go_wp2_with fail;go_region;all_goals
    go_wp2_with fail;refine Uq (oV (f.1.b (((ae.a aa wc).drew).drew)) c .dG f.2.2.1) ?_;rintro ad ag ⟨rfl,i⟩;have r:=@af _ i;clear i;go_wp2;go_ret;rw[am];exact⟨rfl,r.d⟩
 .have aE:(h:Int)=a.cX:=by omega
  rw[<-aE]at aB;have aF(_:=()):d.r c g h=if a.cB=S c then ((a.f c).l,T)else ((a.f c).d c .dK,T):=by unfold ay.r;rw[<-f.2.1];simp only;rw[Us y,Us V]
  clear y V aE;go_wp2_with fail;go_region;all_goals
   go_wp2_with fail;go_region;all_goals
    have aG:=@af _ (f.1.b (((ae.a aa wc).drew).drew));go_upto_if 53 with fail;go_cut [] λab=>Pn s t n o (S ⟨K,A,N⟩) ((Q,l,76)::u) v p ab (a.f c);case first=>
     by_cases j:a.c c=0
     .have q(_:=()):a.f c=a.e c 2:=by unfold ay.f;rw[UG j]
      have aQ:(a.c c:Int)=0:=by omega
      clear j;go_wp2;go_meet;case rel=>rw[q];exact(aG.c c f.2.2.1).e 2
     .have q(_:=()):a.f c=a:=by unfold ay.f;rw[Us j]
      have aR:¬((a.c c:Int)=0):=by omega
      clear j;go_wp2;go_meet;case rel=>rw[q];exact aG
    case rest=>
    obtain⟨W,X⟩:=ah (a.f c);rw[<-X]at hcut;have an:W.ai.length=a.ai.length/\W.cq=a.cq/\W.bw=a.bw/\W.cB=a.cB:=by rw[X];unfold ay.f;split<;>simp[ay.e]
    have m:=@cf _ _ _ hcut X an;obtain⟨bn,bo,bp,bq,br,ao⟩:=hcut.a;have bs:=ao.a;have ap:=ao.l;rw[an.2.2.2]at ap;clear an X hcut ao aW aB aC aX a2 a3 a1 aU aS aV aT;by_cases z:a.cB=S c
    .rw[z,rm]at ap;have Y:=@af _ z;clear z;go_wp2_with fail;refine Uq (yq m.1 (by rw[m.2.2.2.2.1];exact f.2.2.2.1) λ_ _=>by rw[m.2.2.2.1,m.2.2.1];exact f.2.2.2.2 Y) ?_;rintro ad ag ⟨rfl,i⟩;have r:=@af _ i;clear i;go_wp2;go_ret;rw[aF,UG Y,<-m.2.1];exact⟨rfl,r.d⟩
    .have Y:=@af _ z;have a6:¬(oi a.cB=(c:Int)):=λU=>z (yT (b:=S c) U);obtain⟨aH,aI⟩:∃aH:Int,aH=oi a.cB:=⟨_,rfl⟩
     rw[<-aI]at ap a6;clear z aI;go_wp2_with fail;refine Uq (oV m.1 c .dK (by rw[m.2.2.1];exact f.2.2.1)) ?_;rintro ad ag ⟨rfl,i⟩;have r:=@af _ i;clear i;go_wp2;go_ret;rw[aF,Us Y,<-m.2.1];exact⟨rfl,r.d⟩
def GQ{h i j e k l f a g b}(q:Pn h i j e k l f a g b)(c d:Nat)(r:(c:Int)<1000)(s:d<=1001)(t:b.bw<=1001):
 Cr 215 #[P (S ⟨e,a*11,N⟩),.int J c,.int J (fX d)] g (.tuple #[]) λm=>Pn h i j e k l f a m (b.n c d):=by
 obtain⟨u,n,v,w,x,o,y⟩:=q;have:=K7 w f a b c d g x r s t;rw[o.d,n]at this;refine this.mono ?_;rintro C m ⟨rfl,z,A,p⟩;exact⟨rfl,u,n,v,z,A,o.a p,y.a p⟩
def FA(a:ay)(c b):(a.n c b).ai=a.ai/\(a.n c b).cq=a.cq/\(a.n c b).bI=a.bI/\(a.n c b).cB=a.cB/\(b<=1001->a.bw<=1001->(a.n c b).bw<=1001):=by unfold ay.n;split;exact⟨rfl,rfl,rfl,rfl,λd _=>d⟩;exact⟨rfl,rfl,rfl,rfl,λ_ d=>d⟩
def RQ{O Q C R ai U V u D a}(E:Pn O Q C R ai U V u D a)(aj:sw a)(f)(ak:f<a.ai.length)(c)(al:1<=c/\c<=1001)(am:(a.cq≠S f->a.cq≠N)/\(a.cq=S f->a.aP≠1->a.bw<c->a.dj≠N))(k an:Nat)(ao):
 Cr 218 #[P (S ⟨C,0,N⟩),.int J u,.int J f,.agg #[.int J k,.int J an,.int J (((if c=1001 then 0 else c:Nat)):Int),B ao]] D (B (a.i f c).2) λaC=>Pn O Q C R ai U V u aC (a.i f c).1:=by
 obtain⟨aD,aE,rfl⟩:=E.e (by omega);obtain⟨aF,aG,aH,aI,aJ,e⟩:=E.a;have W:=e.d;have X:=e.c;have Y:=e.a;have aK:=e.e;have aV:=e.g;have aW:(f:Int)<1000:=by have:=e.f;omega
 have i:=@lP _ _ _ _ _ E aj ak al am;obtain⟨v,G⟩:∃v:Int,v=(((if c=1001 then 0 else c:Nat)):Int):=⟨_,rfl⟩
 rw[<-G];have ap:(v=0/\fX c=1073741824)\/(¬(v=0)/\fX c=v):=by by_cases d:c=1001;left;rw[G,d];exact⟨rfl,rfl⟩;right;rw[G,Us d];exact⟨by omega,by unfold fX;rw[Us d]⟩
 clear E aj e ak am al G;go_enter func218,ntmps218;go_upto_if 20 with fail;obtain⟨aq,Z⟩:=ah (D.alloc (.cells #[I J k,I J an,I J v,B ao] 76));have n(_:=()):Pn O Q C R (S ⟨aD,aE,N⟩) U V u aq a:=by rw[Z];exact i.1.b ((ae.a aa D).b _)
 rw[<-Z];clear Z Y W X aK;go_cut [10] λaL aM=>aL=I J (fX c)/\aM=aq;case first=>
  obtain⟨rfl,d⟩|⟨w,d⟩:=ap
  .have ab:=@af _ d;clear d;go_wp2;go_meet;case rel=>rw[ab];exact⟨rfl,rfl⟩
  .have ab:=@af _ d;clear d;go_wp2;go_meet;case rel=>rw[ab];exact⟨rfl,rfl⟩
 case rest=>
 obtain⟨rfl,rfl⟩:=hcut;obtain⟨aF,aG,aH,aI,aJ,e⟩:=n.a;have W:=e.d;have X:=e.c;have Y:=e.a;have x:=e.h;have ac:=e.o;have H:=e.q;have aN:=e.m;have aO:=e.r;have aP:=e.b (u*11+8);have aQ:=e.b (u*11+9);clear ap e;by_cases h:a.cq=S f;rw[h,rm]at ac;by_cases l:a.aP=1
 .rw[l]at x;have j(_:=()):a.i f c=(a,F):=by unfold ay.i;rw[UG h,UG l]
  clear h l;go_wp2;go_ret;rw[j];exact⟨rfl,n⟩
 have ad:¬((a.aP:Int)=1):=by omega
 have y:fX a.bw<fX c↔a.bw<c:=by have:=i.2.2.2.1;have:=i.2.1.a;unfold fX;split<;>split<;>omega
 by_cases m:a.bw<c
 .have K:=y.2 m;obtain⟨b,ar,au⟩:∃b,a.dj=S b/\b<a.ai.length:=by
   cases d:a.dj with
   |none=>exact(i.2.2.2.2.2 h l m d).elim
   |some b=>exact⟨b,rfl,i.2.1.c b d⟩
  have j(_:=()):a.i f c=(a.s,T)/\a.dj=S b/\b<a.ai.length:=⟨by unfold ay.i;rw[UG h,Us l,UG m],ar,au⟩
  obtain⟨av,o⟩:∃g:Int,g=(a.aP:Int):=⟨_,rfl⟩
  rw[<-o]at x ad;obtain⟨aw,r⟩:∃g:Int,g=fX c:=⟨_,rfl⟩
  obtain⟨ax,s⟩:∃g:Int,g=fX a.bw:=⟨_,rfl⟩
  rw[<-r,<-s]at K;rw[<-s]at H;rw[<-r];clear h l m ar au y o r s;go_wp2_with fail;refine Uq (EP n b j.2.1 j.2.2) ?_;rintro az aR ⟨rfl,p⟩;have ag:=@af _ p;clear p;go_wp2;go_ret;rw[j.1];exact⟨rfl,ag⟩
 have K:¬fX a.bw<fX c:=λd=>m (y.1 d);by_cases q:c=1001/\a.bw=1001
 .have j(_:=()):a.i f c=({a with iy:=T},T):=by unfold ay.i;rw[UG h,Us l,Us m,UG q]
  obtain⟨q,t⟩:=q;have w:fX c=1073741824:=by rw[q];rfl
  have z:fX a.bw=1073741824:=by rw[t];rfl
  rw[z]at H;rw[w];obtain⟨av,o⟩:∃g:Int,g=(a.aP:Int):=⟨_,rfl⟩
  rw[<-o]at x ad;clear h l m q t y o K w z;go_wp2;go_ret;rw[j];exact⟨rfl,n.p T⟩
 have j(_:=()):a.i f c=(a,T):=by unfold ay.i;rw[UG h,Us l,Us m,Us q]
 have t:¬(fX c=1073741824/\fX a.bw=1073741824):=λd=>by apply q;have:=i.2.2.2.1;have:=i.2.1.a;obtain⟨w,z⟩:=d;unfold fX at w z;split at w<;>split at z<;>omega
 obtain⟨av,o⟩:∃g:Int,g=(a.aP:Int):=⟨_,rfl⟩
 rw[<-o]at x ad;obtain⟨aw,r⟩:∃g:Int,g=fX c:=⟨_,rfl⟩
 obtain⟨ax,s⟩:∃g:Int,g=fX a.bw:=⟨_,rfl⟩
 rw[<-r,<-s]at K t;rw[<-s]at H;rw[<-r];clear h l m q y o r s;by_cases aA:aw=1073741824
 .have aX:¬(ax=1073741824):=λd=>t ⟨aA,d⟩;subst aA;clear t;go_wp2;go_ret;rw[j];exact⟨rfl,n⟩
 .clear t;go_wp2;go_ret;rw[j];exact⟨rfl,n⟩
 .have aS:¬((f:Int)=oi a.cq):=λd=>h (yT (b:=S f) d.symm);have aT(_:=()):∃A,a.cq=S A/\A<a.ai.length:=by
   cases d:a.cq with
   |none=>exact(i.2.2.2.2.1 h d).elim
   |some A=>exact⟨A,rfl,i.2.1.b A d⟩
  have j(_:=()):a.i f c=((({a with bI:=wrap64 (a.bI-1)}:ay).n f c).q,T):=by unfold ay.i;rw[Us h]
  obtain⟨aY,aB⟩:∃g:Int,g=oi a.cq:=⟨_,rfl⟩
  rw[<-aB]at ac aS;clear h aB;go_wp2_with fail;refine Uq (GQ (n.m (wrap64 (a.bI-1))) f c (by have:=n.a;omega) i.2.2.2.1.2 i.2.1.a) ?_;rintro az aR ⟨rfl,p⟩;have ag:=@af _ p;clear p x ac H aN aO aP aQ W X Y;go_wp2_with fail;have M:=FA ({a with bI:=wrap64 (a.bI-1)}:ay) f c;refine Uq (B7 ag (M.2.2.2.2 i.2.2.2.1.2 i.2.1.a) λ_ _=>by rw[M.2.1,M.1];exact aT) ?_;rintro az aZ ⟨rfl,p⟩;have aU:=@af _ p;clear p M;go_wp2;go_ret;rw[j];exact⟨rfl,aU⟩
def SW(a:ay)(b c d e):(a.j b c d e).ai=a.ai/\(a.j b c d e).cq=a.cq/\(a.j b c d e).bw=a.bw:=by unfold ay.j;split<;>exact⟨rfl,rfl,rfl⟩
def Oa{x y t m av z A h C k}(Q:Pn x y t m av z A h C k)(f)(aw:f<k.ai.length)(c d:Nat)(e):
 Cr 213 #[P (S ⟨t,0,N⟩),.int J h,.int J f,.agg #[.int J 2,.int J c,.int J d,B e]] C (.tuple #[]) λaU=>Pn x y t m av z A h aU (k.y f c d e):=by
 obtain⟨ab,ac,rfl⟩:=Q.e (by omega);obtain⟨ax,az,aA,aB,aC,b⟩:=Q.a;have aV:=b.d;have aW:=b.c;have D:=b.a;have aX:=b.e;have bi:=b.g;have aD:=b.f;have bj:(f:Int)<1000:=by have:=b.f;omega
 have aE:=b.h;have aY:=b.j;have aZ:=b.n;have aF:=b.b (h*11);have a0:=b.b (h*11+1);have a1:=b.b (h*11+2);have a2:=D;have ad:=@cf _ _ _ Q aw aD;clear Q b aw aD;go_enter func213,ntmps213;go_upto_if 30 with fail;obtain⟨r,R⟩:∃r:Array Value,r= #[I J 2,I J c,I J d,B e]:=⟨_,rfl⟩
 obtain⟨ae,ag⟩:=ah C.heap.size;have p(_:=()):Pn x y t m (S ⟨ab,ac,N⟩) ((ae,r,76)::z) A h ((((C.setCell ⟨m,h*11+1,N⟩ (I J c)).setCell ⟨m,h*11+2,N⟩ (I J d)).setCell ⟨m,h*11,N⟩ (I J 2)).alloc (.cells #[I J 2,I J c,I J d,B e] 76)) {k with aM:=c,cX:=d,aP:=2}/\r= #[I J 2,I J c,I J d,B e]:=by refine⟨?_,R⟩;have:=(((ad.1.v c).w d).h 2).i r 76;rw[VS,VS,VS,<-ag,R]at this;rw[R];exact this
 obtain⟨bk,aG⟩:=ah ((((C.setCell ⟨m,h*11+1,N⟩ (I J c)).setCell ⟨m,h*11+2,N⟩ (I J d)).setCell ⟨m,h*11,N⟩ (I J 2)).alloc (.cells #[I J 2,I J c,I J d,B e] 76));rw[<-aG]at p|-;rw[<-ag];clear aG ag R D aV aW aX aF a0 a1 aE aY aZ a2;go_cut [] λai=>Pn x y t m (S ⟨ab,ac,N⟩) ((ae,r,76)::z) A h ai {k with aM:=c,cX:=d,aP:=if e then 1 else 2};case first=>
  obtain⟨l,aj⟩:=p.1.g;dsimp only at l aj;rw[p.2]at l;have U:=l.a 3;simp at U;have aH:=l.b;obtain⟨ax,az,aA,aB,aC,b⟩:=p.1.a;have D:=b.a;have aE:=b.h;have aF:=b.b (h*11);clear l b;cases e with
  |false=>
   go_wp2;go_meet;case rel=>exact p.1
  |true=>
   go_wp2;go_meet;case rel=>exact p.1.h 1
 case rest=>
 obtain⟨ak,V⟩:∃ak:ay,ak= {k with aM:=c,cX:=d,aP:=if e then 1 else 2}:=⟨_,rfl⟩
 rw[<-V]at hcut;have aI:=@af _ (((hcut.u (S f)).r N).s 1001);obtain⟨n,u⟩:∃n:ay,n= {ak with cq:=S f,dj:=N,bw:=1001}:=⟨_,rfl⟩
 rw[<-u]at aI;have al(_:=()):k.y f c d e=(if e then (n.o f c d e k.ai.length 0).l else n.o f c d e k.ai.length 0)/\n.ai=k.ai/\n.cq=S f/\n.bw=1001:=by refine⟨?_,by rw[u,V],by rw[u],by rw[u]⟩;rw[u,V];rfl
 obtain⟨ax,az,aA,aB,aC,b⟩:=hcut.a;have D:=b.a;have a3:=b.o;have a4:=b.p;have a5:=b.q;have a6:=b.b (h*11+4);have a7:=b.b (h*11+5);have a8:=b.b (h*11+6);clear b hcut V u;obtain⟨j,am⟩:=ah k.ai.length;have v(_:=()):j=k.ai.length/\(j:Int)<1000:=⟨am,by rw[am];exact ad.2.2⟩
 clear am;go_wp2_with fail;go_loopw [9] (λE wr=>∃(a:Nat)(g:ay),a<=j/\E= .int J a/\Pn x y t m (S ⟨ab,ac,N⟩) ((ae,r,76)::z) A h wr g/\g.o f c d e (j-a) a=n.o f c d e j 0/\g.ai=k.ai/\g.cq=S f/\g.bw=1001) λE _=>j-(intOf E).toNat;case atStart=>exact⟨0,n,by omega,rfl,aI,rfl,al.2⟩
 case round=>
  obtain⟨a,g,an,rfl,W,aJ,ao,aK,aL⟩:=hrel;have i:=@nh _ _ _ _ _ _ W aJ ao aK aL an;obtain⟨bl,bm,bn,bo,bp,b⟩:=W.a;obtain⟨l,aj⟩:=W.g;dsimp only at l aj;rw[p.2]at l;have aN:=l.a 0;have aO:=l.a 1;have aQ:=l.a 2;have U:=l.a 3;simp at aN aO aQ U;have aH:=l.b;have a9:=b.d;have ba:=b.c;have bb:=b.a;have aR:=b.i;rw[ao,<-v.1]at aR;have bq:(a:Int)<1000:=by have:=v.2;omega
  clear W aJ ao aK aL b l D a6 a7 a8 a3 a4 a5;by_cases X:a<j
  .have ap:=i.1.c a (by rw[i.2.2.1,<-v.1];exact X);have bc:=ap.a;have aq:=ap.b;have br:(a:Int)<j:=by omega
   have o:=@af _ X;clear ap an X;go_upto_region 13 with fail;go_cut [66] λE ai=>E=B (decide (a≠f/\g.c a=1))/\ai=wr;case first=>
    by_cases G:a=f
    .have q:decide (a≠f/\g.c a=1)=F:=by simp[G]
     have H:=@af _ q;subst G;clear q;go_wp2;go_meet;case rel=>rw[H];exact⟨rfl,rfl⟩
    have bd:¬((a:Int)=f):=by omega
    by_cases K:g.c a=1
    .have q:decide (a≠f/\g.c a=1)=T:=by simp[G,K]
     have H:=@af _ q;rw[K]at aq;clear q K G;go_wp2;go_meet;case rel=>rw[H];exact⟨Vj B (bne_iff_ne.2 bd),rfl⟩
    .have q:decide (a≠f/\g.c a=1)=F:=by simp[K]
     have H:=@af _ q;have aS:¬((g.c a:Int)=1):=by omega
     obtain⟨ar,aT⟩:∃ar:Int,ar=(g.c a:Int):=⟨_,rfl⟩
     rw[<-aT]at aq aS;clear q K G aT;go_wp2;go_meet;case rel=>rw[H,show (ar==1)=F from Uy.2 aS,Bool.and_false];exact⟨rfl,rfl⟩
   case rest=>
   obtain⟨rfl,rfl⟩:=hcut;by_cases w:a≠f/\g.c a=1
   .rw[U4 w];have Y(_:=()):g.o f c d e (j-a) a=(g.j a c d e).o f c d e (j-(a+1)) (a+1):=by have:=o;rw[show j-a=(j-(a+1))+1 by omega,ay.o,UG w]
    clear w;go_wp2_with fail;refine Uq (oV i.1 a (.aL c d e) (by rw[i.2.2.1,<-v.1];exact o)) ?_;rintro be bf ⟨rfl,s⟩;have Z:=@af _ s;obtain⟨bs,bt,bu,bv,bx,aa⟩:=s.a;obtain⟨M,_⟩:=s.g;dsimp only at M;rw[p.2]at M;have bg:=M.a 3;simp at bg;have bz:=M.b;have bA:=aa.a;have bB:=aa.m;have bC:=aa.b (h*11+8);clear s aa M aN aO aQ U aH a9 ba bb aR aq bc;have O(_:=()):(g.j a c d e).ai=k.ai/\(g.j a c d e).cq=S f/\(g.j a c d e).bw=1001:=by have au:=SW g a c d e;exact⟨by rw[au.1,i.2.2.1],by rw[au.2.1,i.2.2.2.1],by rw[au.2.2,i.2.2.2.2.1]⟩
    cases e with
    |false=>
     go_wp2;exact⟨⟨a+1,g.j a c d F,by have:=o;omega,by go_num,Z,by rw[<-Y,i.2.1],O⟩,by have:=o;simp[intOf];omega⟩
    |true=>
     go_wp2;exact⟨⟨a+1,g.j a c d T,by have:=o;omega,by go_num,Z.m _,by rw[<-Y,i.2.1],O⟩,by have:=o;simp[intOf];omega⟩
   .rw[U7 w];have Y(_:=()):g.o f c d e (j-a) a=g.o f c d e (j-(a+1)) (a+1):=by have:=o;rw[show j-a=(j-(a+1))+1 by omega,ay.o,Us w]
    clear w;go_wp2;exact⟨⟨a+1,g,by have:=o;omega,by go_num,i.1,by rw[<-Y,i.2.1],i.2.2.1,i.2.2.2.1,i.2.2.2.2.1⟩,by have:=o;simp[intOf];omega⟩
  have bh:a=j:=by omega
  subst bh;have O(_:=()):g=n.o f c d e a 0:=by have:=i.2.1;rw[Ww]at this;exact this
  clear an X;cases e with
  |false=>
   go_wp2;go_end0;refine⟨rfl,?_⟩;rw[al.1,<-v.1,<-O];exact i.1.d
  |true=>
   go_wp2_with fail;refine Uq (yq i.1 (by rw[i.2.2.2.2.1];omega) λ_ _=>⟨f,i.2.2.2.1,by rw[i.2.2.1];exact ad.2.1⟩) ?_;rintro be bf ⟨rfl,s⟩;have Z:=@af _ s;clear s;go_wp2;go_end0;refine⟨rfl,?_⟩;rw[al.1,<-v.1,<-O];exact Z.d
def Hs(a:ay)(b:Nat):bV->Prop
 | .dG=>a.cq≠N
 | .dK=>a.cq≠N
 | .dO=>a.dj≠N
 | .bH c=>((a.cq≠S b->a.cq≠N)/\(a.cq=S b->a.aP≠1->a.bw<c->a.dj≠N))/\1<=c/\c<=1001
 | .cW _ _=>a.cB=S b->a.cq≠N
 |_=>True
def sw.d{a}(d:sw a)(e:a.cq≠N):∃b,a.cq=S b/\b<a.ai.length:=by
 cases c:a.cq with
 |none=>exact(e c).elim
 |some b=>exact⟨b,rfl,d.b b c⟩
def sw.f{a}(d:sw a)(e:a.dj≠N):∃b,a.dj=S b/\b<a.ai.length:=by
 cases c:a.dj with
 |none=>exact(e c).elim
 |some b=>exact⟨b,rfl,d.c b c⟩
def T1{a:ay}(b:∀c∈a.ai,c.1<=1000)(d):a.p d<=1000:=by unfold ay.p;split;rename_i e f;exact b e (Uo f);omega
def E0{t u r v ag w x o j b}(g:Pn t u r v ag w x o j b)(h:sw b)(a)(k:a<b.ai.length)(C)(i:Hs b a C):
 Cr 184 #[P (S ⟨r,0,N⟩),.int J o,.int J a,mv C.a] j (B (b.a a C).2) λax=>Pn t u r v ag w x o ax (b.a a C).1:=by
 obtain⟨H,D,rfl⟩:=g.e (by omega);obtain⟨aK,aM,aN,aO,aP,e⟩:=g.a;have W:=e.d;have X:=e.c;have Y:=e.a;have aQ:=e.e;have aR:=e.g;have az:(a:Int)<1000:=by have:=e.f;omega
 have m:∀(ai:Array Value)(aj:TypeId),Pn t u r v (S ⟨H,D,N⟩) w x o (j.alloc (.cells ai aj)) b:=λai aj=>g.b ((ae.a aa j).b _);have d:=@gA _ _ _ _ m h k g;cases C with
 |bG p=>
  show Calls _ _ #[_,_,_,.agg #[I J 1,I J p,I J 0,B F]] j _;clear g h e k i m;go_enter func184,ntmps184;go_wp2_with fail;refine Uq (LY (d.1 _ _) d.2.1 a d.2.2.1 1 p 0 F) ?_;rintro q n ⟨rfl,c⟩;have f:=@af _ c;clear c;go_wp2;go_ret;exact⟨rfl,f⟩
 |aL p E ak=>
  show Calls _ _ #[_,_,_,.agg #[I J 2,I J p,I J E,B ak]] j _;clear g h e k i m;go_enter func184,ntmps184;go_wp2_with fail;refine Uq (Oa (d.1 _ _) a d.2.2.1 p E ak) ?_;rintro q n ⟨rfl,c⟩;have f:=@af _ c;clear c;go_wp2;go_ret;exact⟨rfl,f⟩
 |cW p E=>
  show Calls _ _ #[_,_,_,.agg #[I J 3,I J p,I J E,B F]] j _;have K:=@af _ i;clear g h e k i m;go_enter func184,ntmps184;go_wp2_with fail;refine Uq (Ty (d.1 _ _) d.2.1 a d.2.2.1 K 3 p E F) ?_;rintro q n ⟨rfl,c⟩;have f:=@af _ c;clear c;go_wp2;go_ret;exact⟨rfl,f⟩
 |dG=>
  show Calls _ _ #[_,_,_,.agg #[I J 4,I J 0,I J 0,B F]] j _;have M:=@af _ (h.d i);have l:=g.c a k;have O:=l.a;have Q:=l.d;have y:=e.i;have aA:=e.l;have aB:=e.b (o*11+7);have Z:=l.f;have al:=T1 h.h a;have am:fX (b.p a)=(b.p a:Int):=by unfold fX;rw[Us (by omega)]
  rw[<-am]at Z;have z:=@af _ al;obtain⟨aS,ab⟩:∃R:Int,R=fX (b.p a):=⟨_,rfl⟩
  rw[<-ab]at Z;have aD:=@af _ ab;have ac:(a:Int)<b.ai.length:=by omega
  obtain⟨aE,A⟩:=ah b.ai.length;rw[<-A]at y ac;clear g h e k i m l am al ab A;go_enter func184,ntmps184;go_wp2_with fail;refine Uq (by have:=GQ ((d.2.2.2.o N).b ((ae.a aa _).b (.cells #[I J 4,I J 0,I J 0,B F] 76))) a (b.p a) az (by have:=z;omega) d.2.1.a;rw[<-aD]at this;exact this) ?_;rintro q n ⟨rfl,c⟩;have f:=@af _ c;clear c y aA aB Z O Q W X Y;go_wp2_with fail;have U:=FA ({b with cB:=N}:ay) a (b.p a);refine Uq (B7 f (U.2.2.2.2 (by have:=z;omega) d.2.1.a) λ_ _=>by rw[U.2.1,U.1];exact M) ?_;rintro q aT ⟨rfl,c⟩;have aF:=@af _ c;clear c U;go_wp2;go_ret;exact⟨rfl,aF⟩
 |dK=>
  show Calls _ _ #[_,_,_,.agg #[I J 5,I J 0,I J 0,B F]] j _;have M:=@af _ (h.d i);have l:=g.c a k;have O:=l.a;have Q:=l.d;have y:=e.i;have V:=l.b;have an:=l.c (D+a*4+2);have ac:(a:Int)<b.ai.length:=by omega
  obtain⟨aE,A⟩:=ah b.ai.length;rw[<-A]at y ac;by_cases s:b.c a=0
  .have z(_:=()):b.f a=b.e a 2:=by unfold ay.f;rw[UG s]
   rw[s]at V;clear g h e k i m l A s;go_enter func184,ntmps184;go_wp2_with fail;refine Uq (yq (((d.2.2.2.c a d.2.2.1).e 2).b ((ae.a aa _).b (.cells #[I J 5,I J 0,I J 0,B F] 76))) d.2.1.a λ_ _=>by obtain⟨s,aG,ad⟩:=M;exact⟨s,aG,by rw[uY];exact ad⟩) ?_;rintro q n ⟨rfl,c⟩;have f:=@af _ c;clear c y V an O Q W X Y;go_wp2;go_ret;refine⟨rfl,?_⟩;show Pn t u r v (S ⟨H,D,N⟩) w x o n (b.f a).l;rw[z];exact f
  .have z(_:=()):b.f a=b:=by unfold ay.f;rw[Us s]
   have aH:¬((b.c a:Int)=0):=by omega
   obtain⟨R,ao⟩:∃R:Int,R=(b.c a:Int):=⟨_,rfl⟩
   rw[<-ao]at V aH;clear g h e k i m l A s ao;go_enter func184,ntmps184;go_wp2_with fail;refine Uq (yq (d.1 #[I J 5,I J 0,I J 0,B F] 76) d.2.1.a λ_ _=>M) ?_;rintro q n ⟨rfl,c⟩;have f:=@af _ c;clear c y V an O Q W X Y;go_wp2;go_ret;refine⟨rfl,?_⟩;show Pn t u r v (S ⟨H,D,N⟩) w x o n (b.f a).l;rw[z];exact f
 |bH G=>
  have K:=@af _ i;show Calls _ _ #[_,_,_,.agg #[I J 6,I J 0,I J (((if G=1001 then 0 else G:Nat)):Int),B F]] j _;have ap(_:=()):_:=λaI (aJ:Pn t u r v (S ⟨H,D,N⟩) w x o aI b)=>RQ aJ d.2.1 a d.2.2.1 G K.2 K.1 6 0 F;obtain⟨aq,ar⟩:∃aq:Int,aq=(((if G=1001 then 0 else G:Nat)):Int):=⟨_,rfl⟩
  rw[<-ar]at ap|-;clear g h e k i m ar;go_enter func184,ntmps184;go_wp2_with fail;refine Uq (ap () _ (d.1 _ _)) ?_;rintro q n ⟨rfl,c⟩;have f:=@af _ c;clear c;go_wp2;go_ret;exact⟨rfl,f⟩
 |dO=>
  show Calls _ _ #[_,_,_,.agg #[I J 7,I J 0,I J 0,B F]] j _;obtain⟨ad,au,av⟩:=h.f i;have aw:=@aC _ _ au av;clear g h e k i m au av;go_enter func184,ntmps184;go_wp2_with fail;refine Uq (EP (d.1 _ _) ad aw.1 aw.2) ?_;rintro q n ⟨rfl,c⟩;have f:=@af _ c;clear c;go_wp2;go_ret;exact⟨rfl,f⟩
end Go.Proofs.YtlfijfodklhplaaGreat
