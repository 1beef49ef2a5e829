import Derived.Test.YtlfijfodklhplaaGreatAl32
import Derived.Test.YtlfijfodklhplaaGreatAl27
import Derived.Test.YtlfijfodklhplaaGreatAl32b
import Derived.Test.YtlfijfodklhplaaGreatAl32c
import Derived.Test.YtlfijfodklhplaaGreatAl32d
import Derived.Shelf.SlLaysF0
import Derived.Test.YtlfijfodklhplaaGreatProg
import Derived.Shelf.SlSortCmp.NoneTotal
import Derived.ProofKit
import Derived.ChangeSlices
import Derived.SizedLaws
import Derived.Deep.Slices
set_option maxRecDepth 100000
set_option maxHeartbeats 8000000
set_option linter.all false
open Go.RowKit Go.Proofs.Tryz
open Go.Value renaming int->I,slice->L,pointer->P,bool->B
open Go.IntKind renaming i64->J
open Option renaming some->S,none->N
open Bool renaming true->T,false->F
namespace Go.Proofs.YtlfijfodklhplaaGreat
def iM.cells(a:iM):List Value:=[I J a.a,I J a.e,I J a.r,I J a.m,L a.c a.i.length a.q,B a.d,I J a.s,I J a.k,I J a.l,I J a.n,B a.f,L a.g a.h.length a.p]
def qv(a:List iM):List Value:=a.flatMap iM.cells
def qW(c:World)(d e:Nat)(f:List iM):Prop:=∀a b,(qv f)[a]?=S b->c.cell? ⟨d,e+a,N⟩=S b
def qW.a{d b w' a c e}(g:qW b a c e)(k:ae d b w')(h:a<b.heap.size)(i:¬d a):qW w' a c e:=λf j l=>(k.f a (c+f) h i).trans (g f j l)
def GG(d):∀a b,d[a]?=S b->∀e f,b.cells[e]?=S f->(qv d)[a*12+e]?=S f:=by
 induction d with
 |nil=>intro a b c;simp at c
 |cons g h k=>
  intro a b c e f i;have j:qv (g::h)=g.cells++qv h:=by simp[qv]
  have l:g.cells.length=12:=rfl;have m:=(Ul.1 i).1;rw[j];cases a with
  |zero=>
   simp at c;subst c;rw[Xr,Ve,Ux (by omega)];exact i
  |succ a=>
   grind
def jp{e f g a}(h:qW e f g a)(k b)(i:a[k]?=S b)(c d)(j:b.cells[c]?=S d):e.cell? ⟨f,g+k*12+c,N⟩=S d:=by rw[UI];exact h _ _ (GG a k b i c d j)
def e3:List Ed:=[⟨0,1,5⟩,⟨2,1,3⟩,⟨0,2,9⟩]
def nL(a b c d:Int):iM:=⟨a,b,c,d,N,[],0,F,0,0,0,0,F,N,[],0⟩
def oR(a:Nat):List iM:=
 [⟨1,0,3,0,S ⟨a,0,N⟩,e3,3,F,0,0,0,0,F,N,[],0⟩,⟨2,0,0,0,N,[],0,T,7,3,2,300,F,N,[],0⟩,nL 4 0 0 0,nL 4 0 0 0,⟨5,0,0,0,N,[],0,T,7,3,2,300,F,N,[],0⟩,nL 10 0 0 1,nL 10 1 0 0,⟨11,0,3,0,S ⟨a,0,N⟩,e3,3,F,0,0,0,0,F,N,[],0⟩,nL 12 0 1 0,nL 21 0 0 3,nL 19 0 2 0,nL 13 0 0 0]
def NL{d b}(f:b<d.heap.size)(g:mU d b 0 e3):∀a∈oR b,a.b d:=by
 intro a c;have h:a.g=N/\a.h=[]/\a.p=0:=by simp only[oR,UZ,U9,Wc]at c;obtain rfl|rfl|rfl|rfl|rfl|rfl|rfl|rfl|rfl|rfl|rfl|rfl:=c<;>exact⟨rfl,rfl,rfl⟩
 have i:(a.c=N/\a.i=[]/\a.q=0)\/(a.c=S ⟨b,0,N⟩/\a.i=e3):=by simp only[oR,UZ,U9,Wc]at c;obtain rfl|rfl|rfl|rfl|rfl|rfl|rfl|rfl|rfl|rfl|rfl|rfl:=c<;>first|exact Ur ⟨rfl,rfl,rfl⟩|exact Up ⟨rfl,rfl⟩
 refine⟨i.imp id (λ⟨j,e⟩=>⟨⟨b,0,N⟩,j,Up ⟨b,0,rfl,f,by rw[e];exact g⟩,by rw[e];decide⟩),Ur h⟩
def Fy{e}:∀c∈oR e,(∀a b,c.c=S ⟨a,b,N⟩->a=e)/\(∀a b,c.g=S ⟨a,b,N⟩->False):=by intro c f;simp only[oR,UZ,U9,Wc]at f;obtain rfl|rfl|rfl|rfl|rfl|rfl|rfl|rfl|rfl|rfl|rfl|rfl:=f<;>refine⟨λa b d=>?_,λa b d=>?_⟩<;>simp[nL]at d<;>first|omega|exact d.1.symm
def Qo(a:World)(b e c d)(f:d=a.heap.size)(g:b=(qv c).toArray):qW (a.alloc (.cells b e)) d 0 c:=by intro h i j;simp_all
def Nd(a:World)(b e c d)(f:d=a.heap.size)(g:b=(cA c).toArray):mU (a.alloc (.cells b e)) d 0 c:=by intro h i j;simp_all
def vN(a:World)(b):(a.alloc b).heap.size=a.heap.size+1:=by simp
def NM(a):Calls prog 26 #[] a λe b=>∃c d,e= .returned (L (S ⟨c,0,N⟩) 12 12)/\a.heap.size<=c/\c<b.heap.size/\a.heap.size<=d/\d<b.heap.size/\qW b c 0 (oR d)/\mU b d 0 e3/\ae aa a b:=by go_enter func26,ntmps26;go_wp2;go_ret;refine⟨a.heap.size+1+1,a.heap.size+1,rfl,by omega,?_,by omega,?_,?_,?_,?_⟩;simp only[vN];omega;simp only[vN];omega;exact Qo _ _ _ _ _ (by simp only[vN]) rfl;exact(Nd _ _ _ _ _ (by simp only[vN]) rfl).a ((ae.a aa _).b _) (by simp only[vN];omega) λf=>f;exact(((ae.a aa a).b _).b _).b _
structure xS(c:World)(g:Option Addr)(d:List iM):Prop where
 a:d=[]\/∃e f,g=S ⟨e,f,N⟩/\e<c.heap.size/\qW c e f d
 b:∀h∈d,h.b c
def xS.c{b e c}(a:xS b e c){h}(f:h<c.length):∃d g,e=S ⟨d,g,N⟩/\d<b.heap.size/\qW b d g c:=by obtain a|a:=a.a;rw[a]at f;simp at f;exact a
def iM.b.c{c}{d:iM}(g:d.b c){e}(h:c.heap.size<=e):(∀a b,a<c.heap.size->d.c=S ⟨a,b,N⟩->¬ap e a)/\(∀a b,a<c.heap.size->d.g=S ⟨a,b,N⟩->¬ap e a):=
 ⟨λa b g _ f=>by simp only[ap]at f;omega,λa b g _ f=>by simp only[ap]at f;omega⟩
def MO(a k b)(c:bP b a)(d:k<0\/(a.aE.length:Int)<=k):
 Cr 91 #[P (S ⟨a.b,0,N⟩),.int J k] b (.int J 6) λg=>ae aa b g:=by
 have h:=c.e;have i:=c.dk.b;obtain⟨l,e⟩:=ah a.b;obtain⟨j,f⟩:=ah a.aE.length;rw[<-e,<-f]at h;rw[<-e]at i|-;rw[<-f]at d;clear c e f;by_cases m:k<0
 .clear d;go_enter func91,ntmps91;go_wp2;go_ret;exact⟨rfl,ae.a _ _⟩
 .have n:(j:Int)<=k:=by omega
  clear d;go_enter func91,ntmps91;go_wp2;go_ret;exact⟨rfl,ae.a _ _⟩
def MP(a)(h:Nat)(c i)(q:bP i a)(j:a.aE[h]?=S c)(r:gI a.a)(s:c.n.aD=[])(t:a.aE.length<=100)(u:c.n.ai.length<=100)(k:vK c.n):
 Cr 91 #[P (S ⟨a.b,0,N⟩),.int J h] i (.int J 0) λv=>∃l,bP v l/\l.a=a.a.D h/\dR i v a l:=by
 have b:=Pn.q q r j s t u;have m:=BK j;obtain⟨e,n⟩:=ah c.n;obtain⟨E,w⟩:=ah c.sa;obtain⟨G,o⟩:=ah a.b;obtain⟨H,x⟩:=ah a.c;rw[<-n,<-w,<-o,<-x]at b;rw[<-n]at m k;rw[<-o];obtain⟨K,M,O,Q,R,d⟩:=b.a;have U:=d.d;have V:=d.c;have W:=d.a;have X:=d.e;have y:=d.h;have f:=@cf _ _ _ b m k;clear q j r s t u k b m d n w o x;by_cases g:e.aP=0
 .rw[g]at y;have p:=@af _ g;clear g;go_enter func91,ntmps91;go_wp2_with fail;refine Uq (CA f.1 p f.2.2) ?_;rintro Y Z ⟨rfl,b⟩;have C:=@af _ b;clear b;go_wp2;go_ret;exact⟨rfl,C.n f.2.1 ay.b rfl⟩
 .have D:¬((e.aP:Int)=0):=by omega
  have p(_:=()):e.b=e:=by unfold ay.b;rw[Us g]
  obtain⟨z,A⟩:∃z:Int,z=(e.aP:Int):=⟨_,rfl⟩
  rw[<-A]at y D;clear g A;go_enter func91,ntmps91;go_wp2;go_ret;exact⟨rfl,f.1.n f.2.1 ay.b p⟩
structure vB(m wr:World)(n o j:Nat)(g:ay)(p:Array Value)(h:Nat)(i:Option Addr)(k:Nat):Prop where
 a:aq wr j #[.int J (g.aP:Int),.int J (g.aM:Int),.int J (g.cX:Int),B g.iy,.int J (g.an.length:Int),L i h k] 50
 e:aq wr o p 220
 b:aq wr n #[.int J 0,.int J 0,.int J 0,B F,.int J 0,L N 0 0] 50
 f:RV wr 3 1 i h k (gT ((g.ai.map (·.2)).take h))
 d:ae aa m wr
 c:∀l,ag i l->j<l
def NU{a:List Nat}{b c}(d:a[b]?=S c):gT (a.take (b+1))=gT (a.take b)++[.int J c]:=by rw[pM d];simp[gT]
def vB.g{j wr w0 w5 f g b k q d h r}(e:vB j wr f g b k q d h r)(v:f≠b)(w:g≠b)(D:j.heap.size<=b)(E:f<b)(G:g<b)(s:ae aa wr w0){t}(x:(k.ai.map (·.2))[d]?=S t)(a' c')(y:RV w5 3 1 a' (d+1) c' (gT ((k.ai.map (·.2)).take d)++[.int J t]))(z:(a'=h/\c'=r)\/(a'=S ⟨w0.heap.size,0,N⟩/\ae aa w0 w5))(A:ae (ag h) w0 w5):
 vB j (w5.setCell ⟨b,5,N⟩ (L a' (d+1) c')) f g b k q (d+1) a' c':=by
 have l:ae (ap b) w5 (w5.setCell ⟨b,5,N⟩ (L a' (d+1) c')):=(ae.a (ap b) w5).e (p:=⟨b,5,N⟩) (λ_=>rfl) _;have u:∀i,ag a' i->b<i:=λi m=>by obtain⟨a,_⟩|⟨a,_⟩:=z;rw[a]at m;exact e.c i m;rw[a]at m;have:=(e.a.c s λa=>a).b;rw[show i=_ from cM.1 m];exact this
 have n:=(s.d λ_ _ a=>a.elim).c A;have no:∀c,c<=b->¬ag h c:=λc o a=>by have:=e.c c a;omega
 refine⟨?_,?_,?_,?_,?_,u⟩;have C:=(e.a.c n (no b (UF _))).f 5 (L a' (d+1) c');simpa using C;exact(e.e.c n (no g (by omega))).c l λa=>w a;exact(e.b.c n (no f (by omega))).c l λa=>v a;rw[NU x];exact y.a l (λc o a=>by have:=u c o;rw[show c=b from a]at this;omega);exact(ae.a aa j).g (((e.d.d (ex':=λc=>ag h c\/c=b) λ_ _ a=>a.elim).c (n.d λ_ _ a=>Ur a)).c (l.d λ_ _ a=>Up a)) λc o a=>by obtain a|a:=a;have:=e.c c a;omega;omega
def Mi(o)(q:Nat)(a f)(g:bP f o)(h:o.aE[q]?=S a)(br:o.aE.length<=100)(D:a.ss.length<=100):
 Calls prog 144 #[P (S ⟨o.b,0,N⟩),.int J q] f λbs aG=>∃i k,bs= .returned (.tuple #[oS a.n i k,.int J 0])/\RV aG 3 1 i a.n.ai.length k (gT (a.n.ai.map (·.2)))/\ae aa f aG/\∀j,ag i j->f.heap.size<=j:=by
 have bt:=(Ul.1 h).1;have aH:=g.e;have aI:=g.dk.b;have aJ:=g.d;have y:=g.gL q a h;have Y:=g.b h 0 _ rfl;have aK:=g.b h 1 _ rfl;have aL:=g.b h 2 _ rfl;have aM:=g.b h 3 _ rfl;have aN:=g.b h 4 _ rfl;have aO:=g.b h 5 _ rfl;have aP:=g.b h 6 _ rfl;have aQ:=g.b h 7 _ rfl;have aR:=g.b h 8 _ rfl;have aS:=g.b h 9 _ rfl;have aT:=g.b h 10 _ rfl;rw[Vn]at Y;obtain⟨b0,Z⟩:=ah o.b;obtain⟨bu,aU⟩:=ah o.aE.length;obtain⟨b1,ab⟩:=ah o.c;rw[<-Z,<-aU,<-ab]at aH;rw[<-ab]at aJ Y aK aL aM aN aO aP aQ aR aS aT;rw[<-Z]at aI|-;have bv:(q:Int)<bu:=by omega
 have b2:(q:Int)<1000:=by omega
 have ac:=@gA _ _ _ _ g h y D;obtain⟨aV,aW⟩:=ah (((f.alloc (.cells #[I J 0,I J 0,I J 0,B F,I J 0,L N 0 0] 50)).alloc (.cells (eJ a).toArray 220)).alloc (.cells #[I J a.n.aP,I J a.n.aM,I J a.n.cX,B a.n.iy,I J a.n.an.length,L N 0 0] 50));have E:=@af _ aW;clear g h br D bt Z aU ab y aW;go_enter func144,ntmps144;go_upto_if 19 with fail;go_cut [] λbw=>bw=f.alloc (.cells #[I J 0,I J 0,I J 0,B F,I J 0,L N 0 0] 50);case first=>
  go_wp2;go_meet;case rel=>rfl
 case rest=>
 subst hcut;go_wp2_with fail;obtain⟨c,G⟩:=ah f.heap.size;obtain⟨u,ad⟩:=ah (f.heap.size+1);obtain⟨l,ai⟩:=ah (f.heap.size+1+1);have aj(_:=()):c=f.heap.size/\u=c+1/\l=u+1:=⟨G,by omega,by omega⟩
 obtain⟨w,ak⟩:∃w:Array Value,w=(eJ a).toArray:=⟨_,rfl⟩
 have bx:=@af _ ak;have bz(_:=()):vB f aV c u l a.n w 0 N 0:=by
  obtain⟨r,H⟩:=ah (f.alloc (.cells #[I J 0,I J 0,I J 0,B F,I J 0,L N 0 0] 50));obtain⟨z,K⟩:=ah (r.alloc (.cells (eJ a).toArray 220));have al:=E;rw[<-H,<-K]at al;have aX:r.heap.size=f.heap.size+1:=by rw[H];simp
  have bA:z.heap.size=r.heap.size+1:=by rw[K];simp
  have bB:ae aa f r:=by rw[H];exact(ae.a aa f).b _
  have aY:ae aa r z:=by rw[K];exact(ae.a aa r).b _
  have am:ae aa z aV:=by rw[al];exact(ae.a aa z).b _
  have an:aq r c #[I J 0,I J 0,I J 0,B F,I J 0,L N 0 0] 50:=by rw[H,G];exact aq.e _ _ _
  have ao:aq z u w 220:=by rw[K,ad,<-aX,ak];exact aq.e _ _ _
  refine⟨?_,ao.c am λd=>d,(an.c aY λd=>d).c am λd=>d,RV.d _ _ _,(bB.c aY).c am,λq bC=>(b8 q bC).elim⟩;rw[al,ai,<-aX,<-bA];exact aq.e _ _ _
 obtain⟨m,y⟩:=ah a.n.ai.length;have s(_:=()):m=a.n.ai.length/\(m:Int)<=100:=⟨y,by have:=ac;omega⟩
 simp only[eJ]at E;rw[<-E,<-ai,<-ad,<-G];clear G ad ai ak y Y aK aL aM aN aO aP aQ aR aS aT aH aI aJ bv E;go_loopw [8] (λv wr=>∃(e:Nat)(i:Option Addr)(k:Nat),v= .int J e/\e<=m/\vB f wr c u l a.n w e i k) λv _=>m-(intOf v).toNat;case atStart=>exact⟨0,N,0,rfl,Vl _,bz⟩
 case round=>
  obtain⟨e,i,k,rfl,ar,b⟩:=hrel;have A:=b.e.a 3;rw[bx]at A;simp[eJ]at A;rw[<-ac.2.2.1,<-s.1]at A;have aZ:=b.a.a 0;have a0:=b.a.a 1;have a1:=b.a.a 2;have a2:=b.a.a 3;have a3:=b.a.a 4;have au:=b.a.a 5;simp at aZ a0 a1 a2 a3 au;have a4:=b.a.d 5;have bD:=b.e.b;have M:=b.a.b;have a5:=b.f;have b3:(e:Int)<1000:=by have:=s;omega
  have av:=@aC _ _ b ar;by_cases aw:e<m
  .obtain⟨g,h,bE,D⟩:=ac;obtain⟨a6,a7⟩:∃a6,a.ss[e]?=S a6:=⟨_,Um (by have:=s;omega)⟩
   obtain⟨d,ax⟩:∃d,a.n.ai[e]?=S d:=⟨_,Um (by have:=s;omega)⟩
   obtain⟨bF,bG,a8,ay,bH,bI,a9⟩:=g.f h a7 ax;have bJ:=(b.d.f bF (bG+e*4+2) ay λd=>d).trans (a9 2 _ rfl);have b4:=Un ay b.d.size;rw[a8]at A;have C(_:=()):(a.n.ai.map (·.2))[e]?=S d.2/\e<m:=⟨by rw[Uz,ax];rfl,aw⟩
   obtain⟨az,aA⟩:=ah d.2;rw[<-aA]at bJ;have bK:=@af _ aA;have b5:(e:Int)<m:=by omega
   have ba:¬ag i l:=λd=>by have:=b.c l d;omega
   clear g h bE D a7 ax a8 bH bI a9 b ar aw aA ay;go_wp2_with fail;go_region_law (refine mj rfl (.tmp 48) (.tmp 55) 25 rfl 3 (I J 0) 1 8 underlying25 Bn rfl i e k rfl (gT ((a.n.ai.map (·.2)).take e)) ((a5.c _).drew) ⟨wr.heap.size,0,N⟩ 1 1 (by omega) rfl [I J az] rfl (λj bb aB=>ke wr [I J az] 3 _ rfl j bb aB) (by intro bb aB;rw[UY.1 aB];rfl) (by have:=s;have:=C.2;omega) (by have:=s;have:=C.2;omega) ?_;intro O Q aD bc bd aE;have R:ae (ag i) wr aD:=(((ae.a _ wr).b _).drew).c aE;have an:=(R.f l 5 M ba).trans au;have ao:=(R.h l 5 M ba).trans a4;have bL:l<aD.heap.size:=Un M R.size);all_goals
    have x(_:=()):vB f (aD.setCell ⟨l,5,N⟩ (L O (e+1) Q)) c u l a.n w (e+1) O Q:=by have bM:=aj;refine av.1.g (w0:=(wr.alloc (.cells #[I J az] 3)).drew) (by omega) (by omega) (by omega) (by omega) (by omega) (((ae.a aa wr).b _).drew) C.1 O Q (by rw[<-bK];exact bc) bd aE
    clear bc bd aE R an ao bL;go_wp2;exact⟨⟨e+1,O,Q,by go_num,by have:=C.2;omega,x⟩,by have:=C.2;simp[intOf];omega⟩
  .have bN:e=m:=by omega
   subst bN;have be:=b.b.a 0;have bf:=b.b.a 1;have bg:=b.b.a 2;have bh:=b.b.a 3;have bi:=b.b.a 4;have bj:=b.b.a 5;simp at be bf bg bh bi bj;have t:∀j,wr.frozen? ⟨c,j,N⟩=F:=λj=>b.b.d j;have bO:=t 0;have bQ:=t 1;have bR:=t 2;have bS:=t 3;have bT:=t 4;have bU:=t 5;have bV:=b.b.b;have bW:c≠l:=by have:=aj;omega
   clear b ar aw a5 t;go_wp2;obtain⟨U,V⟩:=ah ((((((wr.setCell ⟨c,0,N⟩ (I J a.n.aP)).setCell ⟨c,1,N⟩ (I J a.n.aM)).setCell ⟨c,2,N⟩ (I J a.n.cX)).setCell ⟨c,3,N⟩ (B a.n.iy)).setCell ⟨c,4,N⟩ (I J a.n.an.length)).setCell ⟨c,5,N⟩ (L i e k));have aF:ae (ap c) wr U:=by rw[V];exact((((((ae.a (ap c) wr).e (p:=⟨c,0,N⟩) (λ_=>rfl) _).e (p:=⟨c,1,N⟩) (λ_=>rfl) _).e (p:=⟨c,2,N⟩) (λ_=>rfl) _).e (p:=⟨c,3,N⟩) (λ_=>rfl) _).e (p:=⟨c,4,N⟩) (λ_=>rfl) _).e (p:=⟨c,5,N⟩) (λ_=>rfl) _
   have n:aq U c #[I J a.n.aP,I J a.n.aM,I J a.n.cX,B a.n.iy,I J a.n.an.length,L i e k] 50:=by have W:=(((((av.1.b.f 0 (I J a.n.aP)).f 1 (I J a.n.aM)).f 2 (I J a.n.cX)).f 3 (B a.n.iy)).f 4 (I J a.n.an.length)).f 5 (L i e k);rw[V];simpa using W
   have bk:=n.a 0;have bl:=n.a 1;have bm:=n.a 2;have bn:=n.a 3;have bo:=n.a 4;have bp:=n.a 5;simp at bk bl bm bn bo bp;have bX:=n.b;rw[<-V];have x(_:=()):RV U 3 1 i a.n.ai.length k (gT (a.n.ai.map (·.2)))/\ae aa f U/\(∀j,ag i j->f.heap.size<=j)/\e=a.n.ai.length:=by have b:=av.1;have bM:=aj;have d:=s.1;refine⟨?_,(ae.a aa f).g ((b.d.d (ex':=ap c) λ_ _ d=>d.elim).c aF) (λX bq d=>by have bY:X=c:=d;omega),λj bZ=>by have:=b.c j bZ;omega,d⟩;have W:=b.f.a aF (λX bq d=>by have bY:X=c:=d;have:=b.c X bq;omega);rw[US (by rw[UX];omega)]at W;rw[<-d];exact W
   clear V aF n be bf bg bh bi bj bO bQ bR bS bT bU bV aZ a0 a1 a2 a3 au a4 A bD M bW;refine UO (v:= .tuple #[.agg #[I J a.n.aP,I J a.n.aM,I J a.n.cX,B a.n.iy,I J a.n.an.length,L i e k],I J 0]) (by simp[results,results144,go_sem,bk,bl,bm,bn,bo,bp,bX]) rfl ?_;refine⟨i,k,?_,x.1,x.2.1,x.2.2.1⟩;unfold oS;rw[<-x.2.2.2]
def Mh(f k c)(q:bP c f)(i:k<0\/(f.aE.length:Int)<=k):
 Cr 144 #[P (S ⟨f.b,0,N⟩),.int J k] c (.tuple #[.agg #[.int J 0,.int J 0,.int J 0,B F,.int J 0,L N 0 0],.int J 6]) λU=>ae aa c U:=by
 have j:=q.e;have g:=q.dk.b;obtain⟨u,r⟩:=ah f.b;obtain⟨V,s⟩:=ah f.aE.length;rw[<-r,<-s]at j;rw[<-r]at g|-;rw[<-s]at i;clear q r s;go_enter func144,ntmps144;go_upto_region 1 with fail;obtain⟨e,l⟩:=ah (c.alloc (.cells #[I J 0,I J 0,I J 0,B F,I J 0,L N 0 0] 50));obtain⟨a,m⟩:=ah c.heap.size;have n:ae aa c e:=by rw[l];exact(ae.a aa c).b _
 have b:aq e a #[I J 0,I J 0,I J 0,B F,I J 0,L N 0 0] 50:=by rw[l,m];exact aq.e _ _ _
 rw[<-l,<-m];replace j:=(n.f u 1 g λh=>h).trans j;have t:=@cf _ _ _ b n m;replace g:u<e.heap.size:=Un g n.size;have w:=b.a 0;have x:=b.a 1;have y:=b.a 2;have z:=b.a 3;have A:=b.a 4;have C:=b.a 5;simp at w x y z A C;have W:=b.d 0;have X:=b.d 1;have Y:=b.d 2;have Z:=b.d 3;have ab:=b.d 4;have ac:=b.d 5;have ad:=b.b;clear l m n b;go_cut [19] λv ag=>v=B T/\e=ag;case first=>
  by_cases D:k<0
  .clear i;go_wp2;go_meet;case rel=>exact⟨by first|rfl|simp[D],rfl⟩
  .have ai:(V:Int)<=k:=by omega
   clear i;go_wp2;go_meet;case rel=>exact⟨by first|rfl|simp[D,ai],rfl⟩
 case rest=>
 obtain⟨rfl,rfl⟩:=hcut;clear i j g;go_wp2;obtain⟨E,o⟩:=ah ((((((e.setCell ⟨a,0,N⟩ (I J 0)).setCell ⟨a,1,N⟩ (I J 0)).setCell ⟨a,2,N⟩ (I J 0)).setCell ⟨a,3,N⟩ (B F)).setCell ⟨a,4,N⟩ (I J 0)).setCell ⟨a,5,N⟩ (L N 0 0));have G:ae (ap a) e E:=by rw[o];exact((((((ae.a (ap a) e).e (p:=⟨a,0,N⟩) (λ_=>rfl) _).e (p:=⟨a,1,N⟩) (λ_=>rfl) _).e (p:=⟨a,2,N⟩) (λ_=>rfl) _).e (p:=⟨a,3,N⟩) (λ_=>rfl) _).e (p:=⟨a,4,N⟩) (λ_=>rfl) _).e (p:=⟨a,5,N⟩) (λ_=>rfl) _
 have d:aq E a #[I J 0,I J 0,I J 0,B F,I J 0,L N 0 0] 50:=by have aj:=(((((t.1.f 0 (I J 0)).f 1 (I J 0)).f 2 (I J 0)).f 3 (B F)).f 4 (I J 0)).f 5 (L N 0 0);rw[o];simpa using aj
 have H:=d.a 0;have K:=d.a 1;have M:=d.a 2;have O:=d.a 3;have Q:=d.a 4;have R:=d.a 5;simp at H K M O Q R;have ak:=d.b;rw[<-o];have al:=@af _ ((ae.a aa c).g ((t.2.1.d (ex':=ap a) λ_ _ h=>h.elim).c G) (λam an h=>by have ao:am=a:=h;have:=t.2.2;omega));clear o G d w x y z A C W X Y Z ab ac ad;refine UO (v:= .tuple #[.agg #[I J 0,I J 0,I J 0,B F,I J 0,L N 0 0],I J 6]) (by simp[results,results144,go_sem,H,K,M,O,Q,R,ak]) rfl ?_;exact⟨rfl,al⟩
def PD(a k b)(d:bn b a)(e:¬(0<=k/\k<(a.aK.length:Int))):
 Cr 31 #[P (S ⟨a.nb,0,N⟩),.int J k] b (.int J 6) λg=>ae aa b g:=by
 have c:=@af _ (d.j k);rw[U7 e]at c;generalize a.nb=nb at *;clear d e;go_enter func31,ntmps31;go_wp2_with fail;refine Uq c ?_;rintro h i ⟨rfl,f⟩;have j:=@af _ f;clear f c;go_wp2;go_ret;simp_all
def Pv(a k b)(d:bn b a)(e:¬(0<=k/\k<(a.aK.length:Int))):
 Cr 66 #[P (S ⟨a.nb,0,N⟩),.int J k] b (.int J 6) λg=>ae aa b g:=by
 have c:=@af _ (d.j k);rw[U7 e]at c;generalize a.nb=nb at *;clear d e;go_enter func66,ntmps66;go_wp2_with fail;refine Uq c ?_;rintro h i ⟨rfl,f⟩;have j:=@af _ f;clear f c;go_wp2;go_ret;simp_all
def Pa(f k c)(q:bn c f)(r:¬(0<=k/\k<(f.aK.length:Int))):
 Cr 38 #[P (S ⟨f.nb,0,N⟩),.int J k] c (.tuple #[.agg #[.int J 0,.int J 0,.int J 0,B F,.int J 0,L N 0 0],.int J 6]) λU=>ae aa c U:=by
 have g(_:=()):∀e,ae aa c e->_:=λe V=>(q.a V λ_ _ j=>j).j k;rw[U7 r]at g;obtain⟨am,s⟩:=ah f.nb;rw[<-s]at g|-;clear q r s;go_enter func38,ntmps38;go_wp2_with fail;obtain⟨e,h⟩:=ah (c.alloc (.cells #[I J 0,I J 0,I J 0,B F,I J 0,L N 0 0] 50));have t:ae aa c e:=by rw[h];exact(ae.a aa c).b _
 have u:aq e c.heap.size #[I J 0,I J 0,I J 0,B F,I J 0,L N 0 0] 50:=by rw[h];exact aq.e _ _ _
 rw[<-h];have w:=@af _ t;obtain⟨a,l⟩:=ah c.heap.size;rw[<-l]at u|-;have m:=@aC _ _ u l;clear h t l;refine Uq (g () e w) ?_;clear g;rintro an n ⟨rfl,o⟩;have b:=m.1.c o id;have x:=@aC _ _ (w.c o) (m.2);have y:=b.a 0;have z:=b.a 1;have A:=b.a 2;have C:=b.a 3;have D:=b.a 4;have E:=b.a 5;have W:=b.d 0;have X:=b.d 1;have Y:=b.d 2;have Z:=b.d 3;have ab:=b.d 4;have ac:=b.d 5;have ad:=b.b;have ag:=@af _ b;simp only[V4,UN,U8,UH]at y z A C D E;clear o b m;go_wp2;obtain⟨G,i⟩:=ah ((((((n.setCell ⟨a,0,N⟩ (I J 0)).setCell ⟨a,1,N⟩ (I J 0)).setCell ⟨a,2,N⟩ (I J 0)).setCell ⟨a,3,N⟩ (B F)).setCell ⟨a,4,N⟩ (I J 0)).setCell ⟨a,5,N⟩ (L N 0 0));have d:aq G a #[I J 0,I J 0,I J 0,B F,I J 0,L N 0 0] 50:=by have:=(((((ag.f 0 (I J 0)).f 1 (I J 0)).f 2 (I J 0)).f 3 (B F)).f 4 (I J 0)).f 5 (L N 0 0);rw[<-i]at this;exact this
 have ai(_:=()):ae (ap a) n G:=by rw[i];exact((((((ae.a (ap a) n).e (p:=⟨a,0,N⟩) (λ_=>rfl) _).e (p:=⟨a,1,N⟩) (λ_=>rfl) _).e (p:=⟨a,2,N⟩) (λ_=>rfl) _).e (p:=⟨a,3,N⟩) (λ_=>rfl) _).e (p:=⟨a,4,N⟩) (λ_=>rfl) _).e (p:=⟨a,5,N⟩) (λ_=>rfl) _
 rw[<-i];have H:=d.a 0;have K:=d.a 1;have M:=d.a 2;have O:=d.a 3;have Q:=d.a 4;have R:=d.a 5;simp only[V4,UN,U8,UH]at H K M O Q R;have aj:=d.b;clear y z A C D E W X Y Z ab ac ad i d;refine UO (v:= .tuple #[.agg #[I J 0,I J 0,I J 0,B F,I J 0,L N 0 0],I J 6]) (by simp[results,results38,go_sem,H,K,M,O,Q,R,aj]) rfl ?_;exact⟨rfl,x.1.g ai λak al j=>by rw[show ak=a from j,x.2]at al;omega⟩
def Ky(f k c)(q:bn c f)(r:¬(0<=k/\k<(f.aK.length:Int))):
 Cr 23 #[P (S ⟨f.nb,0,N⟩),.int J k] c (.tuple #[.agg #[.int J 0,.int J 0,.int J 0,B F,.int J 0,L N 0 0],.int J 6]) λU=>ae aa c U:=by
 have i(_:=()):∀e,ae aa c e->_:=λe V=>Pa f k e (q.a V λ_ _ j=>j) r;obtain⟨am,s⟩:=ah f.nb;rw[<-s]at i|-;clear q r s;go_enter func23,ntmps23;go_wp2_with fail;obtain⟨e,g⟩:=ah (c.alloc (.cells #[I J 0,I J 0,I J 0,B F,I J 0,L N 0 0] 50));have t:ae aa c e:=by rw[g];exact(ae.a aa c).b _
 have u:aq e c.heap.size #[I J 0,I J 0,I J 0,B F,I J 0,L N 0 0] 50:=by rw[g];exact aq.e _ _ _
 rw[<-g];have w:=@af _ t;obtain⟨a,l⟩:=ah c.heap.size;rw[<-l]at u|-;have m:=@aC _ _ u l;clear g t l;refine Uq (i () e w) ?_;clear i;rintro an n ⟨rfl,o⟩;have b:=m.1.c o id;have x:=@aC _ _ (w.c o) (m.2);have y:=b.a 0;have z:=b.a 1;have A:=b.a 2;have C:=b.a 3;have D:=b.a 4;have E:=b.a 5;have W:=b.d 0;have X:=b.d 1;have Y:=b.d 2;have Z:=b.d 3;have ab:=b.d 4;have ac:=b.d 5;have ad:=b.b;have ag:=@af _ b;simp only[V4,UN,U8,UH]at y z A C D E;clear o b m;go_wp2;obtain⟨G,h⟩:=ah ((((((n.setCell ⟨a,0,N⟩ (I J 0)).setCell ⟨a,1,N⟩ (I J 0)).setCell ⟨a,2,N⟩ (I J 0)).setCell ⟨a,3,N⟩ (B F)).setCell ⟨a,4,N⟩ (I J 0)).setCell ⟨a,5,N⟩ (L N 0 0));have d:aq G a #[I J 0,I J 0,I J 0,B F,I J 0,L N 0 0] 50:=by have:=(((((ag.f 0 (I J 0)).f 1 (I J 0)).f 2 (I J 0)).f 3 (B F)).f 4 (I J 0)).f 5 (L N 0 0);rw[<-h]at this;exact this
 have ai(_:=()):ae (ap a) n G:=by rw[h];exact((((((ae.a (ap a) n).e (p:=⟨a,0,N⟩) (λ_=>rfl) _).e (p:=⟨a,1,N⟩) (λ_=>rfl) _).e (p:=⟨a,2,N⟩) (λ_=>rfl) _).e (p:=⟨a,3,N⟩) (λ_=>rfl) _).e (p:=⟨a,4,N⟩) (λ_=>rfl) _).e (p:=⟨a,5,N⟩) (λ_=>rfl) _
 rw[<-h];have H:=d.a 0;have K:=d.a 1;have M:=d.a 2;have O:=d.a 3;have Q:=d.a 4;have R:=d.a 5;simp only[V4,UN,U8,UH]at H K M O Q R;have aj:=d.b;clear y z A C D E W X Y Z ab ac ad h d;refine UO (v:= .tuple #[.agg #[I J 0,I J 0,I J 0,B F,I J 0,L N 0 0],I J 6]) (by simp[results,results23,go_sem,H,K,M,O,Q,R,aj]) rfl ?_;exact⟨rfl,x.1.g ai λak al j=>by rw[show ak=a from j,x.2]at al;omega⟩
def Gk{m:Int->World->Prop}(b k u D h)(i:bn h b)(n:b.aS[k]?=S u)(v:dw b.a D)(o)(q:Nat)(w:∀c e a,b.ba=S ⟨c,e,N⟩->ae aa h a->Calls prog 122 #[P (S ⟨c,e+k*4,N⟩),.int J o,.int .u8 (q:Int)] a λf j=>∃d,f= .returned (.int J d)/\m d j):
 Calls prog 70 #[P (S ⟨b.nb,0,N⟩),.int J k,.int J o,.int .u8 (q:Int)] h λf j=>∃d,f= .returned (.int J d)/\m d j:=by
 have E:=(Ul.1 n).1;have G:(b.aS.length:Int)<=300:=by have:=v.b;rw[bn.b.1]at this;omega
 have O:(k:Int)<1000:=by omega
 have Q:(k:Int)<b.aS.length:=by omega
 have r(_:=()):∀a,_:=λa=>rY b.ba b.aS.length b.bc (k:Int) a;rw[U4 (p:=0<=(k:Int)/\(k:Int)<b.aS.length) ⟨by omega,by omega⟩]at r;obtain⟨c,e,l,_,_,_,_,_⟩:=i.f.b k u n;have x(_:=()):∀a,ae aa h a->Calls prog 122 #[P (S ⟨c,e+k*4,N⟩),I J o,I .u8 (q:Int)] a λf j=>∃d:Int,f= .returned (.int J d)/\m d j:=λa g=>w c e a l g;have s(_:=()):∀a,ae aa h a->b.nb<a.heap.size/\c<a.heap.size/\a.cell? ⟨b.nb,2,N⟩=S (L (S ⟨c,e,N⟩) b.aS.length b.bc):=λa g=>by have t:=i.a g λ_ _ H=>H;exact⟨t.fq.b,t.pt.b c (by rw[l];exact eN c e),by rw[<-l];exact t.c⟩
 have y:=i.c;have z:=i.fq.b;obtain⟨R,A⟩:=ah b.nb;rw[<-A]at s y z|-;clear i n v E G A l w;go_enter func70,ntmps70;go_wp2_with fail;refine Uq (r () _) ?_;rintro f a ⟨rfl,g⟩;have K:=@af _ g;obtain⟨U,V,M⟩:=s () a g;clear g r y z s;go_wp2_with fail;refine Uq (x () a K) ?_;rintro f W ⟨d,rfl,C⟩;have X:=@af _ C;clear x C M;go_wp2;go_ret;simp_all
def Pq(b)(k:Nat)(a f d)(g:bn d b)(h:b.aS[k]?=S a)(n:dw b.a f)(c)(e:Nat)(o:a.sp=T\/c<0\/(a.l.length:Int)<=c\/e=0):
 Calls prog 70 #[P (S ⟨b.nb,0,N⟩),.int J k,.int J c,.int .u8 (e:Int)] d λi p=>∃j,i= .returned (.int J j)/\j=8/\ae aa d p:=by
 refine Gk b k a f d g h n c e λq r s t l=>?_;have u:=g.a l λ_ _ v=>v;obtain⟨A,C,m,w,D,E,x,y⟩:=u.f.b k a h;rw[t]at m;cases m;refine(SQ q (r+k*4) a.g a.c a.l.length e a.sp c s x y w o).mono ?_;rintro i G ⟨rfl,z⟩;exact⟨_,rfl,rfl,l.c z⟩
def Ps(N)(k b c:Nat)(a l h)(q:bn h N)(d:N.aS[k]?=S a)(m:dw N.a l)(r:c<256)(s:a.sp=F)(i:b<a.l.length)(G:c≠0):
 Calls prog 70 #[P (S ⟨N.nb,0,none⟩),.int J k,.int J b,.int .u8 (c:Int)] h λt u=>∃w,t= .returned (.int J w)/\w=0/\∃f,bn u f/\f.a=N.a.s k b c/\du h u N f/\f.aG=N.aG/\dw f.a l:=by
 refine Gk N k a l h q d m (b:Int) c λe n x j y=>?_;have z:=Uo d;have ab:=(Ul.1 d).1;have g:=q.a y λ_ _ o=>o;obtain⟨ac,ad,A,H,ae,af,K,M⟩:=g.f.b k a d;rw[j]at A;cases A;have O:=KD m k b c r;have Q:=Um i;have R:=(bn.h m d).2.2 a.l[b] (Vk i);have U:=g.l5 a z;obtain⟨ah,ai,V,p⟩:=ja U (by omega);cases V;have C:=p.a b (bv a.l[b]) (by simp[i]);rw[Ve]at C;have W:¬a.g=e:=λo=>by have:=g.fk .eY .dY e ⟨a,z,o⟩ (by show ag N.ba e;rw[j];exact eN e n);cases this
 have X:x.frozen? ⟨e,n+k*4+3,none⟩=F:=by obtain⟨aj,ak,D,Y⟩:=ja g.pt (by omega);rw[j]at D;cases D;exact Y.c _
 refine(SR e (n+k*4) a.g a.c a.l.length b a.l[b] c x K (by rw[M,s]) X H p.b W C (p.c _) (by omega) (by omega) R r).mono ?_;rintro t al ⟨rfl,rfl⟩;obtain⟨Z,aa⟩:=g.C (v:=a.l[b] ^^^ c) d i j;have E:=Ke (N:=N) d s Q G;exact⟨_,rfl,rfl,_,Z,E,(du.g N y).c aa,rfl,by rw[E];exact O⟩
def AN.E(b:AN)(c:Ed):Bool:=b.bd.any λd=>d.n.ai.any λa=>decide ((a.1:Int)=c.c)&&decide (a.2=1)
def AN.H(a:AN):List Ed:=a.g.filter a.E
namespace Ghs
def iT.g{c}{d:bT c}{f e g}(h:iT c d f e g)(a b)(i:b<d.dg a):(e a).p b=c.w a (d.nb a b):=by obtain⟨k,⟨l,m,n,j,_⟩,_⟩:=h.a;exact(j.a a).h b i
def AI.j{D w}{b:nB D w}{h}(n:AI (lX b) h)(E:h.g=w.map iq):h.H=h.C:=by
 refine List.filter_congr λX x=>?_;rw[E]at x;obtain⟨a,y,rfl⟩:=Vb.1 x;have G:(iq a).a.toNat=a.a:=rfl;have H:(iq a).b.toNat=a.b:=rfl;rw[G,H,WG,Bool.or_eq_true];obtain⟨Y,Z,K,_⟩:=n.b;obtain⟨aa,o,_⟩:=K.a;have r:(pn b).fg a.a a.b:=⟨a,y,Ur ⟨rfl,rfl⟩⟩
 have s:(pn b).w a.a a.b=a.w:=xG b a y;constructor;intro d;obtain⟨f,p,d⟩:=Xh.1 d;obtain⟨k,M,d⟩:=Xh.1 d;rw[XD,UV,UV]at d;obtain⟨c,O⟩:=VL p;obtain⟨e,g⟩:=VL M;have i:=rO O;have t:=o.e c;have u:=(Ul.1 g).1;rw[i]at t;have v:e<(lX b).dg c:=by omega
 have j:=o.g c e v;rw[i]at j;unfold ay.p at j;rw[g]at j;have ab:(k.1:Int)=a.w:=d.1;have Q:(pn b).w c ((lX b).nb c e)=(pn b).w a.a a.b:=by rw[s,<-j];show k.1=a.w;omega
 have z:=(n.e v).2 (by rw[i];unfold ay.c;rw[g];exact d.2);obtain⟨R,U⟩|⟨R,U⟩:=(pn b).wd _ _ _ _ ((lX b).iU c e v) r Q;grind;grind;have A:∀c l,(pn b).fg c l->(pn b).w c l=a.w->h.u c l=T->h.bd.any (λf=>f.n.ai.any λk=>decide ((k.1:Int)=(iq a).c)&&decide (k.2=1))=T:=by
  intro c l V j z;obtain⟨e,g,C⟩:=(lX b).pU c l V;obtain⟨ac,f,ad,ae,p⟩:=n.a.c g;have i:=rO p;have t:=o.e c;rw[i]at t;have q:=(n.e g).1 (by rw[C];exact z);have m:=o.g c e g;rw[i]at q m;unfold ay.c at q;unfold ay.p at m;have u:e<f.n.ai.length:=by omega
  rw[Um u]at q m;rw[C,j]at m;refine Xh.2 ⟨f,Uo p,Xh.2 ⟨f.n.ai[e],Vk u,?_⟩⟩;rw[XD,UV,UV];have W:f.n.ai[e].1=a.w:=m;exact⟨by rw[W];rfl,q⟩
 rintro (d|d);exact A _ _ r s d;exact A _ _ ((pn b).iK _ _ r) (by rw[(pn b).ws];exact s) d
end Ghs
end Go.Proofs.YtlfijfodklhplaaGreat
namespace Go.Proofs.YtlfijfodklhplaaGreat.Ghs.V
open Ghs bV
structure jv(e:Nat)(f:AN):Prop where
 b:e<=10
 d:1<=e
 a:∃(g:List E3)(h:nB e g),g.length<=30/\f.g=g.map iq/\AI (lX h) f
 c:jt f
def wZ{c a}(d:nB c a)(e:a.length<=30):∀b,(lX d).dg b<=30:=λb=>by show (iW b a).length<=30;have:(iW b a).length<=a.length:=VP _ _;omega
def jv.p{c d}(a:jv c d){b}(n:b<c){e}(f:d.bd[b]?=S e):jv c (d.D b):=by obtain⟨g,h,i,j,k⟩:=a.a;obtain⟨l,m⟩:=k.p a.b f;exact⟨a.b,a.d,⟨g,h,i,m.trans j,l⟩,IS a.c b⟩
def jv.o{c d}(a:jv c d)(b):jv c (d.y b):=by obtain⟨e,f,g,h,i⟩:=a.a;obtain⟨j,k⟩:=i.n b;exact⟨a.b,a.d,⟨e,f,g,k.trans h,j⟩,JH a.c b⟩
def jv.l{b c}(a:jv b c)(k):jv b (c.f k):=by obtain⟨d,e,f,g,h⟩:=a.a;exact⟨a.b,a.d,⟨d,e,f,g,h.g k⟩,tV a.c rfl⟩
def jv.f{c a}(b:jv c a)(k):jv c (a.q k):=by
 obtain⟨e,f,g,h,i⟩:=b.a;have d:(a.q k).g=a.g/\(a.q k).c=a.c:=by unfold AN.q;split;simp;exact⟨(qj a _).2,Gv a _⟩
 exact⟨b.b,b.d,⟨e,f,g,d.1.trans h,i.i k⟩,tV b.c d.2⟩
def jv.n{e a}(c:jv e a)(k d b)(g:b<256):jv e (a.s k d b):=by
 obtain⟨h,i,j,l,m⟩:=c.a;have f:(a.s k d b).g=a.g/\(a.s k d b).c=a.c:=by unfold AN.s;split;simp;split;exact⟨rfl,rfl⟩;simp
 exact⟨c.b,c.d,⟨h,i,j,f.1.trans l,m.m k d b g⟩,tV c.c f.2⟩
def jv.h{c a}(b:jv c a)(n:a.fu.length<=300)(k):jv c (a.x k):=by
 obtain⟨g,d,e,h,i⟩:=b.a;cases f:a.fu[k]? with
 |none=>
  have o:a.x k=a:=by unfold AN.x;rw[f]
  grind
 |some p=>
  obtain⟨⟨j,l⟩,m⟩:=i.f b.b (wZ d e) f;exact⟨b.b,b.d,⟨g,d,e,l.trans h,j⟩,(m b.c).1⟩
def jv.j{a b}(c:nB a b)(g:a<=10)(h:1<=a)(i:b.length<=30)(j:∀(f:Nat)(d:AS),(AN.i a (b.map iq)).bd[f]?=S d->lg d.n):jv a (AN.i a (b.map iq)):=by refine⟨g,h,⟨b,c,i,rfl,AI.l c j⟩,λf d k=>?_⟩;obtain⟨_,rfl⟩:=uG k;refine Iq9 λo l=>?_;obtain⟨p,e,rfl⟩:=Vb.1 l;obtain⟨e,_⟩:=wk.1 e;obtain⟨m,n,rfl⟩:=Vb.1 e;have:=(c.a m n).2.2.2.2;assumption
def jv.m{e b}(f:jv e b){g}(a:dw b g):dw b 3400:=by obtain⟨q,h,i,r,j⟩:=f.a;refine⟨a.d,λc k d=>?_,a.c,a.f,a.b,a.e,a.g⟩;obtain⟨l,m,_⟩:=a.a c k d;refine⟨l,m,?_⟩;obtain⟨s,t,n,_⟩:=j.b;obtain⟨u,o,_⟩:=n.a;have p:=o.i c;have v:=wZ h i c;rw[rO d]at p;omega
def jv.e{f c}(g:jv f c){b:Nat}{a}(h:c.bd[b]?=S a):a.n.ai.length<=100/\(a.n.aP=0->a.n.aM=0/\a.n.bI=0/\∀i∈a.n.ai,i.2=0):=by obtain⟨p,j,k,q,l⟩:=g.a;obtain⟨r,s,m,_⟩:=l.b;obtain⟨t,d,_⟩:=m.a;have n:=d.e b;have u:=wZ j k b;obtain⟨v,o,_⟩:=d.a;have e:=o.c b;rw[rO h]at n e;exact⟨by omega,e⟩
def jv.i{b a}(c:jv b a):a.H=a.C:=by obtain⟨f,g,h,d,e⟩:=c.a;exact e.j d
def jv.g{b d}(e:jv b d){k a}(i:d.fu[k]?=S a):
 ∃c f,(d.f k).w a.t a.f=c/\d.e a.t c=S f/\∀h g,(f.2.b (eK a.l))[h]?=S g->
  ∃b,((((d.f k).a a.t c λj=>j.d (eK a.l)).d a.t c).n a.t c ((f.2.b (eK a.l)).take h)).c[a.t]?=S b/\b.aD=[]/\tT b c g/\(b.an.length:Int)<4000/\dC g/\b.ai.length<=100:=by
 obtain⟨o,l,m,p,n⟩:=e.a;exact((n.f e.b (wZ l m) i).2 e.c).2
end Go.Proofs.YtlfijfodklhplaaGreat.Ghs.V
namespace Go.Proofs.YtlfijfodklhplaaGreat
structure PB(e:World)(f:Nat)(a:List Nat)(d:Nat):Prop where
 b:gp e f a d
 c:a.length<=d
def PB.a{b c w' a d e}(f:PB c a d e)(k:ae b c w')(h:∀g,ag (S ⟨a,0,N⟩) g->¬b g):PB w' a d e:=⟨f.b.a k (h a (eN _ _)),f.c⟩
def PB.d{b a c d}(e:PB b a c d):jw b a c d:=by obtain⟨⟨f,g,h⟩,i⟩:=e;exact⟨by simp,i,Up ⟨a,0,rfl,[],f,by simpa using g,rfl,Nat.le_of_eq h.symm⟩⟩
def LN(i d b a)(p:jw a i b d)(q:0<b.length)(r:(b.length:Int)<1000):
 Calls prog 175 #[L (S ⟨i,0,N⟩) b.length d] a λD s=>∃c f,D= .returned (L (S ⟨c,0,N⟩) b.length f)/\PB s c b f/\ae aa a s/\a.heap.size<=c:=by
 have j:=@cf _ _ _ p q r;have R:∀(a:World)(k:Option Addr)(l d:Nat),(binOp .eql 56 (L k l d) (L N 0 0)).run prog a= .ok (B k.isNone) a:=λa k l d=>Vq a 56 5 k l d 0 0 underlying56;clear p q r;generalize t:b.length=ln at *;go_enter func175,ntmps175;have u:dL (a.alloc (.cells #[] 5)) a.heap.size 5 1 [] 0:=⟨[],aq.e _ _ _,rfl⟩
 have v:∀m e,(b.map bv)[m]?=S e->(a.alloc (.cells #[] 5)).cell? (Addr.add ⟨i,0,N⟩ m)=S e:=λm e n=>by obtain⟨U,V,g⟩:=j.1.a ((ae.a aa a).b (.cells #[] 5)) λ_ _ h=>h;obtain⟨g,_⟩|⟨c,W,g,E⟩:=g;cases g;cases g;rw[Va];exact E.a _ _ n
 have w:(b.map bv).length=ln*1:=by rw[UX,t,Xb]
 have x:∀e∈b.map bv,e.oneCell'=T:=λe n=>by obtain⟨X,_,rfl⟩:=Vb.1 n;rfl
 go_wp2_with (at_builtin;refine pP _ rfl (.tmp 5) (.tmp 6) 56 rfl 5 (I .u8 0) 1 1 underlying56 ng rfl a.heap.size 0 0 rfl [] rfl u ⟨i,0,N⟩ ln d rfl (b.map bv) w v x (by have:=j.2.2;omega) (by have:=j.2.2;omega) ?_;intro c f G o H y z);have K:a.heap.size<=c:=by obtain⟨A,C⟩|⟨A,C⟩:=y;omega;rw[A];simp
 have M:=(ae.a aa a).g ((((ae.a aa a).b _).d (ex':=ap a.heap.size) λ_ _ h=>h.elim).c z) (λO Y h=>by have C:O=a.heap.size:=h;omega);rw[VG]at o;have Q(_:=()):PB G c b f:=⟨o,by rw[t];omega⟩
 clear o H y z u v w x j;go_wp2;go_ret;exact⟨c,f,by simp,Q,M,K⟩
def Kt(d e)(W:jw e d.g d.l d.c)(X:0<d.l.length)(Y:(d.l.length:Int)<1000):
 Calls prog 121 #[so d] e λZ ab=>∃f j,Z= .returned (so {d with g:=f,c:=j})/\PB ab f d.l j/\ae aa e ab/\e.heap.size<=f:=by
 have A(_:=()):∀C,ae aa e C->_:=λC au=>LN d.g d.c d.l C (W.a au λ_ _ b=>b) X Y;clear W X Y;obtain⟨m,n,av,D,E,o⟩:=d;simp only[so,Pk.b]at A|-;generalize aF:av.length=ln at *;go_enter func121,ntmps121;go_wp2_with fail;obtain⟨s,r⟩:=ah ((e.alloc (.cells #[I J m,I J n,L (S ⟨D,0,N⟩) ln E,B o] 200)).alloc (.cells #[I J 0,I J 0,L N 0 0,B F] 200));have t:ae aa e s:=by rw[r];exact((ae.a aa e).b _).b _
 obtain⟨i,u⟩:=ah e.heap.size;obtain⟨a,w⟩:=ah (e.heap.size+1);have G:aq s i #[I J m,I J n,L (S ⟨D,0,N⟩) ln E,B o] 200:=by rw[r,u];exact(aq.e _ _ _).c ((ae.a aa _).b _) id
 have H:aq s a #[I J 0,I J 0,L N 0 0,B F] 200:=by rw[r,w];have:=aq.e (e.alloc (.cells #[I J m,I J n,L (S ⟨D,0,N⟩) ln E,B o] 200)) #[I J 0,I J 0,L N 0 0,B F] 200;simpa using this
 rw[<-r,<-w,<-u];refine Uq (A () s t) ?_;rintro Z K ⟨f,j,rfl,ac,x,ad⟩;have k:=G.c x id;have h:=H.c x id;have aG:¬f=i:=by have:=G.b;omega
 have aH:¬f=a:=by have:=H.b;omega
 have aw:=UM t.size ad;have q:=@nh _ _ _ _ _ _ ac (t.c x) k h u w;have af:=k.a 0;have ag:=k.a 1;have ai:=k.a 2;have aj:=k.a 3;have ak:=h.a 0;have al:=h.a 1;have am:=h.a 2;have an:=h.a 3;simp at af ag ai aj ak al am an;have ax:=k.d 2;have ay:=h.d 0;have az:=h.d 1;have aA:=h.d 2;have aB:=h.d 3;have aI:=k.b;have aJ:=h.b;have aC:¬a=i:=by omega
 have aK:¬i=a:=by omega
 clear A ac x ad k h G H t r u w;go_wp2_with fail;obtain⟨y,M⟩:=ah (K.setCell ⟨i,2,N⟩ (L (S ⟨f,0,N⟩) ln j));have z:ae (ap i) K y:=by rw[M];exact(ae.a (ap i) K).e (p:=⟨i,2,N⟩) (λ_=>rfl) _
 have l:=(((q.2.2.2.1.c z λb=>aC b).f 0 (I J m)).f 1 (I J n)).f 2 (L (S ⟨f,0,N⟩) ln j);have l:=l.f 3 (B o);rw[<-M];obtain⟨aD,O⟩:=ah ((((y.setCell ⟨a,0,N⟩ (I J m)).setCell ⟨a,1,N⟩ (I J n)).setCell ⟨a,2,N⟩ (L (S ⟨f,0,N⟩) ln j)).setCell ⟨a,3,N⟩ (B o));have Q:ae (ap a) y aD:=by rw[O];exact((((ae.a (ap a) y).e (p:=⟨a,0,N⟩) (λ_=>rfl) _).e (p:=⟨a,1,N⟩) (λ_=>rfl) _).e (p:=⟨a,2,N⟩) (λ_=>rfl) _).e (p:=⟨a,3,N⟩) (λ_=>rfl) _
 rw[<-O]at l|-;have u0:=l.a 0;have u1:=l.a 1;have u2:=l.a 2;have u3:=l.a 3;simp at u0 u1 u2 u3;have ao:=(q.1.a z (λR U b=>by have:=cM.1 U;have b:R=i:=b;omega)).a Q (λR U b=>by have:=cM.1 U;have b:R=a:=b;omega);have ar:=(q.2.1.g z (λV aE b=>by have b:V=i:=b;have:=q.2.2.2.2.1;omega)).g Q (λV aE b=>by have b:V=a:=b;have:=q.2.2.2.2.2;omega);clear O M z Q l q af ag ai aj ak al am an ax ay az aA aB;refine UO (v:= .agg #[I J m,I J n,L (S ⟨f,0,N⟩) ln j,B o]) ?_ rfl ⟨f,j,rfl,ao,ar,aw⟩;clear ao ar;simp[results,results121,go_sem,u0,u1,u2,u3]
structure oI(d wr:World)(e c:List Pk)(f:Option Addr)(g:Nat):Prop where
 t:oH d wr e c f g
 b:∀a∈c,PB wr a.g a.l a.c
def oI.a{a wr b c d e}(f:oI a wr b c d e):ae aa a wr:=f.t.d
def oI.c{d wr e a b c}(f:oI d wr e a b c):RV wr 58 3 b a.length c (kN a):=f.t.f
def oI.d{n wr e h o f i a' s c'}(g:oI n wr o f i s)(j a)(t:a.d=j.d)(p:ae aa wr e)(q:PB e a.g a.l a.c)(u:wr.heap.size<=a.g)(v:RV h 58 3 a' (f.length+1) c' (kN f++oX a))(w:∀d,ag a' d->ag i d\/e.heap.size<=d)(k:ae (ag i) e h):
 oI n h (o++[j]) (f++[a]) a' c':=by
 refine⟨g.t.j j a t p q.d u v w k,λr c=>?_⟩;obtain c|c:=UP.1 c;obtain⟨y,z,x⟩:=g.t.b r c;exact((g.b r c).a p λ_ _ b=>b).a k (λd l b=>by have m:=cM.1 l;rw[m]at b;exact x b);rw[UY.1 c];exact q.a k λd l b=>by have m:=cM.1 l;rw[m]at b;have:=g.c.b _ b;omega
def KY(x y c H K i)(M:mS i x y c H K)(O:(c.length:Int)<=300)(Q:∀d∈c,jw i d.g d.l d.c/\0<d.l.length/\(d.l.length:Int)<1000):
 Calls prog 72 #[L H c.length K] i λR am=>∃e f g,R= .returned (L f e.length g)/\oI i am c e f g:=by
 have z:=@cf _ _ _ M O Q;have an(_:=()):oI i i [] [] N 0:=by
  have ao:∀q,¬ag N q:=λq a=>by obtain⟨_,a⟩:=a;cases a
  exact⟨⟨ae.a _ _,⟨rfl,UF _,Ur ⟨rfl,rfl,rfl⟩⟩,λq a=>(ao q a).elim,rfl,(λd j=>by cases j),Xc⟩,λd j=>by cases j⟩
 clear M O Q;go_enter func72,ntmps72;go_wp2_with fail;go_loopw [3,8] (λU A wr=>∃(b:Nat)(e:List Pk)(f:Option Addr)(g:Nat),b<=c.length/\A= .int J b/\U=L f b g/\e.length=b/\oI i wr (c.take b) e f g) λ_ A _=>c.length-(intOf A).toNat;case atStart=>exact⟨0,[],N,0,by omega,rfl,rfl,rfl,an⟩
 case round=>
  obtain⟨b,e,f,g,C,rfl,rfl,V,W⟩:=hrel;have h:=@cf _ _ _ W C V;clear W;by_cases r:b<c.length
  .have X:=@af _ r;have aK:(b:Int)<c.length:=by omega
   obtain⟨d,j⟩:∃d,c[b]?=S d:=⟨_,Um r⟩
   have s:=@aC _ _ j (z.2.2 d (Uo j));have k:=z.1;have o:=h.1.a;obtain⟨ap,aL,Y,aM,Z,ab,D,ac⟩:=mS.b ⟨Un k.a o.size,(o.f x y k.a id).trans k.d,(o.h x y k.a id).trans k.e,k.c.a o λ_ _ a=>a,k.f⟩ b d j;have aq:(b:Int)<1000:=by have:=z.2.1;omega
   have ad:=@af _ aq;have t(_:=()):∀E,ae aa wr E->_:=λE ar=>Kt d E ((s.2.1.a h.1.a λ_ _ a=>a).a ar λ_ _ a=>a) s.2.2.1 s.2.2.2;rw[Y];obtain⟨l,m,u,au,av,G⟩:=d;simp only[so,Pk.b]at Z ab D ac t;clear r C V j k o Y;generalize aw:u.length=xln at D t;go_wp2_with fail;refine Uq (t () _ ((ae.a aa wr).b _)) ?_;rintro R v ⟨n,p,rfl,ax,ah,ai⟩;have aj:=((ae.a aa wr).b _).c ah;have ay:wr.heap.size<=n:=by simp only[Uv]at ai;omega
   have az(_:=()):RV v 58 3 f b g (kN e):=by have:=h.1.c.a aj λ_ _ a=>a;rw[h.2.2]at this;exact this
   clear t Z ab D ac ai ah;have aN:=Nh;go_wp2_with (at_builtin;refine jX _ rfl (.tmp 12) (.tmp 16) 54 rfl 58 (.agg #[I J 0,I J 0,L N 0 0]) 3 40 underlying54 Er rfl f b g rfl (kN e) (az.c _) ⟨v.heap.size,0,N⟩ 1 1 (by omega) rfl [I J l,I J m,L (S ⟨n,0,N⟩) xln p] rfl (gJ v [I J l,I J m,L (S ⟨n,0,N⟩) xln p] 58 _ rfl) (by intro U ak;simp at ak;obtain rfl|rfl|rfl:=ak<;>rfl) (by have:=ad;omega) (by have:=ad;omega) ?_;intro aA aB aO aD aE aF);have aG:=(((ae.a aa v).b _).d λ_ _ a=>a.elim).c aF;have aH:oX ⟨l,m,u,n,p,G⟩=[I J l,I J m,L (S ⟨n,0,N⟩) xln p]:=by simp[oX,Pk.b,aw]
   have al:=h.1.d ⟨l,m,u,au,av,G⟩ ⟨l,m,u,n,p,G⟩ rfl aj ax ay (by rw[h.2.2,aH];exact aD) (λap w=>by obtain⟨a,_⟩|⟨a,_⟩:=aE;rw[a]at w;exact Ur w;rw[a]at w;have:=cM.1 w;simp only[Uv]at this;exact Up (by omega)) aG
   rw[<-su c b _ s.1]at al;exact⟨⟨b+1,_,aA,aB,by have:=X;omega,by go_num,rfl,by simp[h.2.2],al⟩,by have:=X;simp[intOf];omega⟩
  .have aI:b=c.length:=by omega
   subst aI;have aJ(_:=()):oI i wr c e f g:=by have:=h.1;rw[Vu]at this;exact this
   clear r C;go_wp2;go_ret;exact⟨e,f,g,by rw[h.2.2];rfl,aJ⟩
def Pj(a q b)(c:bn b a)(e:dw a.a q):
 Calls prog 39 #[P (S ⟨a.nb,0,N⟩)] b λj r=>∃f g h,j= .returned (L g f.length h)/\oI b r a.aS f g h:=by
 have k(_:=()):∀i,ae aa b i->_:=λi l=>KY a.nb 2 a.aS a.ba a.bc i ((c.a l λ_ _ d=>d).f) (by have:=e.b;rw[bn.b.1]at this;omega) (λm n=>by
  obtain⟨s,t,d⟩:=U3 n;have o:a.aS[s]?=S m:=by rw[Um t,d]
  exact⟨(c.l5 m n).a l λ_ _ d=>d,(bn.h e o).1,(bn.h e o).2.1⟩)
 have u:=c.c;have v:=c.fq.b;generalize a.nb=nb at *;clear c e;go_enter func39,ntmps39;go_wp2_with fail;refine Uq (k () b (ae.a aa b)) ?_;rintro j i ⟨f,g,h,rfl,p⟩;have w:=@af _ p;clear p k u v;go_wp2;go_ret;exact⟨f,g,h,rfl,w⟩
def Dk.d(a:Dk):Pk:=⟨a.f,a.t,a.l,a.g,a.c,a.sp⟩
def QZ{b g c a}(d:gp b g a c)(e:a.length<=c):jw b g a c:=by obtain⟨f,h,i⟩:=d;exact⟨by simp,e,Up ⟨g,0,rfl,[],f,by simpa using h,rfl,Nat.le_of_eq i.symm⟩⟩
def S2{f o b a d k p q}(r:b.guard=N)(g h t)(s:b.op=Op.call {callee:=Callee.builtin Builtin.append,args:= #[g,h],argTypes:= #[t,t]})(e z size bytes)(u:f.underlying t=some (.slice e))(v:(f.info? e).map (λi=>(i.zero,i.size,i.bytes))=some (some z,size,bytes))(w:z.cells.size=size)(x:a.eval g=L N 0 0)(ad m c')(y:0<m)(A:a.eval h=L (some ad) m c')(news)(C:news.length=m*size)(D:∀l n,news[l]?=some n->d.cell? (ad.add l)=some n)(E:m*bytes<=140737488355328)(G:m<=9223372036854775807)(H:∀j c w',d.heap.size<=j->dL w' j e size news c->m<=c->ae aa d w'->k (a.put b.dst (L (some ⟨j,0,N⟩) m c)) w'):
 if Region.wanted b (yielded o a.tmps)=true then Oper.wp f b a d k p else q:=
 Cl r g h t s e z size bytes u v w x ad m c' y A news C D E G λc w' K M O=>H _ c w' (UF _) K M O
structure lm(wr w':World)(a:Option Addr)(k c:Nat)(vs:List Value)(nb g q:Nat)(B F T S:Value)(xg:Nat)(xl:List Nat):Prop where
 h:ae (ag a) wr w'
 e:RV w' 58 3 a k c vs
 l:w'.cell? ⟨nb,2,N⟩=some B
 m:w'.cell? ⟨g,q,N⟩=some F
 n:w'.cell? ⟨g,q+1,N⟩=some T
 o:w'.cell? ⟨g,q+2,N⟩=some S
 j:∀f i,(xl.map bv)[f]?=some i->w'.cell? ((⟨xg,0,N⟩:Addr).add f)=some i
 b:nb<w'.heap.size/\g<w'.heap.size/\xg<w'.heap.size
 d:¬ag a nb/\¬ag a g/\¬ag a xg
section
variable {wr w' w1 : World} {a : Option Addr} {k c : Nat} {vs : List Value} {nb g q : Nat} {B F T S : Value} {xg : Nat} {xl : List Nat}
def lm.f(b:lm wr w' a k c vs nb g q B F T S xg xl)(d:ae (ag a) w' w1)(f:RV w1 58 3 a k c vs):lm wr w1 a k c vs nb g q B F T S xg xl:=
 ⟨b.h.c d,f,(d.f nb 2 b.b.1 b.d.1).trans b.l,(d.f g q b.b.2.1 b.d.2.1).trans b.m,(d.f g (q+1) b.b.2.1 b.d.2.1).trans b.n,(d.f g (q+2) b.b.2.1 b.d.2.1).trans b.o,λe h i=>by have:=b.j e h i;rw[Va]at this|-;exact(d.f xg (0+e) b.b.2.2 b.d.2.2).trans this,⟨Un b.b.1 d.size,Un b.b.2.1 d.size,Un b.b.2.2 d.size⟩,b.d⟩
def lm.i(d:lm wr w' a k c vs nb g q B F T S xg xl)(b):lm wr (w'.alloc b) a k c vs nb g q B F T S xg xl:=d.f ((ae.a _ w').b b) (d.e.c b)
def lm.drew(b:lm wr w' a k c vs nb g q B F T S xg xl):lm wr w'.drew a k c vs nb g q B F T S xg xl:=b.f ((ae.a _ w').drew) b.e.drew
def lm.ald{b:World}{d}(e:lm wr b.drew a k c vs nb g q B F T S xg xl):lm wr (b.alloc d).drew a k c vs nb g q B F T S xg xl:=lm.i e d
def lm.r{b d f h}(e:lm wr w' a k c vs nb g q B F T S xg xl)(i:RV w1 58 3 b (k+f) d (vs++h))(j:(b=a/\d=c)\/(b=some ⟨w'.heap.size,0,N⟩/\ae aa w' w1))(l:ae (ag a) w' w1):lm wr w1 a k c vs nb g q B F T S xg xl:=e.f l (pH e.e i j)
def lm.p(d:lm wr w' a k c vs nb g q B F T S xg xl)(e:ae aa w' w1):lm wr w1 a k c vs nb g q B F T S xg xl:=d.f (e.d λ_ _ b=>b.elim) (d.e.a e λ_ _ b=>b)
def r8(b:w'.cell? ⟨nb,2,N⟩=some B/\w'.cell? ⟨g,q,N⟩=some F/\w'.cell? ⟨g,q+1,N⟩=some T/\w'.cell? ⟨g,q+2,N⟩=some S/\lm wr w' a k c vs nb g q B F T S xg xl):lm wr w' a k c vs nb g q B F T S xg xl:=b.2.2.2.2
def vW(b:lm wr w' a k c vs nb g q B F T S xg xl):w'.cell? ⟨nb,2,N⟩=some B/\w'.cell? ⟨g,q,N⟩=some F/\w'.cell? ⟨g,q+1,N⟩=some T/\w'.cell? ⟨g,q+2,N⟩=some S/\lm wr w' a k c vs nb g q B F T S xg xl:=⟨b.l,b.m,b.n,b.o,b⟩
end
def oH.l{q wr h m r T a a' c c'}(e:oH q wr r T a c)(s d)(A:d.d=s.d)(j:ae (ag a) wr h)(t:jw h d.g d.l d.c)(C:wr.heap.size<=d.g)(D:RV m 58 3 a' (T.length+1) c' (kN T++oX d))(u:∀g,ag a' g->ag a g\/h.heap.size<=g)(n:ae (ag a) h m):
 oH q m (r++[s]) (T++[d]) a' c':=by
 have E:=t.b d.g (eN _ _);have v:¬ag a d.g:=λb=>by have:=e.f.b _ b;omega
 have w:∀g,g<h.heap.size->¬ag a g->¬ag a' g:=λg k G b=>by obtain b|b:=u g b;exact G b;omega
 refine⟨?_,?_,?_,?_,?_,?_⟩;exact e.d.g (j.c n) (λl f b=>by have:=e.e l b;omega);have H:kN (T++[d])=kN T++oX d:=by simp[kN]
 rw[H,Uu];exact D;intro l f;obtain f|f:=u l f;exact e.e l f;exact UM (UM e.d.size j.size) f;simp[e.h,A];intro o i;obtain i|i:=UP.1 i;obtain⟨x,K,y⟩:=e.b o i;have M:=Un (x.b o.g (eN _ _)) j.size;exact⟨x.a (j.c n) (λg k b=>by have p:=cM.1 k;rw[p]at b;exact y b),K,w o.g M y⟩;rw[UY.1 i];exact⟨t.a n (λg k b=>by have p:=cM.1 k;rw[p]at b;exact v b),UM e.d.size C,w d.g E v⟩;rw[Wg];refine⟨e.i,WW _ _,λz O R Q=>?_⟩;rw[UY.1 Q];have:=(e.b z O).1.b z.g (eN _ _);omega
def Mq(d f)(A:bP f d)(i:d.aV.length<=300)(Z:∀b∈d.aV,0<b.l.length/\(b.l.length:Int)<1000):
 Calls prog 139 #[P (some ⟨d.b,0,N⟩)] f λay w'=>∃T a c,ay= .returned (L a T.length c)/\oH f w' (d.aV.map Dk.d) T a c:=by
 have s:=@cf _ _ _ A i Z;have az(_:=()):oH f f [] [] N 0:=by
  have aA:∀t,¬ag N t:=λt e=>by obtain⟨_,e⟩:=e;cases e
  exact⟨ae.a _ _,⟨rfl,UF _,Ur ⟨rfl,rfl,rfl⟩⟩,λt e=>(aA t e).elim,rfl,(λb m=>by cases m),Xc⟩
 obtain⟨h,C⟩:=ah d.aV.length;obtain⟨nb,u⟩:=ah d.b;have v:=@aC _ _ C u;have aB(_:=()):∀w1,ae aa f w1->w1.cell? ⟨nb,2,N⟩=some (L d.ba h d.bc)/\nb<w1.heap.size:=λw1 aD=>by have ab:=A.a aD;rw[C,u];exact⟨ab.c,ab.dk.b⟩
 rw[<-u];clear A i Z C u;go_enter func139,ntmps139;go_wp2_with fail;go_loopw [3,4,5] (λw D _ wr=>∃(k:Nat)(T:List Pk)(a:Option Addr)(c:Nat),k<=h/\D= .int J k/\w=L a k c/\T.length=k/\oH f wr ((d.aV.map Dk.d).take k) T a c) λ_ D _ _=>h-(intOf D).toNat;case atStart=>exact⟨0,[],N,0,by omega,rfl,rfl,rfl,az⟩
 case round=>
  obtain⟨k,T,a,c,E,rfl,rfl,ac,G⟩:=hrel;have j:=@cf _ _ _ G E ac;obtain⟨n,ad⟩:=aB () wr G.d;have aE:(k:Int)<1000:=by have:=s;have:=v;omega
  clear G ac;by_cases H:k<h
  .have ai:=@af _ H;have aR:(k:Int)<h:=by omega
   obtain⟨b,m⟩:∃b,d.aV[k]?=some b:=⟨_,Um (by have:=v;omega)⟩
   have K:=s.1.a j.1.d;obtain⟨g,l,M,aj,aS,aF,x⟩:=K.i m;have O:=x 0 _ rfl;have ak:=x 1 _ rfl;have Q:=x 2 _ rfl;rw[Vn]at O;rw[M]at n;have y:=Uo m;have R:=(K.fD b y).1;have U:=@aC _ _ m (s.2.2 b y);obtain⟨xl,V⟩:=ah b.l.length;have o(_:=()):xl=b.l.length/\0<xl/\(xl:Int)<1000:=⟨V,by have:=U;omega,by have:=U;omega⟩
   rw[<-V]at Q;have al:=@af _ aE;have aG(_:=()):lm wr wr a k c (kN T) nb g (l+k*4) (L (some ⟨g,l,N⟩) h d.bc) (I J b.f) (I J b.t) (L (some ⟨b.g,0,N⟩) xl b.c) b.g b.l:=by
    have am:=j.1;have an:=am.f;rw[j.2.2]at an;have W:∀p,p<f.heap.size->¬ag a p:=λp i e=>by have:=am.e p e;omega
    have X:=s.1;refine⟨ae.a _ _,an,n,O,ak,Q,λaH w z=>?_,⟨ad,aj,R.b⟩,⟨W nb (by rw[v.2];exact X.dk.b),W g ?_,W b.g (X.fD b y).1.b⟩⟩;rw[Va,Ve];exact R.c aH w z;exact X.iG.b g (by rw[M];exact eN _ _)
   clear H E m K M aF x y R V O ak Q aj;go_wp2_with fail;clear n ad;go_region_held3 (λw'=>w'.cell? ⟨nb,2,N⟩=some (L (some ⟨g,l,N⟩) h d.bc)/\w'.cell? ⟨g,l+k*4,N⟩=some (I J b.f)/\w'.cell? ⟨g,l+k*4+1,N⟩=some (I J b.t)/\w'.cell? ⟨g,l+k*4+2,N⟩=some (L (some ⟨b.g,0,N⟩) xl b.c)/\lm wr w' a k c (kN T) nb g (l+k*4) (L (some ⟨g,l,N⟩) h d.bc) (I J b.f) (I J b.t) (L (some ⟨b.g,0,N⟩) xl b.c) b.g b.l) (first|exact vW (lm.ald (r8 (by assumption)))|exact vW (lm.i (r8 (by assumption)) _)|exact vW (lm.r (r8 (by assumption)) (by assumption) (by assumption) (by assumption))|exact vW (lm.p (r8 (by assumption)) (by assumption))|exact vW (aG.drew)) ((first|(refine S2 rfl (.tmp 32) (.tmp 40) 56 rfl 5 (I .u8 0) 1 1 underlying56 ng rfl (by simp[Act.eval,Act.put]) ⟨b.g,0,N⟩ xl b.c o.2.1 (by simp[Act.eval,Act.put]) (b.l.map bv) (by simp[o.1]) (r8 (by assumption)).j (by have:=o.2.2;omega) (by have:=o.2.2;omega) ?_;intro xg q w1 aI ao ap Y;have aJ:wr.heap.size<=xg:=UM (r8 (by assumption)).h.size aI;have aq:ae (ag a) wr w1:=(lm.p (r8 (by assumption)) Y).h)|(refine mj rfl (.tmp 15) (.tmp 43) 54 rfl 58 (.agg #[I J 0,I J 0,L N 0 0]) 3 40 underlying54 Er rfl a k c (by simp[Act.eval,Act.put]) (kN T) (r8 (by assumption)).e _ 1 1 (by omega) (by rfl) [(I J b.f),(I J b.t),L (some ⟨xg,0,N⟩) xl q] rfl (At.a (B:=0) (by repeat (first|exact At.b (by simp) (by omega)|exact At.e (by simp) (by omega)|refine At.ald ?_|refine At.al ?_))) (by intro w z;simp at z;obtain rfl|rfl|rfl:=z<;>rfl) (by have:=al;omega) (by have:=al;omega) ?_;intro ar n au av aw r)));all_goals
    have aK:=Y.size;have aL:=r.size;have ax:ae (ag a) w1 au:=by first|exact r|exact r.al|exact r.al.al
    have aM(_:=()):oH f au ((d.aV.map Dk.d).take (k+1)) (T++[⟨b.f,b.t,b.l,xg,q,b.sp⟩]) ar n:=by
     have aN:oX ⟨b.f,b.t,b.l,xg,q,b.sp⟩=[(I J b.f),(I J b.t),L (some ⟨xg,0,N⟩) xl q]:=by simp[oX,Pk.b,o.1]
     have aO:=j.1.l b.d ⟨b.f,b.t,b.l,xg,q,b.sp⟩ rfl aq (QZ ao (by rw[<-o.1];exact ap)) aJ (by rw[j.2.2,aN];exact av) (λp i=>by
      obtain⟨e,_⟩|⟨e,_⟩:=aw;rw[e]at i;exact Ur i
      .rw[e]at i;have:=cM.1 i;(try simp only[Uv,UR]at this);exact Up (by omega)) ax
     rw[su (d.aV.map Dk.d) k b.d (by rw[Uz,U.1];rfl)];exact aO
    clear ao ap Y av aw r ax aK aL aq;go_wp2;exact⟨⟨k+1,_,ar,n,by have:=ai;omega,by go_num,rfl,by simp[j.2.2],aM⟩,by have:=ai;simp[intOf];omega⟩
  .have aP:k=h:=by omega
   subst aP;have aQ(_:=()):oH f wr (d.aV.map Dk.d) T a c:=by have:=j.1;rw[US (by rw[UX];have:=v;omega)]at this;exact this
   clear H E;go_wp2;go_ret;exact⟨T,a,c,by rw[j.2.2];rfl,aQ⟩
def m7(z:Int)(a:Nat×Nat):Bool:=decide ((a.1:Int)=z)&&decide (a.2=1)
def uy(z:Int)(a:Ds):Bool:=a.n.ai.any (m7 z)
def MM(a:Dn)(b):a.a.E b=a.aE.any (uy b.c):=by unfold AN.E Dn.a;simp only[List.any_map];rfl
def Em{e:Type}(a){b:List e}{c d}(f:b[c]?=S d):(b.take (c+1)).any a=((b.take c).any a||a d):=by rw[Vz,f];simp[Option.toList]
def jU(a:Dn)(k:Nat):List Ed:=(a.d.take k).filter a.a.E
def Fa{a k b}(c:a.d[k]?=S b):jU a (k+1)=if a.a.E b=T then jU a k++[b]else jU a k:=by unfold jU;rw[Vz,c];simp only[Option.toList,U2,Vr,XN];split;rfl;rw[VJ]
def MH(a k):(jU a k).length<=a.d.length:=by unfold jU;have b:=VP a.a.E (a.d.take k);have c:=List.length_take_le k a.d;have d:=List.length_take_le' k a.d;omega
def MN(a o)(H:bP o a)(t:a.d.length<=100)(aP:a.aE.length<=100)(ac:∀b∈a.aE,b.ss.length<=100):
 Calls prog 146 #[P (S ⟨a.b,0,N⟩)] o λa2 a3=>∃l p,a2= .returned (L l a.a.H.length p)/\ly o a3 a.a.H l p:=by
 have bn:=@gA _ _ _ _ H t aP ac;have aQ(_:=()):ly o o (jU a 0) N 0:=⟨ae.a _ _,by simp[jU];exact RV.d _ _ _,λi a4=>(b8 i a4).elim,λi y m=>by cases m⟩
 obtain⟨u,Q⟩:=ah a.d.length;obtain⟨v,w⟩:=ah a.aE.length;obtain⟨ad,ai⟩:=ah a.b;obtain⟨aj,ak⟩:=ah a.c;have z(_:=()):u=a.d.length/\v=a.aE.length/\ad=a.b/\aj=a.c/\(u:Int)<=100/\(v:Int)<=100:=⟨Q,w,ai,ak,by omega,by omega⟩
 have aB(_:=()):∀f,ae aa o f->f.cell? ⟨ad,0,N⟩=S (L a.l u a.m)/\f.cell? ⟨ad,1,N⟩=S (L (S ⟨aj,0,N⟩) v a.i)/\ad<f.heap.size/\aj<f.heap.size:=λf A=>by have C:=H.a A;have q:=C.dk.a 0;simp[Dn.cells]at q;rw[Q,ai,w,ak];exact⟨q,C.e,C.dk.b,C.d⟩
 have aD(_:=()):∀f,ae aa o f->∀(e:Nat)(b:Ds),a.aE[e]?=S b->f.cell? ⟨aj,e*11+3,N⟩=S (L b.sa b.ss.length b.sc)/\b.n.ai.length=b.ss.length/\b.ss.length<=100:=λf A e b j=>by have R:=H.a A;rw[ak];exact⟨R.b j 3 _ rfl,R.gL e b j,ac b (Uo j)⟩
 have aR(_:=()):∀f,ae aa o f->∀(e:Nat)(b:Ds),a.aE[e]?=S b->∀(d:Nat)(k:Nat×Nat),b.n.ai[d]?=S k->∃i y,b.sa=S ⟨i,y,N⟩/\i<f.heap.size/\f.cell? ⟨i,y+d*4,N⟩=S (.int J k.1)/\f.cell? ⟨i,y+d*4+2,N⟩=S (.int J k.2):=λf A e b j d k K=>by
  have R:=H.a A;have ac:=R.gL e b j;have aE:=(Ul.1 K).1;obtain⟨aS,a5⟩:∃aS,b.ss[d]?=S aS:=⟨_,Um (by omega)⟩
  obtain⟨i,y,al,aT,bo,bp,aU⟩:=R.f j a5 K;have M:=aU 0 _ rfl;rw[Vn]at M;exact⟨i,y,al,aT,M,aU 2 _ rfl⟩
 have aF(_:=()):∀f,ae aa o f->∀(c:Nat)(m:Ed),a.d[c]?=S m->∃i k,a.l=S ⟨i,k,N⟩/\i<f.heap.size/\f.cell? ⟨i,k+c*3,N⟩=S (I J m.a)/\f.cell? ⟨i,k+c*3+1,N⟩=S (I J m.b)/\f.cell? ⟨i,k+c*3+2,N⟩=S (I J m.c):=λf A c m t=>uA (H.a A).jq t (Ul.1 t).1;rw[<-ai];clear H t aP ac Q w ai ak;go_enter func146,ntmps146;go_wp2_with fail;go_loopw [3,4,5,6,7] (λaV n _ _ _ wr=>∃(c:Nat)(l:Option Addr)(p:Nat),c<=u/\n= .int J c/\aV=L l (jU a c).length p/\ly o wr (jU a c) l p) λ_ n _ _ _ _=>u-(intOf n).toNat;case atStart=>exact⟨0,N,0,Vl _,rfl,by simp[jU],aQ⟩
 case round=>
  clear aQ;obtain⟨c,l,p,aG,rfl,rfl,j⟩:=hrel;rename World=>W1;have am:=@aC _ _ j aG;obtain⟨an,ao⟩:=ah ((jU a c).length);have D(_:=()):an=(jU a c).length/\an<=100:=⟨ao,by have:=MH a c;have:=z;omega⟩
  obtain⟨q,ap,w,aq⟩:=aB () W1 j.a;rw[<-ao];by_cases aH:c<u
  .obtain⟨m,t⟩:∃m,a.d[c]?=S m:=⟨_,Um (by have:=z;omega)⟩
   have x:=@aC _ _ t aH;have bq:(c:Int)<u:=by omega
   have br:(c:Int)<100:=by have:=z;omega
   obtain⟨U,V,g⟩:=m;clear j aG aH t ao;go_wp2_with fail;go_loopw [5,6,7] (λaI n _ aJ=>ae aa W1 aJ/\∃e:Nat,e<=v/\n= .int J e/\aI=B ((a.aE.take e).any (uy g))) λ_ n _ _=>v-(intOf n).toNat;case atStart=>exact⟨ae.a _ _,0,Vl _,rfl,by simp⟩
   case round=>
    clear q ap w aq;obtain⟨ar,e,aW,rfl,rfl⟩:=hrel;rename World=>W2;have O:=@aC _ _ ar (am.1.a.c ar);obtain⟨E,au⟩:=ah ((a.aE.take e).any (uy g));have aX:=@af _ au;rw[<-au];obtain⟨q,ap,w,aq⟩:=aB () W2 O.2;by_cases aK:e<v
    .obtain⟨b,j⟩:∃b,a.aE[e]?=S b:=⟨_,Um (by have:=z;omega)⟩
     have W:=@aC _ _ j aK;obtain⟨av,Q,a6⟩:=aD () W2 O.2 e b j;obtain⟨r,aY⟩:=ah b.ss.length;have aw(_:=()):r=b.n.ai.length/\(r:Int)<=100/\r=b.ss.length:=⟨by omega,by omega,aY⟩
     have bs:(e:Int)<v:=by omega
     have bt:(e:Int)<100:=by have:=z;omega
     clear aW aK j Q aY a6 au ar av;go_wp2_with fail;go_loopw [5,7] (λaI n aJ=>ae aa W1 aJ/\∃d:Nat,d<=r/\n= .int J d/\aI=B (E||(b.n.ai.take d).any (m7 g))) λ_ n _=>r-(intOf n).toNat;case atStart=>exact⟨O.1,0,Vl _,rfl,by simp⟩
     case round=>
      clear q ap w aq O;obtain⟨ax,d,aE,rfl,rfl⟩:=hrel;rename World=>W3;have s:=@aC _ _ ax (am.1.a.c ax);obtain⟨q,ap,w,aq⟩:=aB () W3 s.2;obtain⟨av,_,_⟩:=aD () W3 s.2 e b W.1;rw[<-aw.2.2]at av;by_cases aL:d<r
      .obtain⟨k,K⟩:∃k,b.n.ai[d]?=S k:=⟨_,Um (by have:=aw;omega)⟩
       obtain⟨i,y,al,aT,M,a7⟩:=aR () W3 s.2 e b W.1 d k K;obtain⟨a8,a9,ay,ba,az,aA,aM⟩:=aF () W3 s.2 c _ x.1;simp only at az aA aM;rw[ay]at q;have h(_:=()):(E||(b.n.ai.take (d+1)).any (m7 g))=((E||(b.n.ai.take d).any (m7 g))||m7 g k)/\d<r:=⟨by rw[Em (m7 g) K,Bool.or_assoc],aL⟩
       obtain⟨bb,aZ⟩:=ah (E||(b.n.ai.take d).any (m7 g));rw[<-aZ]at h|-;rw[al]at av;have bu:(d:Int)<r:=by omega
       have bv:(d:Int)<100:=by have:=aw;omega
       obtain⟨X,Y⟩:=k;simp only at M a7;clear aE aL K aZ al ax az aA ay;cases bb with
       |true=>
        go_wp2_with fail;go_quiet (fail);go_wp2;exact⟨⟨s.1.c ((ae.a aa W3).drewN nq),d+1,by have:=h;omega,by go_num,by rw[h.1];simp⟩,by have:=h;simp[intOf];omega⟩
       |false=>
        by_cases G:(X:Int)=g
        .by_cases aN:Y=1
         .subst aN;rw[G]at M;have Z(_:=()):m7 g (X,1)=T:=by simp[m7,G]
          clear G;go_wp2_with fail;go_quiet (fail);go_wp2;exact⟨⟨s.1.c ((ae.a aa W3).drewN nq),d+1,by have:=h;omega,by go_num,by rw[h.1,Z];simp⟩,by have:=h;simp[intOf];omega⟩
         .rw[G]at M;have bw:((Y:Int)==1)=F:=by simp;omega
          have bx:¬((Y:Int)=1):=by omega
          have Z(_:=()):m7 g (X,Y)=F:=by simp[m7,aN]
          clear G aN;go_wp2_with fail;go_quiet (fail);go_wp2;exact⟨⟨s.1.c ((ae.a aa W3).drewN nq),d+1,by have:=h;omega,by go_num,by rw[h.1,Z];simp⟩,by have:=h;simp[intOf];omega⟩
        .have bz:((X:Int)==g)=F:=by simpa using G
         have Z(_:=()):m7 g (X,Y)=F:=by simp[m7,G]
         go_wp2_with fail;go_quiet (fail);go_wp2;exact⟨⟨s.1.c ((ae.a aa W3).drewN nq),d+1,by have:=h;omega,by go_num,by rw[h.1,Z];simp⟩,by have:=h;simp[intOf];omega⟩
      .have bc:d=r:=by omega
       subst bc;have h(_:=()):(E||(b.n.ai.take d).any (m7 g))=(a.aE.take (e+1)).any (uy g):=by rw[Em (uy g) W.1,<-aX];unfold uy;rw[US (by have:=aw;omega)]
       clear aE aL ax;go_wp2;exact⟨⟨s.1,e+1,by have:=W;omega,by go_num,by rw[h]⟩,by have:=W;simp[intOf];omega⟩
    .have bd:e=v:=by omega
     subst bd;have h(_:=()):E=a.a.E ⟨U,V,g⟩:=by rw[aX,MM,US (by have:=z;omega)]
     obtain⟨a8,a9,ay,ba,az,aA,aM⟩:=aF () W2 O.2 c _ x.1;simp only at az aA aM;rw[ay]at q;have aO:=@af _ (am.1.e O.1);clear aW aK au aD aR ar aF;cases E with
     |true=>
      have be(_:=()):RV W2 30 3 l an p (cA (jU a c)):=by have C:=aO.b;rw[<-D.1]at C;exact C
      go_wp2_with (at_builtin;refine jX _ rfl (.tmp 79) (.tmp 87) 26 rfl 30 (.agg #[I J 0,I J 0,I J 0]) 3 24 underlying26 qn rfl l an p rfl (cA (jU a c)) (be.c _) ⟨W2.heap.size,0,N⟩ 1 1 (by omega) rfl [I J U,I J V,I J g] rfl (gJ W2 [I J U,I J V,I J g] 30 _ rfl) (by intro aV a0;simp at a0;obtain rfl|rfl|rfl:=a0<;>rfl) (by have:=D;omega) (by have:=D;omega) ?_;intro bf bg bA bh bi bj);have bk:=((ae.a (ag l) W2).b _).c bj;have bl:=aO.d ⟨U,V,g⟩ (ae.a aa W2) (by rw[<-D.1];exact bh) bi bk;have ab:jU a (c+1)=jU a c++[⟨U,V,g⟩]:=by rw[Fa x.1,UG h.symm]
      exact⟨⟨c+1,bf,bg,by have:=x;omega,by go_num,by rw[ab,Uu,D.1];rfl,by rw[ab];exact bl⟩,by have:=x;simp[intOf];omega⟩
     |false=>
      go_wp2;have ab:jU a (c+1)=jU a c:=by rw[Fa x.1,Us (by rw[<-h];simp)]
      exact⟨⟨c+1,l,p,by have:=x;omega,by go_num,by rw[ab,D.1],by rw[ab];exact aO⟩,by have:=x;simp[intOf];omega⟩
  .have bm:c=u:=by omega
   subst bm;have a1(_:=()):jU a c=a.a.H:=by unfold jU AN.H;rw[US (by have:=z;omega)];rfl
   clear j aG aH ao;go_wp2;go_ret;exact⟨l,p,by rw[<-a1,D.1];rfl,by rw[<-a1];exact am.1⟩
structure nW(w wr:World)(nb:Nat)(es:List Ed)(ea:Option Addr)(ec:Nat)(sps:List Ds)(la:Option Addr)(lc:Nat)(own:Nat->Nat×Nat×Nat):Prop where
 pg:ae aa w wr
 nx:aq wr nb #[L ea es.length ec,L la sps.length lc,L N 0 0] 216
 qD:RV wr 30 3 ea es.length ec (cA es)
 qE:RV wr 220 11 la sps.length lc (jS sps)
 sC:∀f e,la=S ⟨f,e,N⟩->e=0
 rD:∀(b:Nat)(s:Ds),sps[b]?=S s->RV wr 222 4 s.sa s.ss.length s.sc (lJ s.n.ai s.ss)
 sD:∀(b:Nat)(s:Ds),sps[b]?=S s->s.n.ai.length=s.ss.length
 rC:∀(b:Nat)(s:Ds),sps[b]?=S s->s.oa=N/\s.oc=0/\s.n.an=[]
 oZ:∀(b:Nat)(s:Ds),sps[b]?=S s->∀(d:Nat)(c:Dd),s.ss[d]?=S c->cV wr c.b c.r c.p/\Lk c.e c.r
 t1:own nb=(1,0,0)
 t2:∀a,ag la a->own a=(2,0,0)
 t5:∀a,ag ea a->own a=(5,0,0)
 t6:∀(b:Nat)(s:Ds),sps[b]?=S s->∀a,ag s.sa a->own a=(6,b,0)
 t8:∀(b:Nat)(s:Ds),sps[b]?=S s->∀(d:Nat)(c:Dd),s.ss[d]?=S c->∀a,hJ c.b c.p a->own a=(8,b,d)
 pd:∀a,wr.heap.size<=a->own a=(0,0,0)
 pi:∀a,own a≠(0,0,0)->w.heap.size<=a
section
variable {w wr w1 : World} {nb : Nat} {es : List Ed} {ea : Option Addr} {ec : Nat} {sps : List Ds} {la : Option Addr} {lc : Nat} {own : Nat → Nat × Nat × Nat}
def nW.b{l}(a:nW w wr nb es ea ec sps la lc own)(k:ae l wr w1)(n:∀b,b<wr.heap.size->l b->own b=(0,0,0)/\w.heap.size<=b):nW w w1 nb es ea ec sps la lc own:=by have no:∀ {b:Nat} {o p g:Nat},own b=(o,p,g)->o≠0->b<wr.heap.size->¬l b:=λm q h r=>gz m q (n _ h r).1;exact {pg:=a.pg.g k (λb h m=>by have t:=a.pg.size;have:=(n b (by omega) m).2;omega),nx:=a.nx.c k (no a.t1 (by omega) a.nx.b),qD:=a.qD.a k (λc d=>no (a.t5 c d) (by omega) (a.qD.b c d)),qE:=a.qE.a k (λc d=>no (a.t2 c d) (by omega) (a.qE.b c d)),sC:=a.sC,rD:=λe s f=>(a.rD e s f).a k (λc d=>no (a.t6 e s f c d) (by omega) ((a.rD e s f).b c d)),sD:=a.sD,rC:=a.rC,oZ:=λe s f i g j=>⟨(a.oZ e s f i g j).1.a k (λc d=>no (a.t8 e s f i g j c d) (by omega) ((a.oZ e s f i g j).1.b c d)),(a.oZ e s f i g j).2⟩,t1:=a.t1,t2:=a.t2,t5:=a.t5,t6:=a.t6,t8:=a.t8,pd:=λb h=>a.pd b (UM k.size h),pi:=a.pi}
def nW.a(a:nW w wr nb es ea ec sps la lc own)(k:ae aa wr w1):nW w w1 nb es ea ec sps la lc own:=a.b k λ_ _ b=>b.elim
end
structure pQ(w wr:World)(nb:Nat)(es:List Ed)(ea:Option Addr)(ec:Nat)(sps:List Ds)(la:Option Addr)(lc:Nat)(own:Nat->Nat×Nat×Nat)(xb:Nat)(s:Ds):Prop where
 d:nW w wr nb es ea ec sps la lc own
 ku:aq wr xb (eJ s).toArray 220
 xo:own xb=(0,0,0)
 xn:w.heap.size<=xb
 sB:RV wr 222 4 s.sa s.ss.length s.sc (lJ s.n.ai s.ss)
 tL:s.n.ai.length=s.ss.length
 wT:s.oa=N/\s.oc=0/\s.n.an=[]
 sA:∀(b:Nat)(d:Dd),s.ss[b]?=S d->cV wr d.b d.r d.p/\Lk d.e d.r
 t6:∀a,ag s.sa a->own a=(6,sps.length,0)
 t8:∀(b:Nat)(d:Dd),s.ss[b]?=S d->∀a,hJ d.b d.p a->own a=(8,sps.length,b)
section
variable {w wr w1 : World} {nb : Nat} {es : List Ed} {ea : Option Addr} {ec : Nat} {sps : List Ds} {la : Option Addr} {lc : Nat} {own : Nat → Nat × Nat × Nat} {xb : Nat} {s : Ds}
def pQ.c(a:pQ w wr nb es ea ec sps la lc own xb s)(k:ae aa wr w1):pQ w w1 nb es ea ec sps la lc own xb s:=
 ⟨a.d.a k,a.ku.c k λb=>b,a.xo,a.xn,a.sB.a k λ_ _ b=>b,a.tL,a.wT,λc d e=>⟨(a.sA c d e).1.a k λ_ _ b=>b,(a.sA c d e).2⟩,a.t6,a.t8⟩
def nW.c(c:nW w wr nb es ea ec sps la lc own){xb}(s)(k:ae aa wr w1)(d:wr.heap.size<=xb)(h:aq w1 xb (eJ s).toArray 220)(e:s.n.ai=[])(b:s.ss=[])(f:s.sa=N)(i:s.sc=0)(j:s.oa=N/\s.oc=0/\s.n.an=[]):pQ w w1 nb es ea ec sps la lc own xb s:=
 ⟨c.a k,h,c.pd xb d,UM c.pg.size d,by rw[e,b,f,i];exact RV.d _ _ _,by rw[e,b];rfl,j,(λl m a=>by rw[b]at a;simp at a),(λk g=>by rw[f]at g;exact(b8 k g).elim),(λl m a=>by rw[b]at a;simp at a)⟩
def L8(a b c d)(e:a.length=b.length):lJ (a++[c]) (b++[d])=lJ a b++vP (c,d.a):=by unfold lJ;rw[Vm,List.zip_append (by simpa using e),Wy];simp
def pQ.a(i:pQ w wr nb es ea ec sps la lc own xb s){E w5}(U:ae aa wr E){o}(ac:wr.heap.size<=o)(V:cV E o Rf.b Rp.a){a' c' z t}(W:RV w5 222 4 a' (s.ss.length+1) c' (lJ s.n.ai s.ss++vP ((z,0),(t,o))))(G:∀a,ag a' a->ag s.sa a\/E.heap.size<=a)(e:ae (ag s.sa) E w5):
 ∃v,pQ w (w5.setCell ⟨xb,3,N⟩ (L a' (s.ss.length+1) c')) nb es ea ec sps la lc v xb {s with n:= {s.n with ai:=s.n.ai++[(z,0)]},sa:=a',sc:=c',ss:=s.ss++[⟨t,o,En.e,Rf.b,Rp.a⟩]}:=by
 classical
 have ao:=V.b o (Ur (Ur rfl));have aq:=e.size;obtain⟨v,O⟩:∃v:Nat->Nat×Nat×Nat,v=λg=>if own g≠(0,0,0)then own g else if g=o then (8,sps.length,s.ss.length)else if ag a' g then (6,sps.length,0)else (0,0,0):=⟨_,rfl⟩
 have ar:=i.d.pd o ac;have x:∀g,own g≠(0,0,0)->v g=own g:=λg H=>by rw[O];simp only;rw[UG H]
 have au:=i.ku.b;have ad:xb≠o:=by omega
 have X:¬ag s.sa xb:=λc=>gz (i.t6 xb c) (by omega) i.xo;have Y:¬ag a' xb:=λc=>by obtain c|c:=G xb c;exact X c;omega
 have af:v xb=(0,0,0):=by rw[O];simp only;rw[Us (by rw[i.xo];simp),Us ad,Us Y]
 have ah:¬ag a' o:=λc=>by obtain c|c:=G o c;have:=i.sB.b o c;omega;omega
 have aj:∀a,ag a' a->v a=(6,sps.length,0):=λa b=>by obtain c|c:=G a b;rw[x a (gz (i.t6 a c) (by omega))];exact i.t6 a c;rw[O];simp only;rw[Us (by rw[(i.d.pd a (by omega))];simp),Us (λK:a=o=>ah (K▸b)),UG b]
 have Z:∀g,v g≠(0,0,0)->own g≠(0,0,0)\/g=o\/ag a' g:=λg H=>by apply UC;intro ab;grind
 have Q:ae (ap xb) w5 (w5.setCell ⟨xb,3,N⟩ (L a' (s.ss.length+1) c')):=(ae.a (ap xb) w5).e (p:=⟨xb,3,N⟩) (λ_=>rfl) _;have y:=((U.d λ_ _ c=>c.elim).c (e.d λ_ _ c=>Ur c)).c (Q.d λ_ _ c=>Up c);have av:=i.d.pg.size;have ak:∀a,ag s.sa a->w.heap.size<=a:=λa b=>i.d.pi a (gz (i.t6 a b) (by omega));have al:∀g,g<wr.heap.size->(ag s.sa g\/g=xb)->w.heap.size<=g:=λg H c=>by obtain c|c:=c;grind;rw[c];exact i.xn
 have A:∀ {g:Nat} {M:Nat×Nat×Nat},own g=M->M≠(0,0,0)->M≠(6,sps.length,0)->¬(ag s.sa g\/g=xb):=λ{g M} c aw am j=>by obtain j|j:=j;exact am (c▸i.t6 g j);grind
 have h:=i.d;have an:∀ {k:Nat} {q:Ds},sps[k]?=S q->k≠sps.length:=λl c=>by have:=(Ul.1 l).1;omega
 refine⟨v,?_⟩;refine {
  d:= {
   pg:=h.pg.g y λg H c=>by have:=al g (by omega) c;omega
   nx:=h.nx.c y (A h.t1 (by simp) (by simp))
   qD:=h.qD.a y λa b=>A (h.t5 a b) (by simp) (by simp)
   qE:=h.qE.a y λa b=>A (h.t2 a b) (by simp) (by simp)
   sC:=h.sC
   rD:=λk q l=>(h.rD k q l).a y λa b=>A (h.t6 k q l a b) (by simp) (by have:=an l;simp[this])
   sD:=h.sD
   rC:=h.rC
   oZ:=λk q l m r C=>⟨(h.oZ k q l m r C).1.a y (λa b=>A (h.t8 k q l m r C a b) (by simp) (by simp)),(h.oZ k q l m r C).2⟩
   t1:=by rw[x nb (gz h.t1 (by omega))];exact h.t1
   t2:=λf e=>by rw[x f (gz (h.t2 f e) (by omega))];exact h.t2 f e
   t5:=λf e=>by rw[x f (gz (h.t5 f e) (by omega))];exact h.t5 f e
   t6:=λk q l f e=>by rw[x f (gz (h.t6 k q l f e) (by omega))];exact h.t6 k q l f e
   t8:=λk q l m r C f e=>by rw[x f (gz (h.t8 k q l m r C f e) (by omega))];exact h.t8 k q l m r C f e
   pd:=λf e=>by
    have ax:w5.heap.size<=f:=by simpa using e
    apply UC;intro ab;obtain j|j|j:=Z f ab;exact j (h.pd f (by omega));omega;have:=W.b f j;omega
   pi:=λf e=>by obtain j|j|j:=Z f e;exact h.pi f j;omega;obtain j|j:=G f j;exact ak f j;omega}
  ku:=?_
  xo:=af
  xn:=i.xn
  sB:=?_
  tL:=by simp[i.tL]
  wT:=i.wT
  sA:=λm r u=>?_
  t6:=aj
  t8:=λm r u f e=>?_}
 simpa [eJ]using (((i.ku.c U λc=>c).c e X).f 3 (L a' (s.ss.length+1) c'));rw[L8 _ _ _ _ i.tL,Uu];exact W.a Q (λa b c=>Y (by have K:a=xb:=c;rw[<-K];exact b));by_cases R:m<s.ss.length;rw[Ux R]at u;exact⟨(i.sA m r u).1.a y (λa b=>A (i.t8 m r u a b) (by simp) (by simp)),(i.sA m r u).2⟩;rw[Ut (by omega)]at u;have D:=Uo u;rw[UY]at D;subst D;refine⟨(V.a e λa b c=>?_).a Q λa b c=>?_,Lk.o⟩;obtain(b|b|b|b)|⟨j,b⟩:=b;have:=i.sB.b a c;rw[show a=o from b]at this;omega;exact b8 a b;exact b8 a b;exact b8 a b;simp[Rp.a]at b;obtain(b|b|b|b)|⟨j,b⟩:=b;have K:a=xb:=c;omega;exact b8 a b;exact b8 a b;exact b8 a b;simp[Rp.a]at b;by_cases R:m<s.ss.length;rw[Ux R]at u;rw[x f (gz (i.t8 m r u f e) (by omega))];exact i.t8 m r u f e;have ay:=(Ul.1 u).1;rw[Ut (by omega)]at u;have D:=Uo u;rw[UY]at D;subst D;obtain(e|e|e|e)|⟨j,e⟩:=e;grind;exact(b8 f e).elim;exact(b8 f e).elim;exact(b8 f e).elim;simp[Rp.a]at e
def Mw(a s):jS (a++[s])=jS a++eJ s:=by simp[jS]
def pQ.b(l:pQ w wr nb es ea ec sps la lc own xb s){w5 a' c'}(G:RV w5 220 11 a' (sps.length+1) c' (jS sps++eJ s))(V:∀e H,a'=S ⟨e,H,N⟩->H=0)(A:∀e,ag a' e->ag la e\/wr.heap.size<=e)(g:ae (ag la) wr w5):
 ∃q,nW w (w5.setCell ⟨nb,1,N⟩ (L a' (sps.length+1) c')) nb es ea ec (sps++[s]) a' c' q:=by
 classical
 obtain⟨q,W⟩:∃q:Nat->Nat×Nat×Nat,q=λf=>if own f≠(0,0,0)then own f else if ag a' f then (2,0,0)else (0,0,0):=⟨_,rfl⟩
 have r:∀f,own f≠(0,0,0)->q f=own f:=λf C=>by rw[W];simp only;rw[UG C]
 have a:=l.d;have X:∀e,ag a' e->q e=(2,0,0):=λe k=>by obtain c|c:=A e k;rw[r e (gz (a.t2 e c) (by omega))];exact a.t2 e c;have u:=a.pd e c;grind
 have K:∀f,q f≠(0,0,0)->own f≠(0,0,0)\/ag a' f:=λf C=>by apply UC;intro M;grind
 have ab:=a.nx.b;have O:¬ag la nb:=λc=>by have D:=a.t2 nb c;rw[a.t1]at D;cases D
 have Y:¬ag a' nb:=λc=>by obtain c|c:=A nb c;exact O c;omega
 have Q:ae (ap nb) w5 (w5.setCell ⟨nb,1,N⟩ (L a' (sps.length+1) c')):=(ae.a (ap nb) w5).e (p:=⟨nb,1,N⟩) (λ_=>rfl) _;have t:ae (λf=>ag la f\/f=nb) wr (w5.setCell ⟨nb,1,N⟩ (L a' (sps.length+1) c')):=(g.d λ_ _ c=>Ur c).c (Q.d λ_ _ c=>Up c);have ac:=t.size;have ad:=a.pg.size;have x:∀ {f:Nat} {y:Nat×Nat×Nat},own f=y->y≠(2,0,0)->y≠(1,0,0)->¬(ag la f\/f=nb):=λ{f y} c E R b=>by obtain b|b:=b;exact E (c▸a.t2 f b);rw[b,a.t1]at c;exact R c.symm
 have v:∀ {h:Nat} {z:Ds},(sps++[s])[h]?=S z->(sps[h]?=S z)\/(h=sps.length/\z=s):=λ{h z} u=>by by_cases Z:h<sps.length;rw[Ux Z]at u;exact Ur u;rw[Ut (by omega)]at u;have aa:=(Ul.1 u).1;have U:=Uo u;rw[UY]at U;simp only[VH]at aa;exact Up ⟨by omega,U⟩
 refine⟨q, {
  pg:=a.pg.g t λf C c=>by obtain c|c:=c;have:=a.pi f (gz (a.t2 f c) (by omega));omega;have:=a.pi nb (gz a.t1 (by omega));omega
  nx:=?_
  qD:=a.qD.a t λe k=>x (a.t5 e k) (by simp) (by simp)
  qE:=?_
  sC:=V
  rD:=λi j m=>?_
  sD:=λi j m=>?_
  rC:=λi j m=>?_
  oZ:=λi j m h n o=>?_
  t1:=by rw[r nb (gz a.t1 (by omega))];exact a.t1
  t2:=X
  t5:=λd g=>by rw[r d (gz (a.t5 d g) (by omega))];exact a.t5 d g
  t6:=λi j m d g=>?_
  t8:=λi j m h n o d g=>?_
  pd:=λd g=>by
   have R:w5.heap.size<=d:=by simpa using g
   apply UC;intro M;obtain b|b:=K d M;exact b (a.pd d (by omega));have:=G.b d b;omega
  pi:=λd g=>by obtain b|b:=K d g;exact a.pi d b;obtain b|b:=A d b;exact a.pi d (gz (a.t2 d b) (by omega));omega}⟩
 have D:=(a.nx.c g O).f 1 (L a' (sps.length+1) c');grind;rw[Uu,Mw];exact G.a Q (λe k c=>Y (by have E:e=nb:=c;rw[<-E];exact k));obtain b|⟨_,rfl⟩:=v m;exact(a.rD i j b).a t (λe k=>x (a.t6 i j b e k) (by simp) (by simp));exact l.sB.a t (λe k=>x (l.t6 e k) (by simp) (by simp));obtain b|⟨_,rfl⟩:=v m;exact a.sD i j b;exact l.tL;obtain b|⟨_,rfl⟩:=v m;exact a.rC i j b;exact l.wT;obtain b|⟨_,rfl⟩:=v m;exact⟨(a.oZ i j b h n o).1.a t (λe k=>x (a.t8 i j b h n o e k) (by simp) (by simp)),(a.oZ i j b h n o).2⟩;exact⟨(l.sA h n o).1.a t (λe k=>x (l.t8 h n o e k) (by simp) (by simp)),(l.sA h n o).2⟩;obtain b|⟨c,rfl⟩:=v m;rw[r d (gz (a.t6 i j b d g) (by omega))];exact a.t6 i j b d g;rw[r d (gz (l.t6 d g) (by omega)),c];exact l.t6 d g;obtain b|⟨c,rfl⟩:=v m;rw[r d (gz (a.t8 i j b h n o d g) (by omega))];exact a.t8 i j b h n o d g;rw[r d (gz (l.t8 h n o d g) (by omega)),c];exact l.t8 h n o d g
def nW.d(a:nW w wr nb es ea ec sps la lc own){c}(d:la=S ⟨c,0,N⟩):bP wr ⟨nb,es,ea,ec,c,lc,sps,[],N,0,own⟩ where
 dk:=by have:=a.nx;rw[d]at this;exact this
 jq:=a.qD
 jL:=by have:=a.qE;rw[d]at this;exact this
 iG:=RV.d _ _ _
 iH:=a.rD
 gL:=a.sD
 jd:=λe s f=>by obtain⟨g,j,k⟩:=a.rC e s f;rw[g,j,k];exact RV.d _ _ _
 eC:=a.oZ
 fD:=λl h=>by cases h
 kP:=Wz
 t1:=a.t1
 t2:=a.t2 c (by rw[d];exact eN _ _)
 t3:=λi b=>(b8 i b).elim
 t4:=λl h=>by cases h
 t5:=a.t5
 t6:=a.t6
 t7:=λe s f i b=>by obtain⟨g,j,k⟩:=a.rC e s f;rw[g]at b;exact(b8 i b).elim
 t8:=a.t8
 jc:=a.pd
end
def nW.e{w wr w1 nb es ea ec}(k:ae aa w wr)(g:RV wr 30 3 ea es.length ec (cA es))(r:∀c,ag ea c->w.heap.size<=c)(j:ae aa wr w1)(t:wr.heap.size<=nb)(h:aq w1 nb #[L ea es.length ec,L N 0 0,L N 0 0] 216):
 ∃own,nW w w1 nb es ea ec [] N 0 own:=by
 classical
 obtain⟨own,l⟩:∃own:Nat->Nat×Nat×Nat,own=λa=>if a=nb then (1,0,0)else if ag ea a then (5,0,0)else (0,0,0):=⟨_,rfl⟩
 have p:own nb=(1,0,0):=by rw[l];simp
 have u:=h.b;have v:=k.size;have q:∀c,ag ea c->own c=(5,0,0):=λc e=>by have:=g.b c e;rw[l];simp only;rw[Us (by omega),UG e]
 have m:∀a,own a≠(0,0,0)->a=nb\/ag ea a:=λa h=>by apply UC;intro n;grind
 refine⟨own,k.c j,h,g.a j λ_ _ i=>i,RV.d _ _ _,(λc x i=>by cases i),(λd s b=>by simp at b),(λd s b=>by simp at b),(λd s b=>by simp at b),(λd s b=>by simp at b),p,(λc e=>(b8 c e).elim),q,(λd s b=>by simp at b),(λd s b=>by simp at b),λa o=>?_,λa o=>?_⟩;apply UC;intro n;obtain f|f:=m a n;omega;have:=g.b a f;omega;obtain f|f:=m a o;omega;grind
end Go.Proofs.YtlfijfodklhplaaGreat
namespace Go.Proofs.YtlfijfodklhplaaGreat.Sm
def AM{b:Nat}{a}(c:gq (b:Int) a 0):¬ia b a/\¬kO b a/\¬mr a/\¬l9 mL a/\mW b a:=by
 obtain⟨d,e,f⟩:=ym c;have h:¬l9 mL a:=λg=>by have:=(((c.2 d).2 e).2 f).1 g;omega
 refine⟨d,e,f,h,?_⟩;apply UC;intro g;have:=((((c.2 d).2 e).2 f).2 h).1 (by rw[Int.toNat_natCast];exact g);omega
def eL(a:List Ed):List Ghs.E3:=(gK a).map Ghs.e3
def rX{b:Nat}{d}(h:gq (b:Int) d 0){a}(e:a∈d):(Ghs.e3 a).a<b/\(Ghs.e3 a).b<b/\(Ghs.e3 a).a≠(Ghs.e3 a).b/\1<=(Ghs.e3 a).w/\(Ghs.e3 a).w<=1000/\Ghs.iq (Ghs.e3 a)=a:=by obtain⟨k,i,j,l,m⟩:=AM h;have f:¬kK b a:=λc=>i ⟨a,e,c⟩;have g:¬qR a:=λc=>j (Ur ⟨a,e,c⟩);obtain⟨n,o,p⟩:=a;unfold kK at f;unfold qR at g;dsimp only at f g;unfold Ghs.iq Ghs.e3;dsimp only;refine⟨by omega,by omega,by omega,by omega,by omega,?_⟩;rw[VV (by omega),VV (by omega),VV (by omega)]
def J7{b:Nat}{a}(c:gq (b:Int) a 0):(eL a).map Ghs.iq=gK a:=by
 unfold eL;rw[Wj];conv=>rhs;rw[<-List.map_id (gK a)]
 exact Xk λe d=>(rX c ((XW a).mem_iff.1 d)).2.2.2.2.2
def J8(a):(eL a).Perm (a.map Ghs.e3):=(XW a).map Ghs.e3
def D8{g:Nat}{a}(b:gq (g:Int) a 0):(a.map Ghs.e3).Pairwise (λh i=>h.w≠i.w):=by
 obtain⟨m,n,j,o,p⟩:=AM b;rw[Wm,Vv];intro c d e f k l;refine j (Up ⟨d,c,a[d],a[c],k,Um f,Um e,?_⟩);rw[<-((rX b (Vk e)).2.2.2.2.2),<-((rX b (Vk f)).2.2.2.2.2)];show ((Ghs.e3 a[d]).w:Int)=((Ghs.e3 a[c]).w:Int)
 rw[l]
def J9{g:Nat}{a}(b:gq (g:Int) a 0):Ghs.nB g (eL a):=by
 have f:=J8 a;refine⟨λc k=>?_,?_,?_⟩;obtain⟨s,l,rfl⟩:=Vb.1 (f.mem_iff.1 k);have:=rX b l;grind;have h:(eL a).Pairwise (λm n=>m.w<=n.w):=by unfold eL;rw[Wm];refine(Ck a).imp ?_;intro o p t;show o.c.toNat<=p.c.toNat;omega
 exact(List.Pairwise.and ((f.pairwise_iff λb c=>b c.symm).2 (D8 b)) h).imp (λb=>by omega);refine(f.pairwise_iff λb c=>b (Ghs.Ay _ _ c)).2 ?_;rw[Wm,Vv];intro d e i j q c;obtain⟨u,h,v,r,w⟩:=AM b;refine r ⟨e,d,a[e],a[d],q,Um j,Um i,?_⟩;rw[<-((rX b (Vk i)).2.2.2.2.2),<-((rX b (Vk j)).2.2.2.2.2)];unfold Ghs.qO at c;show (((Ghs.e3 a[e]).a:Int)=((Ghs.e3 a[d]).a:Int)/\((Ghs.e3 a[e]).b:Int)=((Ghs.e3 a[d]).b:Int))\/(((Ghs.e3 a[e]).a:Int)=((Ghs.e3 a[d]).b:Int)/\((Ghs.e3 a[e]).b:Int)=((Ghs.e3 a[d]).a:Int))
 omega
def Kb{a:Nat}{b}(c:gq (a:Int) b 0):Ghs.V.jv a (AN.i a (gK b)):=by
 have d:=wK c;have e:=d.1;have f:(eL b).length<=30:=by have:=e.a;unfold eL;grind
 rw[<-J7 c]at e|-;exact Ghs.V.jv.j (J9 c) d.2.2 d.2.1 f λg h i=>((Ep e (by omega)).a g h i).1
def jz(a:List Ed)(b:Nat):List Ed:=(List.range b).flatMap (λc:Nat=>a.filter λd=>decide (d.c=(c:Int)+1))
def AQ(a b):jz a (b+1)=jz a b++a.filter (λc=>decide (c.c=(b:Int)+1)):=by unfold jz;rw[Wt,Wy];simp
def J5{b c a}:a∈jz b c↔a∈b/\1<=a.c/\a.c<=(c:Int):=by unfold jz;rw[VW];constructor;rintro⟨g,e,d⟩;rw[Vw,UV]at d;have:=XQ.1 e;exact⟨d.1,by omega,by omega⟩;rintro⟨f,h,i⟩;refine⟨(a.c-1).toNat,XQ.2 (by omega),?_⟩;rw[Vw,UV];exact⟨f,by omega⟩
def D7(d):∀a,(jz d a).Pairwise (λe f=>e.c<=f.c)
 |0=>by simp[jz]
 |a+1=>by rw[AQ,Wg];refine⟨D7 d a,?_,λg b h c=>?_⟩;refine List.pairwise_of_forall_mem_list λg b h c=>?_;rw[Vw,UV]at b c;omega;have:=J5.1 b;rw[Vw,UV]at c;omega
def Ka(c:List Ed)(b:Nat):(c.filter λa=>decide (1<=a.c/\a.c<=(b:Int)+1)).Perm (c.filter (λa=>decide (1<=a.c/\a.c<=(b:Int)))++c.filter λa=>decide (a.c=(b:Int)+1)):=by
 induction c with
 |nil=>simp
 |cons a h f=>
  by_cases g:1<=a.c/\a.c<=(b:Int);have d:1<=a.c/\a.c<=(b:Int)+1:=by omega
  have e:¬a.c=(b:Int)+1:=by omega
  simp_all;by_cases e:a.c=(b:Int)+1;have d:1<=a.c/\a.c<=(b:Int)+1:=by omega
  simp only[Vr,UV,Us g,UG d,UG e];exact(f.cons a).trans List.perm_middle.symm;grind
def AO(c):∀a,(jz c a).Perm (c.filter λb=>decide (1<=b.c/\b.c<=(a:Int)))
 |0=>by
  have:c.filter (λb=>decide (1<=b.c/\b.c<=((0:Nat):Int)))=[]:=by rw[List.filter_eq_nil_iff];intro b f;simp only[UV];omega
  rw[this];simp[jz]
 |a+1=>by rw[AQ];have e:=(AO c a).append_right (c.filter λb=>decide (b.c=(a:Int)+1));refine e.trans ?_;have d:=(Ka c a).symm;rw[show ((a:Int)+1)=((a+1:Nat):Int)by omega]at d|-;exact d
def D9:∀ {b f:List Ed},b.Perm f->b.Pairwise (λa c=>a.c<=c.c)->f.Pairwise (λa c=>a.c<=c.c)->(∀a∈b,∀c∈b,a.c=c.c->a=c)->b=f
 |[],f,d,_,_,_=>by rw[List.nil_perm.1 d]
 |e::b,[],d,_,_,_=>by have:=d.length_eq;simp at this
 |e::b,g::f,d,h,i,j=>by
  have l:e∈g::f:=d.mem_iff.1 (by simp);have k:g∈e::b:=d.mem_iff.2 (by simp);have o:g.c<=e.c:=by obtain a|a:=UZ.1 l;rw[a];exact Int.le_refl _;exact(WD.1 i).1 e a
  have p:e.c<=g.c:=by obtain a|a:=UZ.1 k;rw[a];exact Int.le_refl _;exact(WD.1 h).1 g a
  have a:=j e (by simp) g k (by omega);subst a;rw[D9 (List.Perm.cons_inv d) (WD.1 h).2 (WD.1 i).2 λa m c n=>j a (by simp[m]) c (by simp[n])]
def Kc{h:Nat}{a}(i:gq (h:Int) a 0):∀b∈a,∀c∈a,b.c=c.c->b=c:=by intro b j c k l;have e:=D8 i;rw[Wm]at e;refine Ghs.Dw (R:=λf g:Ed=>f.c=g.c) (e.imp λ{m n} o d=>o (by show m.c.toNat=n.c.toNat;rw[d])) (λf g d=>d.symm) j k l
def J6{i:Nat}{b}(g:gq (i:Int) b 0){c}(h:c=1000\/b.length<=(jz b c).length):jz b c=gK b:=by
 have d:=AO b c;have j:∀a∈b,1<=a.c/\a.c<=(c:Int):=by
  obtain rfl|h:=h;intro a e;have:=(rX g e).2.2.2;have l:(Ghs.e3 a).w=a.c.toNat:=rfl;omega;have m:=d.length_eq;have n:=VP (λa:Ed=>decide (1<=a.c/\a.c<=(c:Int))) b;have o:(b.filter λa=>decide (1<=a.c/\a.c<=(c:Int))).length=b.length:=by omega
  simp_all
 have f:b.filter (λa=>decide (1<=a.c/\a.c<=(c:Int)))=b:=List.filter_eq_self.2 (λa e=>by simpa using j a e);rw[f]at d;exact D9 (d.trans (XW b).symm) (D7 b c) (Ck b) λa e k f=>Kc g a (d.mem_iff.1 e) k (d.mem_iff.1 f)
end Go.Proofs.YtlfijfodklhplaaGreat.Sm
namespace Go.Proofs.YtlfijfodklhplaaGreat
def jT(a:List Ed)(b c:Nat):List Ed:=Sm.jz a b++(a.take c).filter λd=>decide (d.c=(b:Int)+1)
def E7(a b):jT a b 0=Sm.jz a b:=by simp[jT]
def E6{a b c d}(e:a[c]?=S d):jT a b (c+1)=if d.c=(b:Int)+1 then jT a b c++[d]else jT a b c:=by unfold jT;rw[Vz,e];simp only[Option.toList,U2,Vr,XN,UV];split;rw[<-UJ];rw[VJ]
def MA{a b c}(d:a.length<=c):jT a b c=Sm.jz a (b+1):=by unfold jT;rw[US d,Sm.AQ]
def MG(a b):(Sm.jz a b).length<=a.length:=by rw[(Sm.AO a b).length_eq];exact VP _ _
def MB(a b c):(jT a b c).length<=2*a.length:=by unfold jT;rw[Uu];have e:=MG a b;have f:=VP (λd:Ed=>decide (d.c=(b:Int)+1)) (a.take c);have g:=List.length_take_le' c a;omega
def MC(b E ad g)(G:gh g E b)(H:b.length<=100):
 Calls prog 129 #[L E b.length ad] g λai aj=>∃a c d,ai= .returned (L c (Sm.jz b a).length d)/\(a=1000\/b.length<=(Sm.jz b a).length)/\ly g aj (Sm.jz b a) c d:=by
 have ak:=@aC _ _ G H;have K(_:=()):ly g g (Sm.jz b 0) N 0:=⟨ae.a _ _,RV.d _ _ _,λM al=>(b8 M al).elim,λM aE l=>by cases l⟩
 obtain⟨e,w⟩:=ah b.length;have m(_:=()):e=b.length/\(e:Int)<=100:=⟨w,by omega⟩
 rw[<-w];clear G H w;go_enter func129,ntmps129;go_wp2_with fail;go_loopw [3,4,5] (λq h _ wr=>∃(a:Nat)(c:Option Addr)(d:Nat),(a:Int)<=1000/\h=I J ((a:Int)+1)/\q=L c (Sm.jz b a).length d/\ly g wr (Sm.jz b a) c d) λ_ h _ _=>1001-(intOf h).toNat;case atStart=>exact⟨0,N,0,by omega,rfl,rfl,K⟩
 case round=>
  obtain⟨a,c,d,O,rfl,rfl,j⟩:=hrel;have f:=@aC _ _ j O;obtain⟨x,y⟩:=ah ((Sm.jz b a).length);have o:=@af _ y;rw[<-y];clear j O y K;by_cases aF:(a:Int)<1000;have am:(a:Int)+1<=1000:=by omega
  by_cases an:x<e
  .have Q:(x:Int)<e:=by omega
   have aG:IntKind.i64.wrap ((a:Int)+1+1)=(a:Int)+1+1:=by rw[VM];omega
   clear an;go_wp2_with fail;go_loopw [3,5] (λq h ao=>∃(i:Nat)(c:Option Addr)(d:Nat),i<=e/\h= .int J i/\q=L c (jT b a i).length d/\ly g ao (jT b a i) c d) λ_ h _=>e-(intOf h).toNat;case atStart=>exact⟨0,c,d,Vl _,rfl,by rw[E7,o],by rw[E7];exact f.1⟩
   case round=>
    clear f o Q;obtain⟨i,c,d,z,rfl,rfl,j⟩:=hrel;have f:=@aC _ _ j z;obtain⟨r,s⟩:=ah ((jT b a i).length);have k(_:=()):r=(jT b a i).length/\r<=200:=⟨s,by have:=MB b a i;have:=m;omega⟩
    rw[<-s];by_cases A:i<e;obtain⟨l,C⟩:∃l,b[i]?=S l:=⟨_,Um (by have:=m;omega)⟩
    have n:=@aC _ _ C A;obtain⟨aH,aI,ap,aJ,t⟩:=(ak.1.a j.a).b (i:=i) (by have:=m;omega);obtain⟨R,U,V⟩:=uz b i l C;have aq:=t _ _ R;have W:=t _ _ U;have X:=t _ _ V;rw[<-UI]at W X;have ar:(i:Int)<e:=by omega
    have aK:(i:Int)<100:=by have:=m;omega
    obtain⟨u,v,Y⟩:=l;simp only at aq W X;rw[ap];clear j z A C s t R U V;by_cases D:Y=(a:Int)+1
    .subst D;have au(_:=()):RV wr 30 3 c r d (cA (jT b a i)):=by have Z:=f.1.b;rw[<-k.1]at Z;exact Z
     go_wp2_with (at_builtin;refine jX _ rfl (.tmp 30) (.tmp 35) 26 rfl 30 (.agg #[I J 0,I J 0,I J 0]) 3 24 underlying26 qn rfl c r d rfl (cA (jT b a i)) (au.c _) ⟨wr.heap.size,0,N⟩ 1 1 (by omega) rfl [I J u,I J v,I J ((a:Int)+1)] rfl (gJ wr [I J u,I J v,I J ((a:Int)+1)] 30 _ rfl) (by intro q ab;simp at ab;obtain rfl|rfl|rfl:=ab<;>rfl) (by have:=k;omega) (by have:=k;omega) ?_;intro av aw aL ax ay az);have aA:=((ae.a (ag c) wr).b _).c az;have aB:=f.1.d ⟨u,v,(a:Int)+1⟩ (ae.a aa wr) (by rw[<-k.1];exact ax) ay aA;have p:jT b a (i+1)=jT b a i++[⟨u,v,(a:Int)+1⟩]:=by rw[E6 n.1,UG rfl]
     exact⟨⟨i+1,av,aw,by have:=n;omega,by go_num,by rw[p,Uu,k.1];rfl,by rw[p];exact aB⟩,by have:=n;simp[intOf];omega⟩
    .have aD:=@af _ D;have aM:(Y==(a:Int)+1)=F:=by simpa using D
     go_wp2;have p:jT b a (i+1)=jT b a i:=by rw[E6 n.1,Us aD]
     exact⟨⟨i+1,c,d,by have:=n;omega,by go_num,by rw[p,k.1],by rw[p];exact f.1⟩,by have:=n;simp[intOf];omega⟩
    .have ar:¬((i:Int)<e):=by omega
     have ac(_:=()):jT b a i=Sm.jz b (a+1):=MA (by have:=m;omega);clear j z A s;go_wp2;exact⟨⟨a+1,c,d,by omega,by simp,by rw[<-ac,k.1],by rw[<-ac];exact f.1⟩,by simp[intOf];omega⟩
  .have Q:¬((x:Int)<e):=by omega
   go_wp2;go_ret;exact⟨a,c,d,by rw[o];rfl,Up (by have:=m;have:=o;omega),f.1⟩
  .have am:¬((a:Int)+1<=1000):=by omega
   go_wp2;go_ret;exact⟨a,c,d,by rw[o];rfl,Ur (by have:=f.2;omega),f.1⟩
open Go.Shelf
def SM:Go.Shelf.Ren:=⟨λ|6=>58|15=>105|14=>104|28=>157|29=>158|20=>149|21=>150|22=>151|23=>152|24=>153|25=>154|26=>155|27=>156|46=>187|47=>188|48=>189|49=>190|50=>191|57=>221|a=>a,λ|22=>26|24=>30|25=>121|3=>3|39=>179|0=>0|53=>249|55=>251|4=>4|46=>242|45=>241|50=>246|5=>5|9=>9|66=>295|70=>299|76=>335|77=>336|a=>a,λ|a=>a⟩
def Hy:Go.Proofs.SlLaysF0.n6 prog SM:= {mixed:=by kernel_rfl,f6:=⟨f58.name,by decide,func58.trans (Vj S (by kernel_rfl))⟩,f14:=⟨f104.name,by decide,func104.trans (Vj S (by kernel_rfl))⟩,f15:=func105.trans (Vj S (by kernel_rfl)),f20:=⟨f149.name,by decide,func149.trans (Vj S (by kernel_rfl))⟩,f21:=⟨f150.name,by decide,func150.trans (Vj S (by kernel_rfl))⟩,f22:=⟨f151.name,by decide,func151.trans (Vj S (by kernel_rfl))⟩,f23:=⟨f152.name,by decide,func152.trans (Vj S (by kernel_rfl))⟩,f24:=⟨f153.name,by decide,func153.trans (Vj S (by kernel_rfl))⟩,f25:=⟨f154.name,by decide,func154.trans (Vj S (by kernel_rfl))⟩,f26:=⟨f155.name,by decide,func155.trans (Vj S (by kernel_rfl))⟩,f27:=⟨f156.name,by decide,func156.trans (Vj S (by kernel_rfl))⟩,f28:=func157.trans (Vj S (by kernel_rfl)),f29:=func158.trans (Vj S (by kernel_rfl)),f46:=⟨f187.name,by decide,func187.trans (Vj S (by kernel_rfl))⟩,f47:=func188.trans (Vj S (by kernel_rfl)),f48:=func189.trans (Vj S (by kernel_rfl)),f49:=⟨f190.name,by decide,func190.trans (Vj S (by kernel_rfl))⟩,f50:=⟨f191.name,by decide,func191.trans (Vj S (by kernel_rfl))⟩,f57:=⟨f221.name,by decide,func221.trans (Vj S (by kernel_rfl))⟩,t0:=underlying0,a0:=isAgg0,z0:=sizeOf0,v0:=zeroValue0,t3:=underlying3,a3:=isAgg3,z3:=sizeOf3,v3:=zeroValue3,t4:=underlying4,a4:=isAgg4,z4:=sizeOf4,v4:=zeroValue4,t5:=underlying5,a5:=isAgg5,z5:=sizeOf5,v5:=zeroValue5,t9:=underlying9,a9:=isAgg9,z9:=sizeOf9,v9:=zeroValue9,t22:=underlying26,a22:=isAgg26,z22:=sizeOf26,v22:=zeroValue26,t25:=underlying121,a25:=isAgg121,z25:=sizeOf121,v25:=zeroValue121,t39:=underlying179,a39:=isAgg179,z39:=sizeOf179,v39:=zeroValue179,t45:=underlying241,a45:=isAgg241,z45:=sizeOf241,v45:=zeroValue241,t46:=underlying242,a46:=isAgg242,z46:=sizeOf242,v46:=zeroValue242,t50:=underlying246,a50:=isAgg246,z50:=sizeOf246,v50:=zeroValue246,t53:=underlying249,a53:=isAgg249,z53:=sizeOf249,v53:=zeroValue249,t55:=underlying251,a55:=isAgg251,z55:=sizeOf251,v55:=zeroValue251,t66:=underlying295,a66:=isAgg295,z66:=sizeOf295,v66:=zeroValue295,t70:=underlying299,a70:=isAgg299,z70:=sizeOf299,v70:=zeroValue299,t76:=underlying335,a76:=isAgg335,z76:=sizeOf335,v76:=zeroValue335,t77:=underlying336,a77:=isAgg336,z77:=sizeOf336,v77:=zeroValue336}
open Go.RowKit Go.Sort Go.Shelf
def LV(a b):ux a b=Lib.compareInt a b:=by unfold ux Lib.compareInt;by_cases c:a<b<;>by_cases d:b<a<;>simp[c,d]
def LU(a b c):Cr 59 #[.agg #[.int J a.a,.int J a.b,.int J a.c],.agg #[.int J b.a,.int J b.b,.int J b.c]] c (.int J (pB a b)) λd=>∃h i,d=grow (c.drewN h) i:=by have e:∀f,_:=λf=>LW a.c b.c f;have g:pB a b=ux a.c b.c:=(LV _ _).symm;rw[g];generalize ux a.c b.c=r at e|-;clear g;go_enter func59,ntmps59;go_wp2_with (go_at_call 60;refine(e _).mono ?_;rintro j d ⟨rfl,rfl⟩);go_ret;exact⟨rfl,0,_,by rw[alloc_eq_grow,alloc_eq_grow,grow_grow];rfl⟩
def Ov(a b c d):CmpLays prog 59 #[] Ed.cells 3 pB a b c d:=λ_ _ _ _ e f=>LU e f _
def SN(b c g a d)(e:lz d b c 30 3 (cA a) g)(r:(a.length:Int)<1000)(h):
 Cr 58 #[L (S ⟨b,c,N⟩) a.length h,.func (.func 59) #[] #[]] d (.tuple #[]) λf=>lz f b c 30 3 (cA (gK a)) g/\ae (ap b) d f:=by
 have m:=enters_of func59 (by kernel_rfl) rfl;have i:=AnyQ.slices_SortFunc_eq Hy 3 isAgg30 sizeOf30 Ed.cells (λ_=>rfl) (λs t j=>by simp[Ed.cells]at j;obtain rfl|rfl|rfl:=j<;>rfl) pB Ie 59 #[] b c h a.toArray d m (Ov b c _ d) (NP e) e.b (by simp;omega);have k:a.toArray.size=a.length:=by simp
 rw[k]at i;refine Uq i ?_;rintro u f ⟨rfl,n,o,rfl⟩;have l:=SX a;rw[k]at l;rw[<-l];obtain⟨p,q⟩:=SO e (tF a) n o;exact⟨rfl,p,q⟩
def SL(b c d a):
 Cr 58 #[L b 0 c,d] a (.tuple #[]) λe=>e=a:=
 AnyF.slices_SortFunc_none Hy b c d a
open Go.ChangeShapes Go.WideShapes Go.ChangeAt Go.RowKit Go.Deep
def NE:ownKnob prog.godebug=N:=by kernel_rfl
def ND:laidOutB prog=T:=by kernel_rfl
def Qh:prog.cellsOf 80=12:=by kernel_rfl
def Qg:prog.bytesOf 80=128:=by kernel_rfl
def MV:prog.cellsOf 30=3:=by kernel_rfl
def MU:prog.bytesOf 30=24:=by kernel_rfl
def TO:prog.cellsOf 5=1:=by kernel_rfl
def TN:prog.bytesOf 5=1:=by kernel_rfl
def yC:prog.cellsOf 3=1:=by kernel_rfl
def ED:prog.cellsOf 4=1:=by kernel_rfl
def MX:prog.cellsOf 26=1:=by kernel_rfl
def Ln:prog.cellsOf 56=1:=by kernel_rfl
def NC:prog.cellsOf 78=6:=by kernel_rfl
def Po:prog.cellsOf 76=4:=by kernel_rfl
def Nc{c d e f}(p:∀g a,f[g]?=S a->c.cell? ⟨d,e+g*3,N⟩=S (.int J a.a)/\c.cell? ⟨d,e+g*3+1,N⟩=S (.int J a.b)/\c.cell? ⟨d,e+g*3+2,N⟩=S (.int J a.c)):mU c d e f:=by
 intro b s h;have q:=(Ul.1 h).1;rw[tf]at q;have r:b/3<f.length:=by omega
 have i:=Um r;obtain⟨j,k,l⟩:=p _ _ i;obtain⟨m,n,o⟩:=uz f _ _ i;obtain a|a|a:=(show b=b/3*3\/b=b/3*3+1\/b=b/3*3+2 by omega)
 rw[<-a,h]at m;rw[<-a]at j;rw[j,m];rw[<-a,h]at n;rw[UI,<-a]at k;rw[k,n];rw[<-a,h]at o;rw[UI,<-a]at l;rw[l,o]
def Gc{c d e}{f:DataW c}:∀ {g:List (DataW c)},f∈g->∀b∈f.weights d e,b∈DataW.weightsAll d e g
 |[],a,_,_=>by cases a
 |i::j,a,b,h=>by simp only[DataW.weightsAll,UP];obtain rfl|a:=UZ.1 a;exact Ur h;exact Up (Gc a b h)
def MY{l}{z:TypeId×Value->l}{a A m}{n:DataW l}{C:List MemPlace}(D:DataW.trod z prog a 0 (λ_=>T) T A 26 m=S (n,C))(E:∀G∈n.weights prog 26,G<=reachBytes):
 ∃g e o,m=[L g e.length o]/\((g=N/\e=[]/\o=0)\/∃p,g=S p/\gh a (S p) e/\(e.length:Int)<=5864062014700):=by
 obtain⟨h,_⟩|⟨b,d,ai,q,H,aj,ak,h,_,al,am,K,M,O⟩:=open_slice underlying26 D;exact⟨N,[],0,h,Ur ⟨rfl,rfl,rfl⟩⟩;subst K;have r:=Vj Prod.fst M;simp only at r;have an:(d+(q-d))*24<=reachBytes:=by refine E _ ?_;rw[r];unfold DataW.weights;simp[MU]
 have Q:∀c,c<d->∃f:Ed,a.cell? ((b.add (c*3)).add 0)=S (I J f.a)/\a.cell? ((b.add (c*3)).add 1)=S (I J f.b)/\a.cell? ((b.add (c*3)).add 2)=S (I J f.c):=by
  intro c ao;obtain⟨R,s,U⟩:=O c (by omega);rw[MV]at s;obtain⟨_,V,i⟩:=World.cells?_some s;obtain⟨W,ap,X,aq,_,Y,j⟩:=Xd underlying30 U;match W,Y,R,V with
  |[ar,au,av],_,[aw,ax,ay],_=>
   have t:=j 0 _ rfl;have u:=j 1 _ rfl;have v:=j 2 _ rfl;simp[yC]at t u v;obtain⟨Z,w,_,az⟩:=VZ underlying3 t;obtain⟨aa,x,_,aA⟩:=VZ underlying3 u;obtain⟨ab,y,_,aB⟩:=VZ underlying3 v;simp at w x y;subst w x y;exact⟨⟨Z,aa,ab⟩,(i 0 (by omega)),(i 1 (by omega)),(i 2 (by omega))⟩
 have:Inhabited Ed:=⟨⟨0,0,0⟩⟩
 obtain⟨ac,k⟩:=choose_lt Q;refine⟨S b,(List.range d).map ac,q,by rw[h];simp,Up ⟨b,rfl,?_,?_⟩⟩;by_cases ad:d=0;subst ad;exact Ur rfl;obtain⟨ae,af,ag⟩:=b;have ah:ag=N:=by have:=XF (k 0 (by omega)).1;assumption
 subst ah;simp only[Va]at k;refine Up ⟨ae,af,rfl,UL a _ (k 0 (by omega)).1,Nc λH f X=>?_⟩;grind;have:reachBytes=140737488351232:=rfl;simp;omega
def Lr{l}{t:TypeId×Value->l}{e u m}{n:DataW l}{v:List MemPlace}(w:DataW.trod t prog e 0 (λ_=>T) T u 56 m=S (n,v))(x:∀a∈n.weights prog 56,a<=reachBytes):
 ∃g b h,m=[L g b.length h]/\((g=N/\b=[]/\h=0)\/∃o,g=S o/\nT e o b/\(b.length:Int)<=140737488351232/\(∀a∈b,a<256)/\b.length<=h):=by
 obtain⟨i,_⟩|⟨f,c,U,p,V,W,X,Y,i,_,Z,aa,y,z,A⟩:=open_slice1 underlying56 TO w;exact⟨N,[],0,i,Ur ⟨rfl,rfl,rfl⟩⟩;subst y;have q:=Vj Prod.fst z;simp only at q;have ab:(c+(p-c))*1<=reachBytes:=by refine x _ ?_;rw[q];unfold DataW.weights;simp[TN]
 have C:∀d,d<c->∃a:Nat,e.cell? (f.add d)=S (.int .u8 (a:Int))/\a<256:=by intro d D;obtain⟨r,E⟩:=A d (by omega);obtain⟨j,s,_,G⟩:=VZ underlying5 E;simp at s;rw[s]at r;simp[Lit.wf,IntKind.min,IntKind.max,IntKind.bits,IntKind.signed]at G;refine⟨j.toNat,?_,by omega⟩;rw[show ((j.toNat:Nat):Int)=j by omega];exact r
 obtain⟨H,k⟩:=choose_lt C;have ac:reachBytes=140737488351232:=rfl;refine⟨S f,(List.range c).map H,p,by rw[i];simp,Up ⟨f,rfl,?_,by simp;omega,?_,by simp;omega⟩⟩;by_cases K:c=0;subst K;exact Ur rfl;obtain⟨M,O,Q⟩:=f;have R:Q=N:=by have:=XF (k 0 (by omega)).1;assumption
 subst R;simp only[Va]at k;refine Up ⟨M,O,rfl,UL e _ (k 0 (by omega)).1,λd D=>?_⟩;grind;grind
def Qn{d e f b}(o:∀g h,b[g]?=S h->∀a,a<12->d.cell? ⟨e,f+g*12+a,N⟩=h.cells[a]?):qW d e f b:=by
 intro a v i;have p:∀b:List iM,(qv b).length=b.length*12:=λb=>by
  induction b with
  |nil=>rfl
  |cons c j q=>
   have r:qv (c::j)=c.cells++qv j:=by simp[qv]
   rw[r,Uu,q,Vg];have:c.cells.length=12:=rfl;omega
 have s:=(Ul.1 i).1;rw[p]at s;have t:a/12<b.length:=by omega
 have k:=Um t;have u:a%12<12:=by omega
 have w:(b[a/12]).cells.length=12:=rfl;have l:(b[a/12]).cells[a%12]?=S ((b[a/12]).cells[a%12]'(by omega)):=Um _;have m:=GG b _ _ k _ _ l;have n:=o _ _ k _ u;rw[show a/12*12+a%12=a by omega,i]at m;rw[UI,show a/12*12+a%12=a by omega]at n;rw[n,l,m]
end Go.Proofs.YtlfijfodklhplaaGreat
