import Derived.Test.YtlfijfodklhplaaGreatAl32b
import Derived.Test.YtlfijfodklhplaaGreatAl30
import Derived.Test.YtlfijfodklhplaaGreatAl32
set_option maxRecDepth 100000
set_option maxHeartbeats 8000000
set_option linter.all false
open Go.RowKit Go.Proofs.Tryz
open Go.Value renaming int->I,slice->L,pointer->P,bool->B
open Go.IntKind renaming i64->J
open Option renaming some->S,none->N
open Bool renaming true->T,false->F
namespace Go.Proofs.YtlfijfodklhplaaGreat
def Me{f g}(t:bP f g)(E:gI g.a){c d h a}(j:g.aE[c]?=S h)(k:h.ss[d]?=S a)(b u)(G:zD u b f)(H:∀v,b=S v->dx v)(K:∀c M,a.e.aO[c]?=S (S M)->a.e.aT+c<65536)(O:a.e.aT<=65536):
 Calls prog 132 #[P (S ⟨a.b,0,N⟩),u] f λw n=>∃l o m x y,w= .returned (L l (a.e.b b).length o)/\RV n 76 4 l (a.e.b b).length o (cH (a.e.b b))/\bP n m/\m.aE[c]?=S x/\x.ss[d]?=S y/\m.a=g.a.a c d (λQ=>Q.d b)/\dR f n g m/\(y.r.bD.length:Int)<1000000/\∀i,ag l i->m.cE i=(0,0,0):=by
 obtain⟨R,z⟩:=t.eC c h j d a k;have A:=E c h.a (by simp[Dn.a,j]) d (a.t,a.e) (by simp[Ds.a,k]);have U:a.r.bD=[]:=by rw[<-z.b];exact A
 refine(G4 a.b a.e a.r a.p b u f R z G H K O (by rw[U];simp)).mono ?_;rintro w n ⟨l,o,q,s,rfl,V,W,X,C,Y⟩;obtain⟨Z,aa⟩:=t.j j k (a.e.d b) q s X C Y;have ab:=(Ul.1 j).1;have ac:=(Ul.1 k).1;refine⟨l,o,_, {h with ss:=h.ss.set d {a with e:=a.e.d b,r:=q,p:=s}}, {a with e:=a.e.d b,r:=q,p:=s},rfl,V,Z,UQ ab,UQ ac,xZ j k _ _ _ _ rfl,aa,?_,λi ad=>?_⟩;have D:=FE a.e b;have ae:=C.b;show ((q.bD.length:Nat):Int)<1000000;rw[<-ae];rw[A]at D;simp at D;omega;obtain⟨af,ah⟩:=W i ad;show g.e f.heap.size (hJ a.b s) (8,c,d) i=(0,0,0)
 rw[vV ah];exact t.jc i af
def Pi{b}(c:dC b):(cy b).a=b:=by
 obtain⟨_,_,_,c⟩:=c;simp only[bJ,UV]at c;obtain⟨⟨l,m⟩,n,g,h,i,j⟩:=c;obtain⟨a,o,d,e⟩:=b;dsimp only at *;have f:a=1\/a=2\/a=3\/a=4\/a=5\/a=6\/a=7:=by omega
 have k:a≠2->e=F:=λf=>by
  cases e with
  |false=>rfl
  |true=>have:=j rfl;omega
 obtain rfl|rfl|rfl|rfl|rfl|rfl|rfl:=f;all_goals simp[cy,bV.a,bL,bm,bM]at g h i k|-
 all_goals first|done|(by_cases p:d=0<;>(have q:d≠1001:=by omega)<;>simp_all;done)|(simp_all<;>omega)|omega
def L9(a k b)(d:bP b a)(e:¬(0<=k/\k<(a.aV.length:Int))):
 Cr 93 #[P (S ⟨a.b,0,N⟩),.int J k] b (.int J 7) λc=>ae aa b c:=by
 have f(_:=()):Cr 141 #[P (S ⟨a.b,0,N⟩),I J k] b (B F) λc=>b=c:=by have:=rc a.b a.ba a.aV.length a.bc k b d.c d.dk.b;rw[U7 e]at this;exact this
 obtain⟨g,h⟩:=ah a.b;go_enter func93,ntmps93;go_wp2_with fail;refine Uq f ?_;rintro i j ⟨rfl,rfl⟩;go_wp2;go_ret;exact⟨rfl,ae.a _ _⟩
def wQ(f:AN)(t c:Nat)(d:List Fr.cF):Prop:=∀(e:Nat)(b:Fr.cF),d[e]?=S b->∃a,(f.n t c (d.take e)).c[t]?=S a/\a.aD=[]/\vg a c (cy b)/\(a.an.length:Int)<4000/\dC b/\a.ai.length<=100
def Tp(d:AN)(t a){b:List Fr.cF}{c e}(f:b[c]?=S e):d.n t a (b.take (c+1))=(d.n t a (b.take c)).G t a e:=by unfold AN.n;rw[pM f,V5];rfl
def Pz{a}(b:gI a)(t c d):gI (a.G t c d):=by exact BG t _ (BF (BF b t _) t _)
def Mk{f a}(i:bP f a)(j:gI a.a){t d:Nat}{c b}(k:a.a.c[t]?=S b)(l:b.aD=[])(m:vg b d (cy c))(n:(b.an.length:Int)<4000)(o:dC c)(p:a.aE.length<=100)(q:b.ai.length<=100):
 Cr 143 #[P (S ⟨a.b,0,N⟩),.int J t,.int J d,mv c] f (.tuple #[]) λg=>∃h,bP g h/\h.a=a.a.G t d c/\dR f g a h:=by
 obtain⟨e,r,s⟩:∃e,a.aE[t]?=S e/\e.n=b:=by
  have w:a.a.c=a.aE.map (λe=>e.n):=by simp[AN.c,Dn.a,Ds.a]
  grind
 subst s;have u:=Pn.q i j r l p q;have:=O3 u d (cy c) m n;rw[Pi o]at this;refine this.mono ?_;rintro x g ⟨rfl,v⟩;exact⟨rfl,v.n k (λb=>b.w d c) rfl⟩
def Nk{c:List (Nat×En)}{d e a}(f:c[e]?=S a)(h:a.1=d)(i:∀b g,b<e->c[b]?=S g->g.1≠d):c.findIdx (λa=>a.1==d)=e:=by have j:=(Ul.1 f).1;have k:=(Ul.1 f).2;rw[List.findIdx_eq j];refine⟨by rw[k];simp[h],λb l=>?_⟩;have:=i b _ l (Um (by omega));simp[this]
def Ma(e k a x j g r)(A:bP r e)(ax:e.aV[k]?=S a)(cf:e.aV.length<=300)(aj:gI e.a)(a9:e.aE[a.t]?=S x)(ba:x.ss[j]?=S g)(bI:g.t=a.f)(bJ:∀d K,d<j->x.ss[d]?=S K->K.t≠a.f)(bb:e.aE.length<=100)(cg:x.ss.length<=100)(bK:∀bL∈a.l,bL<256)(ch:(a.l.length:Int)<1000)(ci:∀d a,g.e.aO[d]?=S (S a)->g.e.aT+d<65536)(cj:g.e.aT<=65536)(bM:wQ (((e.a.f k).a a.t j λb=>b.d (eK a.l)).d a.t j) a.t j (g.e.b (eK a.l))):
 Cr 93 #[P (S ⟨e.b,0,N⟩),.int J k] r (.int J 0) λv=>∃bN,bP v bN/\bN.a=e.a.x k/\dR r v e bN:=by
 have cR:=(Ul.1 ax).1;have ck:=(Ul.1 ba).1;have ay:=(Ul.1 a9).1;have bO(_:=()):Cr 141 #[P (S ⟨e.b,0,N⟩),I J k] r (B T) λv=>r=v:=by have:=rc e.b e.ba e.aV.length e.bc (k:Int) r A.c A.dk.b;rw[U4 ⟨by omega,by omega⟩]at this;exact this
 obtain⟨l,bc⟩:=ah (eK a.l);have cl:Is a.l l:=by rw[bc];exact uH bK
 have cS(_:=()):e.a.x k=(((e.a.f k).a a.t j λb=>b.d l).d a.t j).n a.t j (g.e.b l):=by
  unfold AN.x;have aM:e.a.fu[k]?=S a.b:=by simp[Dn.a,ax]
  have bd:(e.a.f k).bd[a.t]?=S x.a:=by simp[AN.f,Dn.a,a9]
  have cm:x.a.ss[j]?=S (g.t,g.e):=by simp[Ds.a,ba]
  rw[aM];dsimp only;unfold AN.M;have X:(e.a.f k).w a.b.t a.b.f=j:=by unfold AN.w;show (match (e.a.f k).bd[a.t]? with|none=>0|some x=>x.ss.findIdx λg=>g.1==a.f)=j;rw[bd];refine Nk cm bI λd K az aN=>?_;simp[Ds.a]at aN;obtain⟨aA,bQ,rfl⟩:=aN;exact bJ d aA az bQ
  have ak:(e.a.f k).K a.t j (eK a.l)=g.e.b (eK a.l):=by unfold AN.K AN.e;rw[bd];simp[cm]
  dsimp only;rw[X,show a.b.t=a.t from rfl,show a.b.l=a.l from rfl,ak,bc]
 rw[<-bc]at bM;have al:=@zu _ _ _ _ _ _ _ _ A ax cf aj a9 ba bI bJ;have M(_:=()):e.aE.length<=100/\x.ss.length<=100/\(∀bL∈a.l,bL<256)/\(a.l.length:Int)<1000/\(∀(d:Nat)(a:Fr.cF),g.e.aO[d]?=S (S a)->g.e.aT+d<65536)/\g.e.aT<=65536/\wQ (((e.a.f k).a a.t j λb=>b.d l).d a.t j) a.t j (g.e.b l)/\Is a.l l/\j<x.ss.length/\a.t<e.aE.length:=⟨bb,cg,bK,ch,ci,cj,bM,cl,ck,ay⟩
 have be:=A.c;have cn:=A.dk.b;obtain⟨h,dn,aX,aB,cT,bf,R⟩:=A.i ax;have co:=R 0 _ rfl;have X:=R 1 _ rfl;have ak:=R 2 _ rfl;have aY:=R 3 _ rfl;rw[Vn]at co;rw[aX]at be;have cp:(k:Int)<e.aV.length:=by omega
 obtain⟨dp,cq⟩:=ah e.aV.length;obtain⟨bg,bR⟩:=ah e.b;obtain⟨cU,cr⟩:=ah e.c;rw[<-cq]at be cp;rw[<-bR]at be cn bO|-;have Y:=@aC _ _ bR cr;obtain⟨m,bS⟩:∃m:Array Value,m= #[I J a.f,I J a.t,L (S ⟨a.g,0,N⟩) a.l.length a.c,B a.sp]:=⟨_,rfl⟩
 obtain⟨bh,bi⟩:=ah (r.alloc (.cells #[I J a.f,I J a.t,L (S ⟨a.g,0,N⟩) a.l.length a.c,B a.sp] 229));obtain⟨i,bj⟩:=ah r.heap.size;have aD(_:=()):bh=r.alloc (.cells #[I J a.f,I J a.t,L (S ⟨a.g,0,N⟩) a.l.length a.c,B a.sp] 229)/\i=r.heap.size/\aq bh i m 229/\ae aa r bh/\m= #[I J a.f,I J a.t,L (S ⟨a.g,0,N⟩) a.l.length a.c,B a.sp]:=⟨bi,bj,by rw[bi,bj,bS];exact aq.e _ _ _,by rw[bi];exact(ae.a aa r).b _,bS⟩
 clear A ax cf aj a9 ba bI bJ bb cg bK ch ci cj bM cR ck ay cl bc aX bf R cT cq bR cr bi bj bS;go_enter func93,ntmps93;go_wp2_with fail;refine Uq bO ?_;rintro bk dq ⟨rfl,rfl⟩;clear bO;go_wp2_with fail;rw[<-aD.1,<-aD.2.1];refine Uq (by have:=EX e k bh (al.1.a aD.2.2.2.1) (Ul.1 al.2.1).1 al.2.2.1;rw[<-Y.1]at this;exact this) ?_;rintro bk U ⟨rfl,s,u1,u2,u3,u4,u5⟩;have t(_:=()):bP U s/\s.a=e.a.f k/\dR r U e s/\aq U i m 229/\s.cE i=(0,0,0)/\gp U a.g a.l a.c/\a.l.length<=a.c/\gI s.a:=by
  obtain⟨A,ax,_,aj,_⟩:=al;obtain⟨_,bj,cs,ct,_⟩:=aD;have cu:=Uo ax;have cv:=A.fD a cu;have cV:i≠e.b:=by have:=A.dk.b;omega
  have cW:a.g≠e.b:=λb=>by have aM:=A.t4 a cu;rw[b,A.t1]at aM;cases aM
  refine⟨u1,u2,(dR.c e ct).a u3,cs.c u5 λb=>cV ((show i=bg from b).trans Y.1),?_,(cv.1.a ct λb=>b).a u5 λb=>cW ((show a.g=bg from b).trans Y.1),cv.2,?_⟩;apply UC;intro b;obtain c|c:=u3.f i b;exact c (A.jc i (by omega));have:=cs.b;omega;rw[u2];exact λd cX cY cZ K aN=>aj d cX cY cZ K aN
 obtain⟨u,am,n⟩:∃u am,Unit->s.aE[a.t]?=S u/\u.ss[j]?=S am/\am.t=a.f/\am.e=g.e/\u.ss.length=x.ss.length/\(∀d K,d<j->u.ss[d]?=S K->K.t≠a.f):=by
  have X:s.a.bd=e.a.bd:=by rw[u2];rfl
  have ak:s.a.bd[a.t]?=S x.a:=by rw[X];simp[Dn.a,al.2.2.2.2.1]
  simp only[Dn.a,Uz]at ak;obtain⟨u,c0,aY⟩:=UD.1 ak;have aZ:u.ss.map (λg=>(g.t,g.e))=x.ss.map (λg=>(g.t,g.e)):=Vj AS.ss aY;have bl:(u.ss.map λg=>(g.t,g.e))[j]?=S (g.t,g.e):=by rw[aZ,Uz,al.2.2.2.2.2.1];rfl
  rw[Uz]at bl;obtain⟨am,c1,bT⟩:=UD.1 bl;have bm:=Prod.mk.inj bT;refine⟨u,am,λ_=>⟨c0,c1,bm.1.trans al.2.2.2.2.2.2.1,bm.2,?_,λd K az aN=>?_⟩⟩;have:=Vj List.length aZ;simpa using this;have bn:(x.ss.map λg=>(g.t,g.e))[d]?=S (K.t,K.e):=by rw[<-aZ,Uz,aN];rfl
  rw[Uz]at bn;obtain⟨aA,bQ,bU⟩:=UD.1 bn;rw[<-(Prod.mk.inj bU).1];exact al.2.2.2.2.2.2.2 d aA az bQ
 obtain⟨bo,bV⟩:=ah a.t;have an(_:=()):bo=a.t/\(bo:Int)<100:=⟨bV,by have:=M;omega⟩
 have a0:=u1.e;have a1:=u1.dk.b;have a2:=u1.d;have aE:=u1.b (n ()).1 3 _ rfl;have cw:(a.t:Int)<s.aE.length:=by have:=(Ul.1 (n ()).1).1;omega
 rw[u3.b,u3.d,<-Y.1,<-Y.2]at a0;rw[u3.b,<-Y.1]at a1;rw[u3.d,<-Y.2]at a2 aE;have a3:=t.2.2.2.1.a 0;have E:=t.2.2.2.1.a 1;have a4:=t.2.2.2.1.a 2;rw[aD.2.2.2.2]at a3 E a4;simp at a3 E a4;have Z:=t.2.2.2.1.b;rw[<-bV]at aE cw E;obtain⟨dr,cx⟩:=ah s.aE.length;rw[<-cx]at a0 cw;obtain⟨aO,bp,bW⟩:∃aO bp,u.sa=S ⟨aO,bp,N⟩:=by obtain⟨aO,bp,b,_⟩:=ja (u1.iH a.t u (n ()).1) (by have:=(n ()).2.2.2.2.1;have:=M;omega);exact⟨aO,bp,b⟩
 rw[bW]at aE;have c2:=@af _ bW;obtain⟨aP,bX⟩:=ah u.ss.length;rw[<-bX]at aE;have bq(_:=()):aP=u.ss.length/\j<aP/\(aP:Int)<=100:=⟨bX,by have:=(n ()).2.2.2.2.1;have:=M;omega,by have:=(n ()).2.2.2.2.1;have:=M;omega⟩
 clear u1 u2 u3 u4 u5 be cn cp co X ak aY aB bV cx bW bX;go_wp2_with fail;go_loopw [7] (λab wr=>∃d:Nat,d<=j/\ab= .int J d/\ae aa U wr) λab _=>aP-(intOf ab).toNat;case atStart=>exact⟨0,Vl _,rfl,ae.a _ _⟩
 case round=>
  obtain⟨d,az,rfl,y⟩:=hrel;have cy:=@af _ y;replace a0:=(y.f bg 1 a1 λb=>b).trans a0;replace aE:=(y.f cU _ a2 λb=>b).trans aE;replace a3:=(y.f i 0 Z λb=>b).trans a3;replace E:=(y.f i 1 Z λb=>b).trans E;replace a4:=(y.f i 2 Z λb=>b).trans a4;replace a1:=Un a1 y.size;replace a2:=Un a2 y.size;replace Z:=Un Z y.size;have bY:d<aP:=by have:=bq;omega
  have c3:(d:Int)<1000:=by have:=bq;omega
  have ds:(d:Int)<aP:=by omega
  have c4:=@aC _ _ az bY;obtain⟨aF,aQ⟩:∃aF,u.ss[d]?=S aF:=⟨_,Um (by have:=bq;omega)⟩
  obtain⟨cz,bZ⟩:∃cz,u.n.ai[d]?=S cz:=⟨_,Um (by rw[t.1.gL a.t u (n ()).1];have:=bq;omega)⟩
  obtain⟨dt,du,aX,aB,cA,bf,R⟩:=t.1.f (n ()).1 aQ bZ;rw[c2]at aX;cases aX;have ao:=(y.f aO _ aB λb=>b).trans (R 1 _ rfl);have b0:=(y.f aO _ aB λb=>b).trans (R 3 _ rfl);replace aB:=Un aB y.size;simp only[Dd.a]at ao b0;have dv:=@af _ aQ;by_cases cB:d=j
  .have b1:aF=am:=by have:=(n ()).2.1;rw[<-cB,aQ]at this;exact Wn this
   have br:aF.t=a.f:=by rw[b1];exact(n ()).2.2.1
   rw[br]at ao;subst cB;have b2(_:=()):∀(C:World)(bs:Dn),dR U C s bs->aq C i m 229/\bs.cE i=(0,0,0):=λC bs ap=>by have aG:Gd [(i,m,229)] C bs:=(show Gd [(i,m,229)] U s from λac aH=>by rw[UY.1 aH];exact⟨t.2.2.2.1,t.2.2.2.2.1⟩).a ap;exact aG (i,m,229) (by simp)
   have c5(_:=()):∀C,ae aa U C->Calls prog 132 #[P (S ⟨aF.b,0,N⟩),L (S ⟨a.g,0,N⟩) a.l.length a.c] C λaA v=>∃o z aI ao bt,aA= .returned (L o (g.e.b l).length z)/\RV v 76 4 o (g.e.b l).length z (cH (g.e.b l))/\bP v aI/\aI.aE[a.t]?=S ao/\ao.ss[d]?=S bt/\aI.a=s.a.a a.t d (λb=>b.d l)/\dR U v s aI/\(bt.r.bD.length:Int)<1000000/\∀h,ag o h->aI.cE h=(0,0,0):=λC aR=>by have c6:=t.1.a aR;have cC:=t.2.2.2.2.2.1.a aR λb=>b;have cD:=M.2.2.2.2.2.2.2.1;have c7:lR C (S ⟨a.g,0,N⟩) a.l a.c:=Up ⟨_,rfl,Up ⟨a.g,0,rfl,cC.b,lI cC⟩,by have:=M.2.2.2.1;omega,M.2.2.1,t.2.2.2.2.2.2.1⟩;have b3:=(n ()).2.2.2.1;have:=Me c6 t.2.2.2.2.2.2.2 (n ()).1 (n ()).2.1 l _ (c7.b cD) (λf bb=>by subst bb;exact cD.1) (by rw[b3];exact M.2.2.2.2.1) (by rw[b3];exact M.2.2.2.2.2.1);rw[b1,<-b3];refine this.mono ?_;rintro aA v ⟨o,z,aI,ao,bt,X,ak,aY,aZ,bl,bT,bm,bn,bU⟩;exact⟨o,z,aI,ao,bt,X,ak,aY,aZ,bl,bT,(dR.c s aR).a bm,bn,bU⟩
   clear cA bf R aQ bZ az bY br y b1;go_wp2_with fail;go_region;all_goals
    go_wp2_with fail;go_region;all_goals
     go_upto_region 10 with fail;go_cut [8] (λab b4=>∃(o:Option Addr)(z:Nat)(D:Dn)(aS:Ds)(aT:Dd),ab=L o (g.e.b l).length z/\RV b4 76 4 o (g.e.b l).length z (cH (g.e.b l))/\bP b4 D/\D.aE[a.t]?=S aS/\aS.ss[d]?=S aT/\D.a=s.a.a a.t d (λb=>b.d l)/\dR U b4 s D/\(aT.r.bD.length:Int)<1000000/\∀h,ag o h->D.cE h=(0,0,0));case first=>
      go_region_with (go_at_call 132;refine Uq (c5 () _ (cy.c ((((ae.a aa wr).drew).drew).drew))) ?_;rintro aA dw ⟨o,z,D,aS,aT,rfl,bu,bv,bw,bx,bz,aU,bA,bB⟩);all_goals
       go_wp2_with fail;go_meet;case rel=>exact⟨o,z,D,aS,aT,rfl,bu,bv,bw,bx,bz,aU,bA,bB⟩
     case rest=>
     obtain⟨o,z,D,aS,aT,rfl,bu,bv,bw,bx,bz,aU,bA,bB⟩:=hcut;have aJ:=@zu _ _ _ _ _ _ _ _ bu bv bw bx bz aU bA bB;have c8:wc.cell? ⟨i,1,N⟩=S (I J bo):=by have w:=(b2 () wc D aU).1;have:=w.a 1;rw[aD.2.2.2.2]at this;simp at this;rw[an.1];exact this
     have c9:=(b2 () wc D aU).1.b;clear bu bv bw bx bz aU bA bB a3 E a4 ao b0 aE a0 a1 a2 Z aB;go_wp2_with fail;refine Uq (by have:=Bj D a.t d aS aT wc aJ.2.1 aJ.2.2.1 aJ.2.2.2.1 (by have:=an;omega) c3 aJ.2.2.2.2.2.2.1;rw[aJ.2.2.2.2.2.1.b,t.2.2.1.b,<-Y.1,<-an.1]at this;exact this) ?_;rintro bk a5 ⟨rfl,O,bC,aV,ar⟩;have bD(_:=()):bP a5 O/\O.a=((e.a.f k).a a.t d λb=>b.d l).d a.t d/\dR r a5 e O/\gI O.a/\aq a5 i m 229/\O.cE i=(0,0,0)/\RV a5 76 4 o (g.e.b l).length z (cH (g.e.b l))/\(∀h,ag o h->O.cE h=(0,0,0)/\h<a5.heap.size):=by
      obtain⟨b5,dx,dz,dA,cE,cF,dB,cG⟩:=aJ;have da:=b2 () wc D cF;have aG:=(show Gd [(i,m,229)] wc D from λac aH=>by rw[UY.1 aH];exact da).a ar;have b6:∀h,ag o h->O.cE h=(0,0,0):=λh w=>by apply UC;intro b;obtain c|c:=ar.f h b;exact c (cG h w);have:=b5.b h w;omega
      refine⟨bC,by rw[aV,cE,t.2.1,an.1],(t.2.2.1.a cF).a ar,?_,(aG (i,m,229) (by simp)).1,(aG (i,m,229) (by simp)).2,b5.a ar.e λh w b=>b (cG h w),λh w=>⟨b6 h w,Un (b5.b h w) ar.e.size⟩⟩;rw[aV,cE,an.1];exact Gl t.2.2.2.2.2.2.2 (E9 (n ()).1 (n ()).2.1) _
     clear bC aV ar c8 c9;obtain⟨G,b7⟩:=ah (g.e.b l);rw[<-b7]at bD|-;have b8:=@af _ b7;clear b7 aJ;have cI(_:=()):wQ (((e.a.f k).a a.t d λb=>b.d l).d a.t d) a.t d G:=by rw[b8];exact M.2.2.2.2.2.2.1
     obtain⟨V,bE⟩:=ah (((e.a.f k).a a.t d λb=>b.d l).d a.t d);rw[<-bE]at bD cI;have cJ(_:=()):V=((e.a.f k).a a.t d λb=>b.d l).d a.t d/\V.bd.length<=100:=by
      refine⟨bE,?_⟩;have aM:V.c.length=e.aE.length:=by rw[bE,uQ,tv];simp[AN.c,AN.f,Dn.a]
      have bd:V.c.length=V.bd.length:=by simp[AN.c]
      have:=M.1;omega
     clear bE;obtain⟨Q,ay⟩:=ah G.length;have b9(_:=()):Q=G.length/\Q<=1000:=⟨ay,by rw[ay,b8];have cK:=(t.1.eC a.t u (n ()).1 d am (n ()).2.1).2.c;rw[(n ()).2.2.2.1]at cK;have:=Cs g.e l cK;omega⟩
     rw[<-ay]at bD|-;clear ay;go_wp2_with fail;go_loopw [9] (λab a6=>∃(p:Nat)(q:Dn),p<=Q/\ab= .int J p/\bP a6 q/\q.a=V.n a.t d (G.take p)/\dR r a6 e q/\gI q.a/\aq a6 i m 229/\q.cE i=(0,0,0)/\RV a6 76 4 o Q z (cH G)/\(∀h,ag o h->q.cE h=(0,0,0)/\h<a6.heap.size)/\q.aE.length<=100) λab _=>Q-(intOf ab).toNat;case atStart=>
      obtain⟨aK,ad,au,av,ai,aL,aw,W⟩:=bD;refine⟨0,O,Vl _,rfl,aK,by rw[ad];rfl,au,av,ai,aL,aw,W,?_⟩;have aM:O.a.bd.length=V.bd.length:=by rw[ad]
      have bd:O.a.bd.length=O.aE.length:=by simp[Dn.a]
      have:=cJ.2;omega
     case round=>
      obtain⟨p,q,ca,rfl,aK,ad,au,av,ai,aL,aw,W,a7⟩:=hrel;have bF(_:=()):bP wr q/\q.a=V.n a.t d (G.take p)/\dR r wr e q/\gI q.a/\aq wr i m 229/\q.cE i=(0,0,0)/\RV wr 76 4 o Q z (cH G)/\(∀h,ag o h->q.cE h=(0,0,0)/\h<wr.heap.size)/\q.aE.length<=100/\p<=Q:=⟨aK,ad,au,av,ai,aL,aw,W,a7,ca⟩
      have E:=ai.a 1;rw[aD.2.2.2.2]at E;simp at E;rw[<-an.1]at E;have Z:=ai.b;have dC:(p:Int)<2000:=by have:=b9;omega
      by_cases cb:p<Q
      .obtain⟨aW,aj⟩:∃aW,G[p]?=S aW:=⟨_,Um (by have:=b9;omega)⟩
       obtain⟨cc,cd,b6,ce⟩:=ja aw (by omega);have a8:∀ac bG,ac<4->(dy aW)[ac]?=S bG->wr.cell? ⟨cc,cd+(p*4+ac),N⟩=S bG:=λac bG aH db=>ce.a (p*4+ac) bG (by rw[<-db];exact pD (f:=dy) (c:=4) (λ_=>rfl) G p aW aj ac aH);have cL:=a8 0 _ (by omega) rfl;have cM:=a8 1 _ (by omega) rfl;have cN:=a8 2 _ (by omega) rfl;have cO:=a8 3 _ (by omega) rfl;simp only[Vn,<-UI]at cL cM cN cO;have dc:=ce.b;subst b6;have dD:(p:Int)<Q:=by omega
       have bH:=@aC _ _ aj cb;have dd(_:=()):∀C,ae aa wr C->Cr 143 #[P (S ⟨bg,0,N⟩),I J bo,I J d,mv aW] C (.tuple #[]) λv=>∃H,bP v H/\H.a=V.n a.t d (G.take (p+1))/\dR r v e H/\gI H.a/\aq v i m 229/\H.cE i=(0,0,0)/\RV v 76 4 (S ⟨cc,cd,N⟩) Q z (cH G)/\(∀h,ag (S ⟨cc,cd,N⟩) h->H.cE h=(0,0,0)/\h<v.heap.size)/\H.aE.length<=100:=λC aR=>by
        obtain⟨aK,ad,au,av,ai,aL,aw,W,a7,_⟩:=bF;obtain⟨dE,cP,de,df,dg,dh,di⟩:=cI () p aW bH.1;rw[<-ad]at cP;have:=Mk (aK.a aR) av cP de df dg dh a7 di;rw[au.b,<-Y.1,<-an.1]at this;refine this.mono ?_;rintro bk v ⟨rfl,H,bC,aV,ar⟩;have ap:=(dR.c q aR).a ar;have aG:=(show Gd [(i,m,229)] wr q from λac aH=>by rw[UY.1 aH];exact⟨ai,aL⟩).a ap;have dj:H.a=V.n a.t d (G.take (p+1)):=by rw[aV,Tp _ _ _ bH.1,ad,an.1]
        refine⟨rfl,H,bC,dj,au.a ap,?_,(aG (i,m,229) (by simp)).1,(aG (i,m,229) (by simp)).2,aw.a ap.e λh w b=>b (W h w).1,λh w=>⟨?_,Un (W h w).2 ap.e.size⟩,?_⟩;rw[aV];exact Pz av _ _ _;apply UC;intro b;obtain c|c:=ap.f h b;exact c (W h w).1;have:=(W h w).2;omega;have X:=Vj List.length ap.g;simp at X;omega
       clear aK ad au av ai aL aw W a7 ca a8 ce aj cb;go_wp2_with fail;go_region_with (go_at_call 143;refine Uq (dd () _ ((ae.a aa wr).drew)) ?_;rintro bk dF ⟨rfl,H,cQ⟩);all_goals
        have dk:=@af _ cQ;clear cQ cL cM cN cO dc E Z;go_wp2;exact⟨⟨p+1,H,by have:=bH.2;omega,by go_num,dk⟩,by have:=bH.2;simp[intOf];omega⟩
      .have dl:p=Q:=by omega
       subst dl;clear aK ad au av ai aL aw W a7 ca cb E Z;go_wp2;go_ret;refine⟨rfl,q,bF.1,?_,bF.2.2.1⟩;rw[bF.2.1,cS,<-b8,<-cJ.1,US (by have:=b9;omega)]
  .have br:=(n ()).2.2.2.2.2 d aF (by omega) aQ;have dG:¬((aF.t:Int)=a.f):=by omega
   have dm(_:=()):d<j:=by omega
   clear cA bf R aQ bZ az bY br b0 y;go_wp2_with fail;go_region;all_goals
    go_wp2_with fail;go_region;all_goals
     go_wp2;exact⟨⟨d+1,by have:=dm;omega,by go_num,cy.c (((ae.a aa wr).drew).drew)⟩,by have:=c4;simp[intOf];omega⟩
end Go.Proofs.YtlfijfodklhplaaGreat
