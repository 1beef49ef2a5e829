import Derived.Test.YtlfijfodklhplaaGreatAl27
import Derived.Test.YtlfijfodklhplaaGreatAl29
set_option maxRecDepth 100000
set_option maxHeartbeats 16000000
set_option linter.all false
open Go.RowKit Go.Proofs.Tryz
open Go.Value renaming int->I,slice->L,pointer->P,bool->B
open Go.IntKind renaming i64->J
open Option renaming some->S,none->N
open Bool renaming true->T,false->F
namespace Go.Proofs.YtlfijfodklhplaaGreat
def BP:(prog.info? 289).map (λa=>(a.zero,a.size,a.bytes))=S (S (.agg #[.int J 0,.int J 0,.int J 0,.int J 0,B F]),5,40):=by kernel_rfl
def D1(a:ay)(b:Nat)(c:bV):Prop:=sw a/\b<a.ai.length/\Hs a b c
def tK:Nat->ay->Nat->Prop
 |0,_,_=>True
 |d+1,b,c=>match b.an[c]? with
  |none=>True
  |some a=>D1 b a.1 a.2/\((b.a a.1 a.2).2=F->tK d (b.a a.1 a.2).1 (c+1))
def tJ:Nat->ay->Prop
 |0,_=>True
 |b+1,a=>tK a.an.length a 0/\((a.h a.an.length 0).2=T->tJ b (a.h a.an.length 0).1)
def vg(a:ay)(b:Nat)(c:bV):Prop:=D1 a b c/\((a.a b c).2=T->tJ ((a.a b c).1.an.length+1) (a.a b c).1)
def tH(c:ay)(a:Nat)(b:bV):ay:=
 if (c.a a b).2 then (c.a a b).1.v ((c.a a b).1.an.length+1)
 else { (c.a a b).1 with an:=(c.a a b).1.an++[(a,b)]}
structure sx(a:ay)(k b:Nat)(d:ay):Prop where
 f:tK (a.an.length-k) a k
 g:(a.h (a.an.length-k) k).2=T->tJ b (a.h (a.an.length-k) k).1/\(a.h (a.an.length-k) k).1.v b=d
 c:(a.h (a.an.length-k) k).2=F->(a.h (a.an.length-k) k).1=d
 e:a.an.length<=b
def sx.a{b c}(d:tJ (c+1) b)(e:b.an.length<=c):sx b 0 c (b.v (c+1)):=by refine⟨d.1,λa=>?_,λa=>?_,e⟩;rw[XI]at a|-;exact⟨d.2 a,by rw[ay.v,UG a]⟩;rw[XI]at a|-;rw[ay.v,Us (by rw[a];simp)]
def sx.d{a c b}(d:sx a a.an.length c b):a=b:=by have:=d.c;rw[Ww]at this;exact this rfl
def sx.b{b k e g}(m:sx b k e g){a}(h:b.an[k]?=S a):D1 b a.1 a.2/\((b.a a.1 a.2).2=F->sx (b.a a.1 a.2).1 (k+1) e g)/\((b.a a.1 a.2).2=T->∃c,sx { (b.a a.1 a.2).1 with an:=b.an.eraseIdx k} 0 c g):=by
 have n:=(Ul.1 h).1;have o:b.an.length-k=(b.an.length-(k+1))+1:=by omega
 have p:=(Ghs.rP b a.1 a.2).1;obtain⟨f,d,i,r⟩:=m;rw[o]at f d i;rw[tK,h]at f;rw[ay.h,h]at d i;dsimp only at f d i;refine⟨f.1,λj=>?_,λj=>?_⟩;refine⟨?_,?_,?_,?_⟩;grind;grind;grind;grind;rw[UG j]at d;obtain⟨l,q⟩:=d rfl;rw[p]at l q;obtain⟨c,rfl⟩:∃c,e=c+1:=⟨e-1,by omega⟩
 refine⟨c,?_⟩;have:=sx.a l (by rw[VQ n];omega)
 grind
def yS(a b:Nat)(c:World):Nat:=match c.cell? ⟨a,b*11+10,N⟩with
 |some (.slice _ d _)=>d
 |_=>0
def P8{a b c e d f}(g:c.cell? ⟨a,b*11+10,N⟩=S (L e d f)):yS a b c=d:=by unfold yS;rw[g]
def Pn.j{e:World}{f:Dn}{g a:Nat}{h:Option Addr}{i:List (Nat×Array Value×TypeId)}{j:AN}{b:Nat}{c:World}{d:ay}(k:Pn e f g a h i j b c d):yS a b c=d.an.length:=by obtain⟨m,n,l⟩:=k.l;exact P8 l.a
def O3{w x k g y z A e aG l}(a1:Pn w x k g y z A e aG l)(h f)(a2:vg l h f)(u:(l.an.length:Int)<4000):
 Cr 143 #[P (S ⟨k,0,N⟩),.int J e,.int J h,mv f.a] aG (.tuple #[]) λb3=>Pn w x k g y z A e b3 (tH l h f):=by
 obtain⟨bE,bF,bG,aH,a3,i⟩:=a1.a;have cv:=i.g;have cw:(h:Int)<1000:=by have:=i.f;have:=a2.1.2.1;omega
 obtain⟨v,a4⟩:∃v:Array Value,v=(dy f.a).toArray:=⟨_,rfl⟩
 obtain⟨X,a5⟩:=ah aG.heap.size;obtain⟨b4,a6⟩:=ah (aG.alloc (.cells (dy f.a).toArray 76));have Y(_:=()):Pn w x k g y ((X,v,76)::z) A e b4 l/\v=(dy f.a).toArray/\vg l h f/\(l.an.length:Int)<4000:=by refine⟨?_,a4,a2,u⟩;rw[a5,a6,a4];exact a1.i _ _
 have a7:=@aC _ _ a6 a5;obtain⟨a8,a9⟩:=ah f.a;have aI:=@af _ a9;rw[<-a9];clear a1 i a2 u a4 a5 a6 a9;go_enter func143,ntmps143;go_wp2_with fail;refine Uq (by have:=E0 Y.1 Y.2.2.1.1.1 h Y.2.2.1.1.2.1 f Y.2.2.1.1.2.2;rw[a7.1,<-aI]at this;exact this) ?_;rintro b5 Z ⟨rfl,C⟩;rw[<-a7.2];obtain⟨j,aJ⟩:=ah ((l.a h f).1);obtain⟨bH,ba⟩:=ah ((l.a h f).2);rw[<-aJ]at C;rw[<-ba];have bI:j.an=l.an:=by rw[aJ];exact(Ghs.rP l h f).1
 have r(_:=()):Pn w x k g y ((X,v,76)::z) A e Z j/\j=(l.a h f).1/\bH=(l.a h f).2/\(j.an.length:Int)<4000:=⟨C,aJ,ba,by rw[bI];exact Y.2.2.2⟩
 clear C aJ ba bI;cases bH with
 |false=>
  obtain⟨bE,bF,bG,_,_,i⟩:=r.1.a;obtain⟨aH,a3,s⟩:=r.1.l;obtain⟨H,bb⟩:=r.1.g;dsimp only at H bb;rw[Y.2.1,<-aI]at H;have bc:=H.a 0;have bd:=H.a 1;have be:=H.a 2;have bf:=H.a 3;simp[dy]at bc bd be bf;have bJ:=H.b;have am:=i.d;have ao:=i.c;have ab:=i.a;have aK:=i.e;have K:=s.a;have bg:=i.b (e*11+10);have aL:=s.b;have aM:=s.c;have bh:=s.e;have bi:=r.2.2.2;obtain⟨p,u⟩:=ah j.an.length;rw[<-u]at K aL bi;have bj:=@aC _ _ s u;clear i H s u;go_upto_region 3 with fail;go_cut [] λbk=>Pn w x k g y ((X,v,76)::z) A e bk {j with an:=j.an++[(h,f)]};case first=>
   go_region_law (refine mj rfl (.tmp 31) (.tmp 35) 218 rfl 289 (.agg #[I J 0,I J 0,I J 0,I J 0,B F]) 5 40 underlying218 BP rfl aH p a3 rfl (hQ j.an) (aL.drew.c _) ⟨Z.heap.size,0,N⟩ 1 1 (by omega) rfl (I J h::dy a8) rfl (ke Z.drew (I J h::dy a8) 289 _ (by simp)) (by intro o t;simp only[dy,UZ,U9,Wc]at t;obtain rfl|rfl|rfl|rfl|rfl:=t<;>rfl) (by omega) (by omega) ?_;intro bK bL D ac bM bN;have ap:ae (ag aH) Z D:=(((ae.a _ Z).drew).b _).c bN;have bl:=(ap.f g (e*11+10) ab λa=>aM g a rfl).trans K;have bm:=(ap.h g (e*11+10) ab λa=>aM g a rfl).trans bg;have bn:=(ap.f k 1 ao λa=>bh k a rfl).trans am);all_goals
    have M(_:=()):Pn w x k g y ((X,v,76)::z) A e (D.setCell ⟨g,e*11+10,N⟩ (L bK (p+1) bL)) {j with an:=j.an++[(h,f)]}:=by
     have O:(j.an++[(h,f)]).length=p+1:=by rw[Uu,bj.2];rfl
     have:=bj.1.d Z D (j.an++[(h,f)]) bK bL (ae.a _ _) (by
      rw[O,yR];have b6:hQ [(h,f)]=I J h::dy a8:=by rw[aI];simp[hQ,wB]
      rw[b6];exact ac) (λb Q=>by obtain⟨a,_⟩|⟨a,_⟩:=bM;rw[a]at Q;exact Ur Q;rw[a]at Q;right;rw[show b=_ from cM.1 Q];simp) ap
     rw[O]at this;exact this
    clear ac bM bN ap bl bm bn am ao ab aK K bg aL aM bh bi bc bd be bf bJ bb;go_wp2_with fail;go_meet;case rel=>exact M
  case rest=>
  have M:=@af _ hcut;clear hcut am ao ab aK K bg aL aM bh bi bc bd be bf bJ bb;go_wp2;(try simp only[Exit.inBlock,Exit.then]);refine UO (VX rfl _ _ _) rfl ?_;refine⟨rfl,?_⟩;unfold tH;rw[<-r.2.2.1,<-r.2.1];exact M.d
 |true=>
  have b7(_:=()):sx j 0 j.an.length (tH l h f):=by
   have bO:=Y.2.2.1.2 r.2.2.1.symm;rw[<-r.2.1]at bO;have b9:=sx.a bO (UF _);have a:tH l h f=j.v (j.an.length+1):=by unfold tH;rw[<-r.2.2.1,<-r.2.1];rfl
   rw[a];exact b9
  clear aI a7;go_wp2_with fail;go_loopw [9] (λR wr=>∃(b:Nat)(c:ay)(bo:Nat),R= .int J b/\Pn w x k g y ((X,v,76)::z) A e wr c/\b<=c.an.length/\(c.an.length:Int)<4000/\sx c b bo (tH l h f)) λR wr=>yS g e wr*5000+(5000-(intOf R).toNat);case atStart=>exact⟨0,j,j.an.length,rfl,r.1,Vl _,r.2.2.2,b7⟩
  case round=>
   obtain⟨b,c,bo,rfl,C,Q,bp,aN⟩:=hrel;have aq:=@gA _ _ _ _ C Q bp aN;obtain⟨bE,bF,bG,_,_,i⟩:=C.a;obtain⟨aH,a3,s⟩:=C.l;have am:=i.d;have ao:=i.c;have ab:=i.a;have aK:=i.e;have K:=s.a;have ca:(b:Int)<4000:=by omega
   have bj:=@af _ s;by_cases bq:b<c.an.length
   .obtain⟨ar,aO⟩:∃ar,c.an[b]?=S ar:=⟨_,Um bq⟩
    obtain⟨aP,br,bs⟩:=aN.b aO;obtain⟨cb,cc,cd,bt⟩:=ja s.b (by omega);subst cd;have ad:∀d R,d<5->(wB ar)[d]?=S R->wr.cell? ⟨cb,cc+(b*5+d),N⟩=S R:=λd R q ce=>bt.a (b*5+d) R (by rw[<-ce];exact pD GH c.an b ar aO d q);have bu:=ad 0 _ (by omega) rfl;have aQ:=ad 1 _ (by omega) rfl;have aR:=ad 2 _ (by omega) rfl;have aS:=ad 3 _ (by omega) rfl;have aT:=ad 4 _ (by omega) rfl;simp only[Vn,<-UI]at bu aQ aR aS aT;have cg:=bt.b;obtain⟨ai,au⟩:=ar;dsimp only at bu aQ aR aS aT aP br bs;have av:=@gA _ _ _ _ aO aP br bs;have cx:(ai:Int)<1000:=by have:=i.f;have:=aP.2.1;omega
    obtain⟨aU,bv⟩:=ah au.a;rw[<-bv]at aQ aR aS aT;have ch:=@af _ bv;have bP:(b:Int)<c.an.length:=by omega
    obtain⟨p,u⟩:=ah c.an.length;rw[<-u]at K bP;have m(_:=()):p=c.an.length/\b<p/\(p:Int)<4000:=⟨u,by omega,by omega⟩
    clear C Q bp aN i s ad bt aP br bs aO bv bq u;go_wp2_with fail;refine Uq (by have:=E0 (aq.1.b ((ae.a aa wr).b (.cells #[I J ai,I J aU.a,I J aU.c,I J aU.b,B aU.d] 289))) av.2.1.1 ai av.2.1.2.1 au av.2.1.2.2;rw[<-ch]at this;exact this) ?_;rintro b5 D ⟨rfl,bw⟩;obtain⟨aw,aV⟩:=ah ((c.a ai au).1);obtain⟨ci,bx⟩:=ah ((c.a ai au).2);rw[<-aV]at bw;rw[<-bx];have bQ:aw.an=c.an:=by rw[aV];exact(Ghs.rP c ai au).1
    have n:=@gA _ _ _ _ bw aV bx bQ;clear bw aV bx bQ am ao ab aK K bu aQ aR aS aT cg;cases ci with
    |false=>
     go_wp2;refine⟨⟨b+1,aw,bo,by go_num,n.1,?_,?_,?_⟩,?_⟩;rw[n.2.2.2];have:=m;omega;rw[n.2.2.2];have:=m;omega;rw[n.2.1];exact av.2.2.1 n.2.2.1.symm;have E:=aq.1.j;have U:=n.1.j;rw[n.2.2.2]at U;have:=m;simp[intOf,E,U];omega
    |true=>
     obtain⟨cy,cz,cA,_,_,aj⟩:=n.1.a;obtain⟨cB,ax,az⟩:=n.1.l;have aW:=aj.d;have ak:=aj.c;have V:=aj.a;have cj:=aj.e;have aA:=az.a;have aX:=aj.b (e*11+10);have ac:=az.b;obtain⟨al,aY,ck,aZ⟩:=ja ac (by rw[n.2.2.2];have:=m;omega);subst ck;have bR:p<=ax:=by have:=ac.2.1;rw[n.2.2.2]at this;have:=m;omega
     rw[n.2.2.2,<-m.1]at aA;have cl(_:=()):∀d o,(hQ (c.an.take b))[d]?=S o->D.cell? ((⟨al,aY,N⟩:Addr).add d)=S o:=λd o t=>by rw[Va];have q:=(Ul.1 t).1;refine aZ.a d o ?_;rw[n.2.2.2];rw[P7]at t q;rw[UK]at q;rw[V2 (by omega)]at t;exact t
     have cm(_:=()):∀d o,(hQ (c.an.drop (b+1)))[d]?=S o->D.cell? ((⟨al,aY+(b+1)*5,N⟩:Addr).add d)=S o:=λd o t=>by rw[Va,UI];refine aZ.a ((b+1)*5+d) o ?_;rw[n.2.2.2];rw[P6,VC]at t;exact t
     have bz:=@cf _ _ _ az bR aZ.b;have cC:=az.c al (eN _ _);have cD:(b:Int)<=ax:=by have:=m;omega
     have bP:(b:Int)<p:=by have:=m;omega
     have cE:(p:Int)<=ax:=by omega
     have aB:=@aC _ _ ca (m.2.2);clear aj az ac aZ bR;go_upto_region 12 with (at_builtin;refine zp _ rfl (.tmp 71) (.tmp 81) 218 rfl 289 (.agg #[I J 0,I J 0,I J 0,I J 0,B F]) 5 40 underlying218 BP rfl N 0 0 rfl [] (RV.d _ _ _) (S ⟨al,aY,N⟩) b ax rfl (hQ (c.an.take b)) (by rw[uS,UK];have:=m;congr 1;omega) (λ_=>⟨_,rfl,cl⟩) (GI _) (by have:=aB;omega) (by have:=aB;omega) ?_;intro E cn bA bB bS bT)
     simp only[Ve,VG]at bB;have W:=bT.d λe _ a=>b8 e a;have a0:∀d,ag E d->d=D.heap.size:=λd q=>by obtain⟨a,_⟩|⟨a,_⟩:=bS;rw[a]at q;exact(b8 d q).elim;rw[a]at q;exact cM.1 q
     have aD:=@cf _ _ _ W a0 bB;obtain⟨G,bU⟩:=ah (b+1);have aE:=@af _ bU;have co:IntKind.i64.wrap ((b:Int)+1)=(G:Int):=by rw[VM];omega
     have cp:(0:Int)<=(G:Int):=by omega
     have cq:(G:Int)<=p:=by have:=m;omega
     have cr(_:=()):∀d o,(hQ (c.an.drop G))[d]?=S o->bA.drew.cell? ((⟨al,aY+G*5,N⟩:Addr).add d)=S o:=λd o t=>by have:=cm () d o (by rw[<-aE];exact t);rw[<-aE]at this;rw[Va]at this|-;exact((W.drew).f al _ bz.2.2 λa=>a).trans this
     replace aW:=(W.f k 1 ak λa=>a).trans aW;replace aA:=(W.f g (e*11+10) V λa=>a).trans aA;replace aX:=(W.h g (e*11+10) V λa=>a).trans aX;have bV:=@aC _ _ ak V;replace ak:k<bA.heap.size:=Un ak W.size;replace V:g<bA.heap.size:=Un V W.size;have bC:¬ag E g:=λa=>by have:=a0 g a;have:=bV.2;omega
     have bW:¬ag E k:=λa=>by have:=a0 k a;have:=bV.1;omega
     clear bB bS bT W a0 bU;go_cut [] λbk=>Pn w x k g y ((X,v,76)::z) A e bk {aw with an:=c.an.eraseIdx b};case first=>
      by_cases cF:ax=G;all_goals
       go_region_law (refine S7 rfl (.tmp 88) (.tmp 99) 218 rfl 289 (.agg #[I J 0,I J 0,I J 0,I J 0,B F]) 5 40 underlying218 BP rfl E b cn rfl (hQ (c.an.take b)) (aD.2.2.drew) _ _ _ rfl (hQ (c.an.drop G)) (by rw[uS,U5,<-m.1]) (λcG=>by first|exact⟨_,rfl,cr⟩|(exfalso;have:=m;have:=bz.2.1;have:=aE;omega)) (GI _) (by have:=aB;omega) (by have:=aB;omega) ?_;intro U bX bY bZ b0 aF;have bl:=(aF.f g (e*11+10) V bC).trans aA;have bm:=(aF.h g (e*11+10) V bC).trans aX;have bn:=(aF.f k 1 ak bW).trans aW);all_goals
        have b1:=(ae.a aa D).g (((aD.1.d (ex':=ag E) λ_ _ a=>a.elim).drew).c aF) (λe cH f=>by have:=aD.2.1 e f;omega);have M(_:=()):Pn w x k g y ((X,v,76)::z) A e (bY.setCell ⟨g,e*11+10,N⟩ (L U (b+(p-G)) bX)) {aw with an:=c.an.eraseIdx b}:=by
         have O:(c.an.eraseIdx b).length=b+(p-G):=by have:=m;have:=aE;rw[VQ (by omega)];omega
         have:=bz.1.d D bY (c.an.eraseIdx b) U bX (ae.a _ _) (by rw[O,Vo,yR,<-aE];exact bZ) (λd q=>by right;obtain⟨a,_⟩|⟨a,_⟩:=b0;rw[a]at q;have:=aD.2.1 d q;omega;rw[a]at q;rw[show d=_ from cM.1 q];exact aD.1.size) (b1.d λ_ _ a=>a.elim)
         rw[O]at this;exact this
        clear b1 bZ b0 aF bl bm bn;go_wp2_with fail;go_meet;case rel=>exact M
     case rest=>
     have M:=@af _ hcut;clear hcut aW ak V cj aA aX bC bW co cp cq;go_wp2;obtain⟨cs,b2⟩:=av.2.2.2 n.2.2.1.symm;rw[<-n.2.1]at b2;have O:(c.an.eraseIdx b).length=p-1:=by have:=m;rw[VQ (by omega)];omega
     refine⟨⟨0, {aw with an:=c.an.eraseIdx b},cs,by go_num,M,Vl _,?_,b2⟩,?_⟩;show ((c.an.eraseIdx b).length:Int)<4000;rw[O];have:=m;omega;have E:=aq.1.j;have U:=M.j;have ct:=O;rw[ct]at U;have:=m;have:=aB;simp[intOf,E,U];omega
   .have bD:b=c.an.length:=by omega
    have cu(_:=()):c=tH l h f:=by have:=aq.2.2.2;rw[bD]at this;exact this.d
    rw[<-bD]at K;clear C Q bp aN i s bq bD;go_wp2;go_end0;refine⟨rfl,?_⟩;rw[<-cu];exact aq.1.d
end Go.Proofs.YtlfijfodklhplaaGreat
