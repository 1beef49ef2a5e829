import Derived.Test.YtlfijfodklhplaaGreatAl16
import Derived.Deep.RegionHeld3
set_option maxRecDepth 100000
set_option maxHeartbeats 2000000
set_option linter.all false
open Go.RowKit Go.Proofs.Tryz
open Go.Value renaming int->I,slice->L,pointer->P,bool->B
open Go.IntKind renaming i64->J
open Option renaming some->S,none->N
open Bool renaming true->T,false->F
namespace Go.Proofs.YtlfijfodklhplaaGreat
def Cy(a):a.b.ai.length=a.ai.length/\(jQ a->jQ a.b):=by unfold ay.b;split;split;exact⟨rfl,λb=>b.b rfl⟩;refine⟨by simp[ay.d,ay.e],λb=>?_⟩;exact jQ.b (jQ.d (jQ.b b rfl) _ _) rfl;exact⟨rfl,id⟩
def Im(a:ay):a.b.aD.length<=a.aD.length+1:=by unfold ay.b;split;split;simp;simp[ay.d,ay.e];omega
def TQ(a:ay):a.b.aM<=a.aM:=by unfold ay.b;split;split;simp;simp[ay.d,ay.e];omega
def y8(a b):(a.f b).cB=a.cB/\(a.f b).aD=a.aD/\(a.f b).ai.length=a.ai.length/\(jQ a->jQ (a.f b)):=by unfold ay.f;split;exact⟨rfl,rfl,by simp[ay.e],λc=>c.d _ _⟩;exact⟨rfl,rfl,rfl,id⟩
def P2(c b j)(a e d:Nat)(g)(G:aY g c b j)(H:jQ b)(aB:a<b.ai.length)(aD:(b.aD.length:Int)<999000000000):
 Cr 201 #[P (S ⟨c,0,N⟩),.int J a,.agg #[.int J e,.int J d]] g (B (b.r a e d).2) λao=>∃h,aY ao c (b.r a e d).1 h/\cT g ao c j h:=by
 obtain⟨aE,wr⟩:=Cy b;have aF:=Im b;have ap(_:=()):∀Y,ae aa g Y->_:=λY aG=>Cw c b j Y (G.b aG λ_ _ f=>f) H (by omega);have ar:=@af _ G.n;have r(_:=()):(b.b.aD.length:Int)<1000000000000/\jQ b.b/\a<b.b.ai.length/\(b.b.ai.length:Int)<1000:=⟨by omega,wr H,by omega,(wr H).a⟩
 have K(_:=()):b.r a e d=(if b.b.aM<e then (b.b,F)else if d≠b.b.cX then (b.b.d a .dG,T)else if b.b.cB=S a then ((b.b.f a).l,T)else ((b.b.f a).d a .dK,T)):=rfl;have aM:=G.a.b;clear G H aB aD aE wr aF;go_enter func201,ntmps201;go_wp2_with fail;obtain⟨Z,M⟩:=ah (g.alloc (.cells #[I J e,I J d] 315));have au:aq Z g.heap.size #[I J e,I J d] 315:=by rw[M];exact aq.e _ _ _
 have ab:ae aa g Z:=by rw[M];exact(ae.a aa g).b _
 rw[<-M];clear M;refine Uq (ap () Z ab) ?_;rintro O s ⟨rfl,i,Q,ac⟩;have R:=au.c ac.c (λf=>by have:=ar () _ f;omega);have t:=@aC _ _ Q ((cT.b c j ab).a ac);have ad:=@af _ R;have av:=R.a 0;simp at av;have aN:=R.b;have aO:=Q.a.b;obtain⟨-,aH, -⟩:=Q.cells;clear Q ac au ab R ap ar;generalize b.b=m at *;go_wp2_with fail;by_cases U:m.aM<e
 .have aI:(m.aM:Int)<e:=by omega
  have k(_:=()):b.r a e d=(m,F):=by rw[K,UG U]
  clear U K;generalize m.aM=ml at *;go_still_tail 6,(by kernel_rfl)
  go_wp2;go_ret;exact⟨by rw[k];rfl,i,by rw[k];exact t.1.b ((ae.a aa s).drew) λ_ _ f=>f,t.2.a (cT.b c i ((ae.a aa s).drew))⟩
 .have aI:(e:Int)<=m.aM:=by omega
  have k(_:=()):b.r a e d=(if d≠m.cX then (m.d a .dG,T)else if m.cB=S a then ((m.f a).l,T)else ((m.f a).d a .dK,T)):=by rw[K,Us U]
  clear U K;generalize m.aM=ml at *;go_still_tail 6,(by kernel_rfl)
  go_wp2_with fail;obtain⟨l,ag⟩:=ah s.drew;rw[<-ag];have u:ae aa s l:=by rw[ag];exact(ae.a aa s).drew
  have n:=@aC _ _ (t.1.b u λ_ _ f=>f) (t.2.a (cT.b c i u));have ai:=(ad.c u id).a 1;simp at ai;have aP:=(ad.c u id).b;have aQ:=n.1.a.b;obtain⟨_,_,aj,_⟩:=n.1.cells;clear av aH ag u t ad;by_cases V:d≠m.cX
  .have v(_:=()):b.r a e d=(m.d a .dG,T):=by rw[k,UG V]
   have aR:((d:Int)==(m.cX:Int))=F:=by rw[Uy];omega
   have aS:¬(d:Int)=m.cX:=by omega
   have ak(_:=()):∀o,ae aa l o->_:=λo al=>ri c m i a .dG o (n.1.b al λ_ _ f=>f) r.1;simp only[bV.b]at ak;clear V k;generalize m.cX=mn at *;go_still_tail 6,(by kernel_rfl)
   go_wp2_with fail;refine Uq (ak () _ ((ae.a aa l).drew)) ?_;rintro O w ⟨rfl,aJ,p,x⟩;have y(_:=()):∃h,aY w c (m.d a .dG) h/\cT g w c j h:=⟨aJ,p,(n.2.a (cT.b c i ((ae.a aa l).drew))).a x⟩
   clear p x ak ai aj;go_wp2;go_ret;exact⟨by rw[v];rfl,by rw[v];exact y⟩
  .have aw:d=m.cX:=by omega
   have ax(_:=()):∀o,ae aa l o->_:=λo al=>Gy c m i a o (n.1.b al λ_ _ f=>f) r.2.2.1 r.2.2.2;have v(_:=()):b.r a e d=(if m.cB=S a then ((m.f a).l,T)else ((m.f a).d a .dK,T)):=by rw[k,Us V]
   rw[<-aw]at aj;clear V k aw;go_still_tail 6,(by kernel_rfl)
   go_wp2_with fail;refine Uq (ax () _ ((ae.a aa l).drew)) ?_;rintro O w ⟨rfl,p,x⟩;have W:=@aC _ _ p ((n.2.a (cT.b c i ((ae.a aa l).drew))).a x);obtain⟨ay,az,aK,aA⟩:=y8 m a;obtain⟨_,_,_,_,_,_,_,z,_⟩:=p.cells;rw[ay]at z;have aT:=p.a.b;have am(_:=()):((m.f a).aD.length:Int)<1000000000000/\jQ (m.f a):=⟨by rw[az];exact r.1,aA r.2.1⟩
   clear p x ax ai aj ay az aK aA n;by_cases X:m.cB=S a
   .have A(_:=()):b.r a e d=((m.f a).l,T):=by rw[v,UG X]
    have q:=@af _ (Cq c (m.f a) i w W.1 am.2 am.1);rw[X]at z;simp only[oi]at z;go_wp2_with fail;refine Uq q ?_;rintro O C ⟨rfl,an,D,E⟩;have y(_:=()):∃h,aY C c (m.f a).l h/\cT g C c j h:=⟨an,D,W.2.a E⟩
    clear D E q z;go_wp2;go_ret;exact⟨by rw[A];rfl,by rw[A];exact y⟩
   .have A(_:=()):b.r a e d=((m.f a).d a .dK,T):=by rw[v,Us X]
    have q:=@af _ (ri c (m.f a) i a .dK w W.1 am.1);simp only[bV.b]at q;have aL:¬oi m.cB=(a:Int):=λf=>X (yT (f.trans (rm a).symm));have aU:(oi m.cB==(a:Int))=F:=by rw[Uy];exact aL
    generalize oi m.cB=mt at *;go_wp2_with fail;refine Uq q ?_;rintro O C ⟨rfl,an,D,E⟩;have y(_:=()):∃h,aY C c ((m.f a).d a .dK) h/\cT g C c j h:=⟨an,D,W.2.a E⟩
    clear D E q z;go_wp2;go_ret;exact⟨by rw[A];rfl,by rw[A];exact y⟩
def PE(d a s)(b e:Nat)(g)(p:aY g d a s)(ad:jQ a)(aK:b<a.ai.length)(aL:(a.aM:Int)<1000)(aM:(a.aD.length:Int)<999000000000):
 Cr 199 #[P (S ⟨d,0,N⟩),.int J b,.agg #[.int J e]] g (B (a.m b e).2) λaw=>∃l,aY aw d (a.m b e).1 l/\cT g aw d s l:=by
 obtain⟨aN,wr⟩:=Cy a;have aO:=Im a;have aP:=TQ a;have ax(_:=()):∀ag,ae aa g ag->_:=λag aQ=>Cw d a s ag (p.b aQ λ_ _ c=>c) ad (by omega);have az:=@af _ p.n;have x(_:=()):(a.b.aD.length:Int)<1000000000000/\b<a.b.ai.length/\(a.b.ai.length:Int)<1000/\(a.b.aM:Int)<1000:=⟨by omega,by omega,(wr ad).a,by omega⟩
 have t(_:=()):a.m b e=(if e<a.b.aM then ((a.b.e b 1).j b a.b.aM a.b.cX (a.b.aP==1),T)else if a.b.c b=0 then (a.b,F)else (a.b.d b (.aL (a.b.aM+1) (a.b.p b) T),T)):=rfl;have aX:=p.a.b;clear p ad aK aM aN wr aO aP aL;go_enter func199,ntmps199;go_wp2_with fail;obtain⟨ai,K⟩:=ah (g.alloc (.cells #[I J e] 193));have aA:aq ai g.heap.size #[I J e] 193:=by rw[K];exact aq.e _ _ _
 have aj:ae aa g ai:=by rw[K];exact(ae.a aa g).b _
 rw[<-K];clear K;refine Uq (ax () ai aj) ?_;rintro aB u ⟨rfl,j,M,O⟩;have ak:=aA.c O.c (λc=>by have:=az () _ c;omega);have h:=@aC _ _ M ((cT.b d s aj).a O);have al:=ak.a 0;simp at al;have aZ:=ak.b;have a0:=M.a.b;obtain⟨-,Q, -⟩:=M.cells;clear M O aA aj ak ax az;generalize a.b=m at *;obtain⟨c,y⟩:∃c,m.ai[b]?=S c:=⟨_,Um x.2.1⟩
 obtain⟨k,v,R,am,U,an,aD⟩:=h.1.o b c y;obtain⟨-, -, -,z, -⟩:=h.1.cells;rw[R]at z;have aR:¬d=k:=λc=>h.1.c (by rw[R,c];exact eN k v);have a1:¬k=d:=λc=>aR c.symm;have aE:(b:Int)<m.ai.length:=by have:=x.2.1;omega
 have V:m.c b=c.2:=by unfold ay.c;rw[y]
 have aF:m.p b=c.1:=by unfold ay.p;rw[y]
 rw[V,aF]at t;have ao:=h.1.p b 1 c y k v R;have aG:=@aC _ _ ao.1 (h.2.a ao.2);have a2(_:=()):m.ai.length=m.ai.length:=rfl;obtain⟨W,X⟩:=c;simp only at U an t;clear ao y V aF R;generalize m.ai.length=ml' at z aE;go_wp2_with fail;by_cases Y:e<m.aM
 .have A:(e:Int)<m.aM:=by omega
  have q(_:=()):a.m b e=((m.e b 1).j b m.aM m.cX (m.aP==1),T):=by rw[t,UG Y]
  clear Y t;generalize ap:m.aM=ml at Q A;go_still_tail 7,(by kernel_rfl)
  go_wp2_with fail;obtain⟨f,i⟩:=ah ((u.setCell ⟨k,v+b*2+1,N⟩ (I J 1)).drew);have n:ae aa (u.setCell ⟨k,v+b*2+1,N⟩ (I J 1)) f:=by rw[i];exact(ae.a aa _).drew
  rw[<-i];have o:=@aC _ _ (aG.1.b n λ_ _ c=>c) (aG.2.a (cT.b d j n));obtain⟨aH,C,aI, -⟩:=o.1.cells;have aS:=o.1.a.b;have w(_:=()):∀r,ae aa f r->_:=λr ar=>Cj d (m.e b 1) j b m.aM m.cX (m.aP==1) r (o.1.b ar λ_ _ c=>c) x.1;simp only[ay.e]at aH C aI;have V:(((m.aP:Nat):Int)==1)=(m.aP==1):=by
   by_cases p:m.aP=1;rw[p];rfl;have aT:(m.aP==1)=F:=by rw[Uy];exact p
   rw[aT,Uy];omega
  clear i n z U an aD am aE al Q ap A;generalize m.aM=mlv at *;generalize m.cX=mnm at *;generalize aU:(m.aP==1)=sb at *;clear aU;generalize m.aP=mst at *;go_still_tail 16,(by kernel_rfl)
  go_wp2_with fail;(try simp only[V]);refine Uq (w () _ ((ae.a aa f).drew)) ?_;rintro aB D ⟨rfl,au,E,G⟩;have av(_:=()):∃l,aY D d (a.m b e).1 l/\cT g D d s l:=⟨au,by rw[q];exact E,(o.2.a (cT.b d j ((ae.a aa f).drew))).a G⟩
  clear E G w aH C aI;go_wp2;go_ret;exact⟨by rw[q];rfl,av⟩
 have A:(m.aM:Int)<=e:=by omega
 have q(_:=()):a.m b e=(if X=0 then (m,F)else (m.d b (.aL (m.aM+1) W T),T)):=by rw[t,Us Y]
 clear Y t;have Z:=@af _ ((ae.a aa u).drew);by_cases ab:X=0
 .have H(_:=()):a.m b e=(m,F):=by rw[q,UG ab]
  subst ab;clear q;generalize m.aM=ml at Q A;go_still_tail 7,(by kernel_rfl)
  go_wp2;go_ret;exact⟨by rw[H];rfl,j,by rw[H];exact h.1.b Z λ_ _ c=>c,h.2.a (cT.b d j Z)⟩
 .have H(_:=()):a.m b e=(m.d b (.aL (m.aM+1) W T),T):=by rw[q,Us ab]
  have O:((X:Int)==0)=F:=by rw[Uy];omega
  have a3:¬(X:Int)=0:=by omega
  have w(_:=()):∀r,ae aa u r->_:=λr ar=>ri d m j b (.aL (m.aM+1) W T) r (h.1.b ar λ_ _ c=>c) x.1;simp only[bV.b]at w;have aJ:wrap64 ((m.aM:Int)+1)=(m.aM:Int)+1:=by unfold wrap64;have:=x.2.2.2;omega
  clear q ab;go_still_tail 7,(by kernel_rfl)
  go_wp2_with fail;obtain⟨f,i⟩:=ah u.drew;have n:ae aa u f:=by rw[i];exact Z
  rw[<-i];have o:=@aC _ _ (h.1.b n λ_ _ c=>c) (h.2.a (cT.b d j n));have ac:=@af _ (w () f.drew (n.c ((ae.a aa f).drew)));obtain⟨-,C, -⟩:=o.1.cells;have aV:f.cell? ⟨d,3,N⟩=S (L (S ⟨k,v,N⟩) ml' j.ec):=by rw[i];exact z
  have aW:f.cell? ⟨k,v+b*2,N⟩=S (I J W):=by rw[i];exact U
  have aS:=o.1.a.b;have a4:k<f.heap.size:=by rw[i];exact am
  clear i n z U an aD am al Q A Z w;rw[show ((m.aM+1:Nat):Int)=(m.aM:Int)+1 from by omega]at ac;generalize ap:m.aM=mlv at C aJ ac;go_still_tail 17,(by kernel_rfl)
  go_wp2_with fail;simp only[aJ];refine Uq ac ?_;rintro aB D ⟨rfl,au,E,G⟩;have av(_:=()):∃l,aY D d (a.m b e).1 l/\cT g D d s l:=⟨au,by rw[H,ap];exact E,(o.2.a (cT.b d j ((ae.a aa f).drew))).a G⟩
  clear E G ac C aV aW;go_wp2;go_ret;exact⟨by rw[H];rfl,av⟩
def ay.x(a:ay)(b c d:Nat)(e:Bool):ay:= {a with aM:=c,cX:=d,aP:=if e then 1 else 2,cq:=S b,dj:=N,bw:=1001}
def H8(a:ay)(b c d e):(a.j b c d e).ai=a.ai/\(a.j b c d e).aD.length=a.aD.length+1:=by unfold ay.j;split<;>exact⟨rfl,by simp[ay.d]⟩
def H9(b:ay)(c d e f a k)(g:k<a):b.o c d e f (a-k) k=(if k≠c/\b.c k=1 then b.j k d e f else b).o c d e f (a-(k+1)) (k+1):=by rw[show a-k=(a-(k+1))+1 by omega,ay.o]
structure qd(r wr:World)(n:Nat)(h:ay)(s:Np)(o i j:Nat)(l:Bool)(q k:Nat)(m:ay)(p:Np):Prop where
 b:aY wr n m p
 f:cT r wr n s p
 c:m.ai=h.ai
 d:m.aD.length<=h.aD.length+k
 e:m.o o i j l (h.ai.length-k) k=(h.x o i j l).o o i j l h.ai.length 0
 a:aq wr q #[.int J (i:Int),.int J (j:Int),B l] 313
 g:¬iL n p q
def qd.i{e wr w' b f g h c i j l m k n}(a:qd e wr b f h i j l n m k g c)(d:ae aa wr w'):qd e w' b f h i j l n m k g c:=
 ⟨a.b.b d λ_ _ o=>o,a.f.a (cT.b b c d),a.c,a.d,a.e,a.a.c d id,a.g⟩
def qd.j{m wr w' f h b n o i j c d p k e}(a:qd m wr f h n j c d e p k b o)(q:k<h.ai.length)(r:k≠j/\b.c k=1)(s:aY w' f (b.j k c d e) i)(l:cT wr w' f o i):qd m w' f h n j c d e p (k+1) (b.j k c d e) i:=by obtain⟨t,u⟩:=H8 b k c d e;refine⟨s,a.f.a l,by rw[t];exact a.c,by rw[u];have:=a.d;omega,?_,a.a.c l.c a.g,λg=>?_⟩;have:=a.e;rw[H9 _ _ _ _ _ _ _ q,UG r]at this;exact this;obtain g|g:=l.e _ g;exact a.g g;have:=a.a.b;omega
def qd.h{e wr f b c g h d i j l k m}(a:qd e wr f b g d i j m l k c h)(n:k<b.ai.length)(o:¬(k≠d/\c.c k=1)):qd e wr f b g d i j m l (k+1) c h:=by refine⟨a.b,a.f,a.c,by have:=a.d;omega,?_,a.a,a.g⟩;have:=a.e;rw[H9 _ _ _ _ _ _ _ n,Us o]at this;exact this
def N9(d a p)(f e g:Nat)(Y q)(ao:aY q d a p)(aV:jQ a)(aW:(a.aD.length:Int)<990000000000):
 Cr 200 #[P (S ⟨d,0,N⟩),.int J f,.agg #[.int J e,.int J g,B Y]] q (.tuple #[]) λZ=>∃A,aY Z d (a.y f e g Y) A/\cT q Z d p A:=by
 have ab:=@af _ ao.n;have bh:=ao.a.b;have E:=@cf _ _ _ ao aV aW;clear ao aV aW;go_enter func200,ntmps200;go_wp2_with fail;obtain⟨aF,ap⟩:=ah (q.alloc (.cells #[I J e,I J g,B Y] 313));obtain⟨x,ar⟩:=ah q.heap.size;have W:aq aF x #[I J e,I J g,B Y] 313:=by rw[ap,ar];exact aq.e _ _ _
 have aG:ae aa q aF:=by rw[ap];exact(ae.a aa q).b _
 have bi:¬d=x:=by omega
 have bj:¬x=d:=by omega
 have u:=E.1.b aG λ_ _ c=>c;have au:=u.a.d 0;have a6:=u.a.d 1;have a7:=u.a.d 2;have av:=u.a.d 4;have aw:=u.a.d 5;have ax:=u.a.d 6;obtain⟨ac,a8,a9, -,ad,ag,ai, -⟩:=u.cells;have v:=W.a 0;have w:=W.a 1;have k:=W.a 2;simp at v w k;have ba:=u.a.b;have bb:=W.b;rw[<-ap,<-ar];have C:=@gA _ _ _ _ W aG u ar;clear ap W aG u ar;generalize a.aP=ns at *;generalize a.aM=nl at *;generalize a.cX=nn at *;generalize oi a.cq=ni at *;generalize oi a.dj=nb at *;generalize a.bw=nw at *;go_region_held3 (λZ=>Z.cell? ⟨x,0,N⟩=S (I J e)/\Z.cell? ⟨x,1,N⟩=S (I J g)) (go_keep) (fail);have r:=C.2.2.1.d (n':= {a with aM:=e}) 1 (I J e) (by simp[eO]) rfl rfl rfl;have aH:=r.1.d (n':= {a with aM:=e,cX:=g}) 2 (I J g) (by simp[eO]) rfl rfl rfl;have az:=aH.1.d (n':= {a with aM:=e,cX:=g,aP:=2}) 0 (I J 2) (by simp[eO]) rfl rfl rfl;have aA:=(r.2.a aH.2).a az.2;obtain⟨aX,aZ⟩:=ah (((aF.setCell ⟨d,1,N⟩ (I J e)).setCell ⟨d,2,N⟩ (I J g)).setCell ⟨d,0,N⟩ (I J 2));rw[<-aZ]at az aA|-;have s:=(ae.a aa aX).drew;obtain⟨a0,a1⟩:=ah aX.drew;rw[<-a1]at s|-;have l:=az.1.b s λ_ _ c=>c;have t:=((cT.b d p C.2.1).a aA).a (cT.b d p s);have aB:=(C.1.c aA.c λc=>by have:=ab () _ c;have:=C.2.2.2;omega).c s id;clear r aH az aA aZ s a1 ac a8 a9 ad ag ai v w k au a6 a7 av aw ax ba bb;have aI:=l.d (n':= {a with aM:=e,cX:=g,aP:=2,cq:=S f}) 4 (I J f) (by simp[eO,oi]) rfl rfl rfl;have aJ:=aI.1.d (n':= {a with aM:=e,cX:=g,aP:=2,cq:=S f,dj:=N}) 5 (I J (-1)) (by simp[eO,oi]) rfl rfl rfl;have aK:=aJ.1.d (n':= {a with aM:=e,cX:=g,aP:=2,cq:=S f,dj:=N,bw:=1001}) 6 (I J 1001) (by simp[eO]) rfl rfl rfl;have a2:=(aI.2.a aJ.2).a aK.2;have au:=l.a.d 0;have av:=l.a.d 4;have aw:=l.a.d 5;have ax:=l.a.d 6;obtain⟨ac, -, -,aL,ad,ag,ai, -⟩:=l.cells;have k:=aB.a 2;simp at k;have a3:=aB.b;have a4:=l.a.b;have X:=@cf _ _ _ l t aB;have aj:=@aC _ _ aK.1 a2;clear aI aJ aK a2 l t aB;simp only at ac aL ad ag ai;generalize oi a.cq=ni at *;generalize oi a.dj=nb at *;generalize a.bw=nw at *;cases Y with
 |true=>
  have y:=aj.1.d (n':=a.x f e g T) 0 (I J 1) (by simp[eO,ay.x]) rfl rfl rfl;obtain⟨aN,G⟩:=ah ((((a0.setCell ⟨d,4,N⟩ (I J f)).setCell ⟨d,5,N⟩ (I J (-1))).setCell ⟨d,6,N⟩ (I J 1001)).setCell ⟨d,0,N⟩ (I J 1));rw[<-G]at y;have H:=aj.2.a y.2;have aO(_:=()):qd q aN d a p f e g T x 0 (a.x f e g T) p:=⟨y.1,X.2.1.a H,rfl,by simp[ay.x],rfl,X.2.2.c H.c (λc=>by have:=ab () _ c;have:=C.2.2.2;omega),λc=>by have:=ab () _ c;have:=C.2.2.2;omega⟩
  have D:=@af _ (E.2.1.a);go_wp2_with fail;rw[<-G];clear G y H aj X ac aL ad ag ai au av aw ax k a3 a4;go_loopw [40] (λK wr=>∃(b:Nat)(j:ay)(n:Np),b<=a.ai.length/\K= .int J b/\qd q wr d a p f e g T x b j n) λK _=>a.ai.length-(intOf K).toNat;case atStart=>exact⟨0,_,p,by omega,rfl,aO⟩
  case round=>
   obtain⟨b,j,n,M,rfl,O⟩:=hrel;have h:=@aC _ _ O M;have bc:=O.b.a.b;clear O;by_cases z:b<a.ai.length;have i:=@af _ z;have bd:(b:Int)<a.ai.length:=by omega
   obtain⟨c,Q⟩:∃c,j.ai[b]?=S c:=⟨_,Um (by rw[h.1.c];exact z)⟩
   have ak:j.c b=c.2:=by unfold ay.c;rw[Q]
   have al:=@af _ ak;have R:=@af _ (yD d j n b c wr h.1.b Q (by rw[h.1.c];have:=D;omega));have be:(b:Int)<1000:=by have:=D;omega
   clear Q ak z M;by_cases U:b=f
   .subst U;clear R;have o:=@af _ (h.1.h i λc=>c.1 rfl);go_wp2;exact⟨⟨b+1,j,n,by have:=i;omega,by go_num,o⟩,by have:=i;simp[intOf];omega⟩
   .have bf:((b:Int)==(f:Int))=F:=by rw[Uy];omega
    have bg:¬(b:Int)=f:=by omega
    have aQ:=@af _ U;clear U;go_wp2_with fail;refine Uq R ?_;rintro aD aR ⟨rfl,s⟩;have m:=@af _ (h.1.i s);have v:=m.a.a 0;have w:=m.a.a 1;have k:=m.a.a 2;simp at v w k;have aS:=m.a.b;clear s R;by_cases r:c.2=1
    .have V:=U4 r;rw[V];have am:=@af _ (Cj d j n b e g T aR m.b (by have:=m.d;have:=E.2.2;have:=D;have:=i;omega));go_wp2_with fail;refine Uq am ?_;rintro aD aE ⟨rfl,an,l,t⟩;have o:=@af _ (m.j i ⟨aQ,by rw[al];exact r⟩ l t);clear l t am v w k;go_wp2;exact⟨⟨b+1,_,an,by have:=i;omega,by go_num,o⟩,by have:=i;simp[intOf];omega⟩
    .have V:=U7 r;rw[V];have o:=@af _ (m.h i λc=>r (by rw[<-al];exact c.2));clear v w k;go_wp2;exact⟨⟨b+1,j,n,by have:=i;omega,by go_num,o⟩,by have:=i;simp[intOf];omega⟩
   .have aT:b=a.ai.length:=by omega
    subst aT;have k:=h.1.a.a 2;simp at k;have aS:=h.1.a.b;have aU(_:=()):j=(a.x f e g T).o f e g T a.ai.length 0:=by have:=h.1.e;rw[Ww,ay.o]at this;exact this
    clear z M;have a5:=@af _ (Cq d j n wr h.1.b (E.2.1.b h.1.c) (by have:=h.1.d;have:=E.2.2;have:=D;omega));go_wp2_with fail;refine Uq a5 ?_;rintro aD aE ⟨rfl,an,l,t⟩;have o(_:=()):∃A,aY aE d (a.y f e g T) A/\cT q aE d p A:=⟨an,by rw[aU]at l;exact l,h.1.f.a t⟩
    clear l t a5 k;go_wp2;go_end0;exact⟨rfl,o⟩
 |false=>
  have y:=aj;obtain⟨aN,G⟩:=ah (((a0.setCell ⟨d,4,N⟩ (I J f)).setCell ⟨d,5,N⟩ (I J (-1))).setCell ⟨d,6,N⟩ (I J 1001));rw[<-G]at y;have H:=y.2;have aO(_:=()):qd q aN d a p f e g F x 0 (a.x f e g F) p:=⟨y.1,X.2.1.a H,rfl,by simp[ay.x],rfl,X.2.2.c H.c (λc=>by have:=ab () _ c;have:=C.2.2.2;omega),λc=>by have:=ab () _ c;have:=C.2.2.2;omega⟩
  have D:=@af _ (E.2.1.a);go_wp2_with fail;rw[<-G];clear G y H aj X ac aL ad ag ai au av aw ax k a3 a4;go_loopw [40] (λK wr=>∃(b:Nat)(j:ay)(n:Np),b<=a.ai.length/\K= .int J b/\qd q wr d a p f e g F x b j n) λK _=>a.ai.length-(intOf K).toNat;case atStart=>exact⟨0,_,p,by omega,rfl,aO⟩
  case round=>
   obtain⟨b,j,n,M,rfl,O⟩:=hrel;have h:=@aC _ _ O M;have bc:=O.b.a.b;clear O;by_cases z:b<a.ai.length;have i:=@af _ z;have bd:(b:Int)<a.ai.length:=by omega
   obtain⟨c,Q⟩:∃c,j.ai[b]?=S c:=⟨_,Um (by rw[h.1.c];exact z)⟩
   have ak:j.c b=c.2:=by unfold ay.c;rw[Q]
   have al:=@af _ ak;have R:=@af _ (yD d j n b c wr h.1.b Q (by rw[h.1.c];have:=D;omega));have be:(b:Int)<1000:=by have:=D;omega
   clear Q ak z M;by_cases U:b=f
   .subst U;clear R;have o:=@af _ (h.1.h i λc=>c.1 rfl);go_wp2;exact⟨⟨b+1,j,n,by have:=i;omega,by go_num,o⟩,by have:=i;simp[intOf];omega⟩
   .have bf:((b:Int)==(f:Int))=F:=by rw[Uy];omega
    have bg:¬(b:Int)=f:=by omega
    have aQ:=@af _ U;clear U;go_wp2_with fail;refine Uq R ?_;rintro aD aR ⟨rfl,s⟩;have m:=@af _ (h.1.i s);have v:=m.a.a 0;have w:=m.a.a 1;have k:=m.a.a 2;simp at v w k;have aS:=m.a.b;clear s R;by_cases r:c.2=1
    .have V:=U4 r;rw[V];have am:=@af _ (Cj d j n b e g F aR m.b (by have:=m.d;have:=E.2.2;have:=D;have:=i;omega));go_wp2_with fail;refine Uq am ?_;rintro aD aE ⟨rfl,an,l,t⟩;have o:=@af _ (m.j i ⟨aQ,by rw[al];exact r⟩ l t);clear l t am v w k;go_wp2;exact⟨⟨b+1,_,an,by have:=i;omega,by go_num,o⟩,by have:=i;simp[intOf];omega⟩
    .have V:=U7 r;rw[V];have o:=@af _ (m.h i λc=>r (by rw[<-al];exact c.2));clear v w k;go_wp2;exact⟨⟨b+1,j,n,by have:=i;omega,by go_num,o⟩,by have:=i;simp[intOf];omega⟩
   .have aT:b=a.ai.length:=by omega
    subst aT;have k:=h.1.a.a 2;simp at k;have aS:=h.1.a.b;have aU(_:=()):j=(a.x f e g F).o f e g F a.ai.length 0:=by have:=h.1.e;rw[Ww,ay.o]at this;exact this
    clear z M;have o(_:=()):∃A,aY wr d (a.y f e g F) A/\cT q wr d p A:=⟨n,by have:=h.1.b;rw[aU]at this;exact this,h.1.f⟩
    go_wp2;go_end0;exact⟨rfl,o⟩
structure qU(e:ay):Prop where
 a:jQ e
 c:∀f,e.dj=S f->f<e.ai.length
 d:(e.aM:Int)<1000
 b:(e.aD.length:Int)<990000000000
def tG{a t d e}(f:a.underlying t=S (.struct e))(b c):(Instr.typeAssert (.iface t b) d t T).run a c= .ok (.tuple #[b,B T]) c:=by simp[Instr.typeAssert,Wk f]
def XX{b t a d e z}(f:b.underlying a=S (.struct e))(g:(t==a)=F)(h:(b.info? a).map (·.zero)=S (S z))(i c):(Instr.typeAssert (.iface t i) d a T).run b c= .ok (.tuple #[z,B F]) c:=by
 obtain⟨m,j,k⟩:=UD.1 h;have l:t≠a:=by simpa using g
 simp[Instr.typeAssert,Wk f,l,zeroValue,typeInfo,j,k]
def Od(a c b):(Instr.typeAssert (.iface 193 a) c 193 T).run prog b= .ok (.tuple #[a,B T]) b:=tG underlying193 a b
def uP(t)(c:(t==193)=F)(b d a):(Instr.typeAssert (.iface t b) d 193 T).run prog a= .ok (.tuple #[.agg #[.int J 0],B F]) a:=XX underlying193 c (by kernel_rfl) b a
def Oe(a c b):(Instr.typeAssert (.iface 313 a) c 313 T).run prog b= .ok (.tuple #[a,B T]) b:=tG underlying313 a b
def wA(t)(c:(t==313)=F)(b d a):(Instr.typeAssert (.iface t b) d 313 T).run prog a= .ok (.tuple #[.agg #[.int J 0,.int J 0,B F],B F]) a:=XX underlying313 c (by kernel_rfl) b a
def Oi(a c b):(Instr.typeAssert (.iface 315 a) c 315 T).run prog b= .ok (.tuple #[a,B T]) b:=tG underlying315 a b
def yP(t)(c:(t==315)=F)(b d a):(Instr.typeAssert (.iface t b) d 315 T).run prog a= .ok (.tuple #[.agg #[.int J 0,.int J 0],B F]) a:=XX underlying315 c (by kernel_rfl) b a
def Oc(a c b):(Instr.typeAssert (.iface 316 a) c 316 T).run prog b= .ok (.tuple #[a,B T]) b:=tG underlying316 a b
def BJ(t)(c:(t==316)=F)(b d a):(Instr.typeAssert (.iface t b) d 316 T).run prog a= .ok (.tuple #[.agg #[],B F]) a:=XX underlying316 c (by kernel_rfl) b a
def Of(a c b):(Instr.typeAssert (.iface 317 a) c 317 T).run prog b= .ok (.tuple #[a,B T]) b:=tG underlying317 a b
def Gu(t)(c:(t==317)=F)(b d a):(Instr.typeAssert (.iface t b) d 317 T).run prog a= .ok (.tuple #[.agg #[],B F]) a:=XX underlying317 c (by kernel_rfl) b a
def Og(a c b):(Instr.typeAssert (.iface 319 a) c 319 T).run prog b= .ok (.tuple #[a,B T]) b:=tG underlying319 a b
def PT(t)(c:(t==319)=F)(b d a):(Instr.typeAssert (.iface t b) d 319 T).run prog a= .ok (.tuple #[.agg #[.int J 0],B F]) a:=XX underlying319 c (by kernel_rfl) b a
def Oh(a c b):(Instr.typeAssert (.iface 321 a) c 321 T).run prog b= .ok (.tuple #[a,B T]) b:=tG underlying321 a b
def Kk(a b e d f c)(i:aY c a b e)(h:qU b)(k:d<b.ai.length):
 Cr 173 #[P (S ⟨a,0,N⟩),.agg #[.int J d,(bV.bG f:bV).b]] c (B (b.a d (.bG f)).2) λl=>∃g,aY l a (b.a d (.bG f)).1 g/\cT c l a e g:=by
 have m(_:=()):∀j,ae aa c j->_:=λj q=>PE a b e d f j (i.b q λ_ _ r=>r) h.a k h.d (by have:=h.b;omega);have u:=i.a.b;simp only[bV.b];have v:=Od;clear i h k;go_enter func173,ntmps173;go_wp2_with fail;refine Uq (m () _ (((ae.a aa c).b _).b _)) ?_;rintro w n ⟨rfl,s,o,p⟩;have t(_:=()):∃g,aY n a (b.a d (.bG f)).1 g/\cT c n a e g:=⟨s,o,(cT.b a e (((ae.a aa c).b _).b _)).a p⟩
 clear o p m;go_wp2;go_ret;exact⟨rfl,t⟩
def Kl(a b e d f g h c)(j:aY c a b e)(k:qU b)(r:d<b.ai.length):
 Cr 173 #[P (S ⟨a,0,N⟩),.agg #[.int J d,(bV.aL f g h:bV).b]] c (B (b.a d (.aL f g h)).2) λm=>∃i,aY m a (b.a d (.aL f g h)).1 i/\cT c m a e i:=by
 have n(_:=()):∀l,ae aa c l->_:=λl s=>N9 a b e d f g h l (j.b s λ_ _ t=>t) k.a k.b;have w:=j.a.b;simp only[bV.b];have x:=uP 313 (by rfl);have y:=Oe;clear j k r;go_enter func173,ntmps173;go_wp2_with fail;refine Uq (n () _ (((ae.a aa c).b _).b _)) ?_;rintro z o ⟨rfl,u,p,q⟩;have v(_:=()):∃i,aY o a (b.a d (.aL f g h)).1 i/\cT c o a e i:=⟨u,p,(cT.b a e (((ae.a aa c).b _).b _)).a q⟩
 clear p q n;go_wp2;go_ret;exact⟨rfl,v⟩
def Kp(a b e d f g c)(i:aY c a b e)(j:qU b)(l:d<b.ai.length):
 Cr 173 #[P (S ⟨a,0,N⟩),.agg #[.int J d,(bV.cW f g:bV).b]] c (B (b.a d (.cW f g)).2) λm=>∃h,aY m a (b.a d (.cW f g)).1 h/\cT c m a e h:=by
 have n(_:=()):∀k,ae aa c k->_:=λk r=>P2 a b e d f g k (i.b r λ_ _ s=>s) j.a l (by have:=j.b;omega);have v:=i.a.b;simp only[bV.b];have w:=uP 315 (by rfl);have x:=wA 315 (by rfl);have y:=Oi;clear i j l;go_enter func173,ntmps173;go_wp2_with fail;refine Uq (n () _ (((ae.a aa c).b _).b _)) ?_;rintro z o ⟨rfl,t,p,q⟩;have u(_:=()):∃h,aY o a (b.a d (.cW f g)).1 h/\cT c o a e h:=⟨t,p,(cT.b a e (((ae.a aa c).b _).b _)).a q⟩
 clear p q n;go_wp2;go_ret;exact⟨rfl,u⟩
def Kj(a b e d c)(g:aY c a b e)(h:qU b)(j:d<b.ai.length):
 Cr 173 #[P (S ⟨a,0,N⟩),.agg #[.int J d,(bV.dG:bV).b]] c (B (b.a d .dG).2) λk=>∃f,aY k a (b.a d .dG).1 f/\cT c k a e f:=by
 have l(_:=()):∀i,ae aa c i->_:=λi p=>Kf a b e d i (g.b p λ_ _ q=>q) h.a.a j (by have:=h.b;omega);have t:=g.a.b;simp only[bV.b];have u:=uP 316 (by rfl);have v:=wA 316 (by rfl);have w:=yP 316 (by rfl);have x:=Oc;clear g h j;go_enter func173,ntmps173;go_wp2_with fail;refine Uq (l () _ (((ae.a aa c).b _).b _)) ?_;rintro y m ⟨rfl,r,n,o⟩;have s(_:=()):∃f,aY m a (b.a d .dG).1 f/\cT c m a e f:=⟨r,n,(cT.b a e (((ae.a aa c).b _).b _)).a o⟩
 clear n o l;go_wp2;go_ret;exact⟨rfl,s⟩
def Km(b a e c d)(i:aY d b a e)(g:qU a)(l:c<a.ai.length):
 Cr 173 #[P (S ⟨b,0,N⟩),.agg #[.int J c,(bV.dK:bV).b]] d (B (a.a c .dK).2) λm=>∃f,aY m b (a.a c .dK).1 f/\cT d m b e f:=by
 have n(_:=()):∀j,ae aa d j->_:=λj v=>Gy b a e c j (i.b v λ_ _ w=>w) l g.a.a;have o(_:=()):∀h k,aY h b (a.f c) k->_:=λh k x=>Cq b (a.f c) k h x ((y8 a c).2.2.2 g.a) (by rw[(y8 a c).2.1];have:=g.b;omega);have C:=i.a.b;simp only[bV.b];have D:=uP 317 (by rfl);have E:=wA 317 (by rfl);have G:=yP 317 (by rfl);have H:=BJ 317 (by rfl);have K:=Of;clear i g l;go_enter func173,ntmps173;go_wp2_with fail;refine Uq (n () _ (((ae.a aa d).b _).b _)) ?_;rintro y h ⟨rfl,p,q⟩;have r:=@aC _ _ p ((cT.b b e (((ae.a aa d).b _).b _)).a q);clear p q n;go_wp2_with fail;refine Uq (o () _ _ r.1) ?_;rintro y s ⟨rfl,z,t,u⟩;have A(_:=()):∃f,aY s b (a.a c .dK).1 f/\cT d s b e f:=⟨z,t,r.2.a u⟩
 clear t u o;go_wp2;go_ret;exact⟨rfl,A⟩
def Kn(a b e d f c)(i:aY c a b e)(h:qU b)(p:d<b.ai.length):
 Cr 173 #[P (S ⟨a,0,N⟩),.agg #[.int J d,(bV.bH f:bV).b]] c (B (b.a d (.bH f)).2) λk=>∃g,aY k a (b.a d (.bH f)).1 g/\cT c k a e g:=by
 have l(_:=()):∀j,ae aa c j->_:=λj q=>RP a b e d f j (i.b q λ_ _ r=>r) h.a.a h.c (by have:=h.b;omega);have u:=i.a.b;simp only[bV.b];have v:=uP 319 (by rfl);have w:=wA 319 (by rfl);have x:=yP 319 (by rfl);have y:=BJ 319 (by rfl);have z:=Gu 319 (by rfl);have A:=Og;clear i h p;go_enter func173,ntmps173;go_wp2_with fail;refine Uq (l () _ (((ae.a aa c).b _).b _)) ?_;rintro C m ⟨rfl,s,n,o⟩;have t(_:=()):∃g,aY m a (b.a d (.bH f)).1 g/\cT c m a e g:=⟨s,n,(cT.b a e (((ae.a aa c).b _).b _)).a o⟩
 clear n o l;go_wp2;go_ret;exact⟨rfl,t⟩
def Ko(a b d e c)(h:aY c a b d)(g:qU b)(o:e<b.ai.length):
 Cr 173 #[P (S ⟨a,0,N⟩),.agg #[.int J e,(bV.dO:bV).b]] c (B (b.a e .dO).2) λj=>∃f,aY j a (b.a e .dO).1 f/\cT c j a d f:=by
 have k(_:=()):∀i,ae aa c i->_:=λi p=>EO a b d i (h.b p λ_ _ q=>q) g.a.a g.c (by have:=g.b;omega);have t:=h.a.b;simp only[bV.b];have u:=uP 321 (by rfl);have v:=wA 321 (by rfl);have w:=yP 321 (by rfl);have x:=BJ 321 (by rfl);have y:=Gu 321 (by rfl);have z:=PT 321 (by rfl);have A:=Oh;clear h g o;go_enter func173,ntmps173;go_wp2_with fail;refine Uq (k () _ (((ae.a aa c).b _).b _)) ?_;rintro C l ⟨rfl,r,m,n⟩;have s(_:=()):∃f,aY l a (b.a e .dO).1 f/\cT c l a d f:=⟨r,m,(cT.b a d (((ae.a aa c).b _).b _)).a n⟩
 clear m n k;go_wp2;go_ret;exact⟨rfl,s⟩
def Eg(b a e c j d)(f:aY d b a e)(g:qU a)(h:c<a.ai.length):
 Cr 173 #[P (S ⟨b,0,N⟩),.agg #[.int J c,j.b]] d (B (a.a c j).2) λl=>∃m,aY l b (a.a c j).1 m/\cT d l b e m:=by
 cases j with
 |bG i=>exact Kk b a e c i d f g h
 |aL i k n=>exact Kl b a e c i k n d f g h
 |cW i k=>exact Kp b a e c i k d f g h
 |dG=>exact Kj b a e c d f g h
 |dK=>exact Km b a e c d f g h
 |bH o=>exact Kn b a e c o d f g h
 |dO=>exact Ko b a e c d f g h
def Id{P l a e b p u v}(w:a.guard=N)(q r t)(x:a.op=Op.call {callee:=Callee.builtin Builtin.append,args:= #[q,r],argTypes:= #[t,t]})(d)(f:TypeInfo)(y:P.underlying t=S (.slice d))(z:P.info? d=S f)(g o n c)(h:List Value)(j:aq b g h.toArray d)(A:e.eval q=L (S ⟨g,o,N⟩) n c)(ad m c')(C:e.eval r=L (S ad) m c')(news)(D:news.length=m*f.size)(E:∀s i,news[s]?=S i->b.cell? (ad.add s)=S i)(G:∀i∈news,i.oneCell'=T)(H:n+m<=c)(K:o+n*f.size+news.length<=h.length)(M:∀k,aq k g (h.take (o+n*f.size)++news++h.drop (o+n*f.size+news.length)).toArray d->ae (ap g) b k->p (e.put a.dst (L (S ⟨g,o,N⟩) (n+m) c)) k):
 if Region.wanted a (yielded l e.tmps)=T then Oper.wp P a e b p u else v:=by
 have O:Region.wanted a (yielded l e.tmps)=T:=by simp[Region.wanted,w]
 rw[UG O];have Q:=B8 (P:=P) b t a.type d f y z g o n c h.toArray j ad m c' news D E G H (by simpa using K);unfold Oper.wp;simp[execOp,x,resolve,invoke,builtin,A,C,Q,Result.andThen];refine M _ ?_ ?_;unfold aq at j|-;rw[Xa b g _ _ _ _ j];simp;exact⟨rfl,rfl,rfl,by simp[World.setRow],λR V U=>WQ b g R _ λd=>U d⟩
def Hl{P}(a t l d z)(m:P.underlying t=S (.slice d))(n:∀a,(zeroValue d).run P a= .ok z a)(b e g o)(w:0<g)(f:List Value)(h:aq a b f.toArray d)(c)(p:(Builtin.zeroCells z.cells g).toList=c)(q:∀r∈c,r.oneCell'=T)(s:e+c.length<=f.length):
 ∃i,(Builtin.clear_ #[t] l #[L (S ⟨b,e,N⟩) g o]).run P a= .ok (.tuple #[]) i/\aq i b (f.take e++c++f.drop (e+c.length)).toArray d/\ae (ap b) a i:=by
 obtain⟨j,rfl⟩:∃j,g=j+1:=⟨g-1,by omega⟩
 have k:=Xx P b e d c 0 f.toArray a h (by simpa using s) q;simp only[Vn]at k;refine⟨a.setRow b (f.take e++c++f.drop (e+c.length)).toArray,by simp[Builtin.clear_,Wk m,n,p,k],?_,?_⟩;unfold aq at h|-;rw[Xa a b _ _ _ _ h];exact⟨rfl,rfl,rfl,by simp[World.setRow],λu x v=>WQ a b u _ λd=>v d⟩
def T7(a):(zeroValue 270).run prog a= .ok (.agg #[.int J 0,.nilIface]) a:=by
 have c:(prog.info? 270).map (λb=>b.zero)=S (S (.agg #[I J 0,.nilIface])):=by kernel_rfl
 obtain⟨b,d,e⟩:=UD.1 c;simp[zeroValue,typeInfo,d,e]
def Lu:∃a,prog.info? 270=S a/\a.size=2:=by
 have b:(prog.info? 270).map (λa=>a.size)=S 2:=by kernel_rfl
 obtain⟨a,c,d⟩:=UD.1 b;exact⟨a,c,d⟩
def Mb(i d c l k b:Nat)(e f g a h)(j:World)(A:aq j i (e++f++g++a++h).toArray 270)(al:e.length=d)(am:f.length=k*2)(an:g.length=2)(X:a.length=(c-b)*2)(Y:∀n∈a,n.oneCell'=T)(C:b=k+1)(Z:b<=c)(ab:c<=l):
 Cr 207 #[L (S ⟨i,d,N⟩) c l,.int J k,.int J b] j (L (S ⟨i,d,N⟩) (c-1) l) λD=>aq D i (e++f++a++[I J 0,Value.nilIface]++h).toArray 270/\ae (ap i) j D:=by
 have ao:k<=b:=by omega
 have ar:k<=c:=by omega
 have au:k<=l:=by omega
 have av:(k:Int)<=b:=by omega
 have aw:(b:Int)<=c:=by omega
 have ax:(c:Int)<=l:=by omega
 have ay:((k:Int)==(b:Int))=F:=by rw[Uy];omega
 have az:¬(k:Int)=b:=by omega
 have m:=@cf _ _ _ C Z ab;obtain⟨o,ac,r⟩:=Lu;clear C;have w:=A.c ((ae.a aa j).drew) id;obtain⟨s,aA,ad⟩:∃s:Addr,(if l=b then S (⟨i,d,N⟩:Addr)else S ⟨i,d+b*2,N⟩)=S s/\∀p n,a[p]?=S n->j.drew.cell? (s.add p)=S n:=by
  by_cases E:l=b;refine⟨⟨i,d,N⟩,by rw[UG E],λp n t=>?_⟩;have af:=(Ul.1 t).1;have:=m;have aB:(c-b)*2=0:=by rw[show c-b=0 by omega]
  omega;refine⟨⟨i,d+b*2,N⟩,by rw[Us E],λp n t=>?_⟩;rw[Va];have ag:=w.a (d+b*2+p);have af:=(Ul.1 t).1;rw[ag];simp only[UN];rw[UJ,UJ,UJ,<-UJ,Ut (by simp;have:=m;omega),Ut (by simp;have:=m;omega),Ux (by simp;have:=m;omega)];rw[<-t];congr 1;simp;have:=m;omega
 have ah:a.length=(c-b)*o.size:=by rw[r];exact X
 have G:k+(c-b)<=l:=by have:=m;omega
 have ai:d+k*o.size+a.length<=(e++f++g++a++h).length:=by rw[r];simp;have:=m;omega
 go_enter func207,ntmps207;go_wp2_with fail;go_region_law (refine Id rfl (.tmp 22) (.tmp 25) 184 rfl 270 o underlying184 ac i d k l (e++f++g++a++h) w rfl s (c-b) (l-b) rfl a ah ad Y G ai ?_;intro aj u H);have K:(e++f++g++a++h).take (d+k*o.size)=e++f:=by rw[r,UJ,UJ,show d+k*2=(e++f).length by simp;omega];exact Wp
 have M:(e++f++g++a++h).drop (d+k*o.size+a.length)=(g++a).drop a.length++h:=by rw[r,<-WA,show d+k*2=(e++f).length by simp;omega,show e++f++g++a++h=(e++f)++(g++a++h)by simp,WB,VF (by simp)]
 rw[K,M]at u;have ak:=@aC _ _ u (((ae.a aa j).drew.d λ_ _ q=>q.elim).g H λ_ _ q=>q);have x:((g++a).drop a.length).length=2:=by simp;omega
 have O:c-(k+(c-b))=1:=by have:=m;omega
 have Q:∀j,(zeroValue 270).run prog j= .ok (.agg #[I J 0,.nilIface]) j:=λj=>T7 j;have aD:k+(c-b)<=c:=by have:=m;omega
 have aE:=G;have v:(e++f++a).length=d+(k+(c-b))*2:=by simp;omega
 obtain⟨R,aF,y,U⟩:=Hl (P:=prog) aj 184 0 270 _ underlying184 Q i (d+(k+(c-b))*2) (c-(k+(c-b))) (l-(k+(c-b))) (by omega) (e++f++a++((g++a).drop a.length++h)) u [I J 0,Value.nilIface] (by rw[O];first|kernel_rfl|decide|simp[Builtin.zeroCells,Value.cells,List.ofFn]) (by simp[Value.oneCell']) (by simp only[Uu]at v x|-;simp;omega);have V:(e++f++a++((g++a).drop a.length++h)).take (d+(k+(c-b))*2)=e++f++a:=by rw[<-v];exact Wp
 have W:(e++f++a++((g++a).drop a.length++h)).drop (d+(k+(c-b))*2+[I J 0,Value.nilIface].length)=h:=by rw[<-WA,<-v,WB,show [I J 0,Value.nilIface].length=((g++a).drop a.length).length by rw[x];rfl,WB]
 rw[V,W]at y;have z(_:=()):aq R i (e++f++a++[I J 0,Value.nilIface]++h).toArray 270/\ae (ap i) j R/\c-1=k+(c-b):=⟨y,ak.2.g U λ_ _ q=>q,by have:=m;omega⟩
 clear u H K M w A y U V W v x O Q;go_wp2;go_ret;exact⟨by rw[z.2.2];rfl,z.1,z.2.1⟩
structure fT(a n':ay)(e:Nat):Prop where
 c:n'.ai.length=a.ai.length
 j:jQ a->jQ n'
 h:(∀b,a.dj=S b->b<a.ai.length)->∀b,n'.dj=S b->b<a.ai.length
 i:a.aM<=10->n'.aM<=10
 d:n'.an=a.an
 g:n'.aD.length<=a.aD.length+e
def fT.f(a):fT a a 0:=⟨rfl,id,id,id,rfl,by omega⟩
def fT.b{e f g h t}(a:fT e f h)(k:fT f g t):fT e g (h+t):=
 ⟨k.c.trans a.c,λb=>k.j (a.j b),λb c d=>by have:=k.h (λc d=>by rw[a.c];exact a.h b c d) c d;rw[a.c]at this;exact this,λb=>k.i (a.i b),k.d.trans a.d,by have:=a.g;have:=k.g;omega⟩
def fT.a{b c d t}(a:fT b c d)(e:d<=t):fT b c t:=⟨a.c,a.j,a.h,a.i,a.d,by have:=a.g;omega⟩
def fT.e{a n'}(c:n'.ai=a.ai)(d:n'.dj=a.dj)(i:n'.aM<=a.aM)(e:n'.an=a.an)(f:n'.aD=a.aD):fT a n' 0:=
 ⟨by rw[c],λb=>b.b c,λb g h=>b g (by rw[<-d];exact h),λb=>by omega,e,by rw[f];omega⟩
def yu(a b c):fT a (a.e b c) 0:=⟨uY a b c,λd=>d.d b c,λd e f=>d e f,id,rfl,by simp[ay.e]⟩
def qp(b c d):fT b (b.d c d) 1:=⟨rfl,λa=>a.b rfl,λa e f=>a e f,id,rfl,by simp[ay.d]⟩
def uE(a):fT a a.b 1:=by unfold ay.b;split;have c:fT a {a with aM:=0,aP:=2,bI:=0} 0:=fT.e rfl rfl (Vl _) rfl rfl;split;have d:fT a {a with aM:=0,aP:=2,bI:=0,iy:=T} 0:=fT.e rfl rfl (Vl _) rfl rfl;exact d.a (by omega);rename_i b e;exact((c.b (yu _ b 1)).b (qp _ b (.bG 0))).a (by omega);exact(fT.f a).a (by omega)
def Fs(a b c d e):fT a (a.j b c d e) 1:=by unfold ay.j;split;have f:fT (a.d b (.aL c d e)) {a.d b (.aL c d e)with bI:=wrap64 (a.bI+1)} 0:=fT.e rfl rfl (UF _) rfl rfl;exact(qp a b (.aL c d e)).b f;exact qp a b _
def Bd(a):fT a a.q 1:=by unfold ay.q;split;have b:fT a {a with aP:=2} 0:=fT.e rfl rfl (UF _) rfl rfl;split;exact b.a (by omega);exact(b.b (qp _ _ _)).a (by omega);exact(fT.f a).a (by omega)
def Be(a):fT a a.l 1:=by unfold ay.l;split;have b:fT a {a with cB:=N} 0:=fT.e rfl rfl (UF _) rfl rfl;exact(b.b (Bd _)).a (by omega);rename_i c d;have b:fT a {a with cB:=S c} 0:=fT.e rfl rfl (UF _) rfl rfl;exact(b.b (qp _ _ _)).a (by omega)
def Ny(g c d e k):∀a b,fT a (a.o g c d e k b) k:=by
 induction k with
 |zero=>intro a b;exact fT.f a
 |succ k f=>
  intro a b;rw[ay.o];split;exact((Fs a b c d e).b (f _ _)).a (by omega);exact(f a _).a (by omega)
def FD(b:ay)(c d e a):b.y c d e a=(if a then ((b.x c d e a).o c d e a b.ai.length 0).l else (b.x c d e a).o c d e a b.ai.length 0):=rfl
def Nv(a c b d e)(h:b<=10):fT a (a.y c b d e) (a.ai.length+1):=by
 have i:fT a (a.x c b d e) 0:=⟨rfl,λf=>f.b rfl,(λf k j=>by cases j),λ_=>h,rfl,UF _⟩
 have g:=i.b (Ny c b d e a.ai.length (a.x c b d e) 0);rw[FD];split;exact(g.b (Be _)).a (by omega);exact g.a (by omega)
def Fq(a b):fT a (a.f b) 0:=by unfold ay.f;split;exact yu _ _ _;exact fT.f a
def Fp(a b d)(e:b<a.ai.length):fT a (a.n b d) 0:=by unfold ay.n;split;exact⟨rfl,λc=>c.b rfl,(λc g f=>by cases f;exact e),id,rfl,UF _⟩;exact fT.f a
def Fo(a):fT a a.s 1:=by unfold ay.s;split;exact(fT.f a).a (by omega);split;exact qp _ _ _;exact((qp a _ _).b (yu _ _ _)).a (by omega)
def Nu(a c d):fT a (a.m c d).1 2:=by unfold ay.m;have b:=uE a;simp only;split;exact((b.b (yu _ c 1)).b (Fs _ _ _ _ _)).a (by omega);split;exact b.a (by omega);exact(b.b (qp _ _ _)).a (by omega)
def NA(a c e f):fT a (a.r c e f).1 2:=by unfold ay.r;have b:=uE a;simp only;split;exact b.a (by omega);split;exact(b.b (qp _ _ _)).a (by omega);have d:=b.b (Fq a.b c);split;exact(d.b (Be _)).a (by omega);exact(d.b (qp _ _ _)).a (by omega)
def Ns(a b)(c:b<a.ai.length):fT a (a.A b) 1:=by have d:fT a {a with cB:=N} 0:=fT.e rfl rfl (UF _) rfl rfl;exact((d.b (Fp {a with cB:=N} b (a.p b) c)).b (Bd _)).a (by omega)
def Nw(a b d)(e:b<a.ai.length):fT a (a.i b d).1 1:=by unfold ay.i;split;split;exact(fT.f a).a (by omega);split;exact Fo a;split;have c:fT a {a with iy:=T} 0:=fT.e rfl rfl (UF _) rfl rfl;exact c.a (by omega);exact(fT.f a).a (by omega);have c:fT a {a with bI:=wrap64 (a.bI-1)} 0:=fT.e rfl rfl (UF _) rfl rfl;exact((c.b (Fp {a with bI:=wrap64 (a.bI-1)} b d e)).b (Bd _)).a (by omega)
def bV.c:bV->Prop
 | .aL a _ _=>a<=10
 |_=>True
def uD(a b d)(f:b<a.ai.length)(g:d.c):fT a (a.a b d).1 (a.ai.length+2):=by
 cases d with
 |bG c=>exact(Nu a b c).a (by omega)
 |aL c e h=>exact(Nv a b c e h g).a (by omega)
 |cW c e=>exact(NA a b c e).a (by omega)
 |dG=>exact(Ns a b f).a (by omega)
 |dK=>exact((Fq a b).b (Be _)).a (by omega)
 |bH i=>exact(Nw a b i f).a (by omega)
 |dO=>exact(Fo a).a (by omega)
structure lf(b:ay):Prop where
 a:jQ b
 d:∀f,b.dj=S f->f<b.ai.length
 e:b.aM<=10
 c:∀g∈b.an,g.1<b.ai.length/\g.2.c
def lf.b{b n' d}(a:lf b)(k:fT b n' d):lf n':=
 ⟨k.j a.a,λe f=>by rw[k.c];exact k.h a.d e f,k.i a.e,λg c=>by rw[k.d]at c;rw[k.c];exact a.c g c⟩
def lf.f{a}(b:lf a)(c:(a.aD.length:Int)<990000000000):qU a:=⟨b.a,b.d,by have:=b.e;omega,c⟩
def lf.g{b}(a:lf b)(k):lf {b with an:=b.an.eraseIdx k}:=
 ⟨a.a.b rfl,a.d,a.e,λc d=>a.c c (Vx d)⟩
def lf.i{b}(c:lf b)(d e)(f:d<b.ai.length)(g:e.c):lf {b with an:=b.an++[(d,e)]}:=
 ⟨c.a.b rfl,c.d,c.e,λh a=>by obtain a|a:=UP.1 a;exact c.c h a;rw[UY.1 a];exact⟨f,g⟩⟩
def lf.h(b)(g:∀(a k:Nat)(d e:Nat),a<k->b[a]?=S d->b[k]?=S e->d<=e)(c:(b.length:Int)<1000):lf (ay.g b):=by refine⟨⟨λa k d e h f c=>?_,by simpa [ay.g]using c⟩,(λa i=>by cases i),Vl _,(λp j=>by cases j)⟩;simp only[ay.g,Uz,UD]at f c;obtain⟨l,m,rfl⟩:=f;obtain⟨n,o,rfl⟩:=c;exact g a k l n h m o
def TL(a:Nat)(b):
 Cr 198 #[.int J a] b (.agg #[.int J ((if a=0 then 1001 else a:Nat):Int)]) λc=>ae aa b c:=by
 by_cases d:a=0
 .go_enter func198,ntmps198;go_wp2;refine UO (v:= .agg #[I J ((if 0=0 then 1001 else 0:Nat):Int)]) ?_ rfl ⟨rfl,by repeat (first|exact ae.a _ _|apply ae.b)⟩;simp[results,results198,go_sem]
 .go_enter func198,ntmps198;go_wp2;refine UO (v:= .agg #[I J a]) ?_ rfl ⟨by first|rfl|rw[if_neg ((@af _ d) ())],by repeat (first|exact ae.a _ _|apply ae.b)⟩;simp[results,results198,go_sem]
def TM(b d)(g:1<=b.a)(h:b.a<=7):
 Cr 172 #[mv b] d (cy b).b λl=>ae aa d l:=by
 obtain⟨a,m,c,n⟩:=b;simp only at g h;have o:a=1\/a=2\/a=3\/a=4\/a=5\/a=6\/a=7:=by omega
 clear g h;obtain rfl|rfl|rfl|rfl|rfl|rfl|rfl:=o
 .simp only[mv];go_enter func172,ntmps172;go_wp2;go_ret;exact⟨rfl,by repeat (first|exact ae.a _ _|apply ae.b|apply ae.drew)⟩
 .simp only[mv];go_enter func172,ntmps172;go_wp2;go_ret;exact⟨rfl,by repeat (first|exact ae.a _ _|apply ae.b|apply ae.drew)⟩
 .simp only[mv];go_enter func172,ntmps172;go_wp2;go_ret;exact⟨rfl,by repeat (first|exact ae.a _ _|apply ae.b|apply ae.drew)⟩
 .simp only[mv];go_enter func172,ntmps172;go_wp2;go_ret;exact⟨rfl,by repeat (first|exact ae.a _ _|apply ae.b|apply ae.drew)⟩
 .simp only[mv];go_enter func172,ntmps172;go_wp2;go_ret;exact⟨rfl,by repeat (first|exact ae.a _ _|apply ae.b|apply ae.drew)⟩
 .simp only[mv];go_enter func172,ntmps172;have i(_:=()):∀j,_:=λj=>TL c j;obtain⟨e,f⟩:∃e:Nat,e=(if c=0 then 1001 else c):=⟨_,rfl⟩
  rw[<-f]at i;have p(_:=()):(cy ⟨6,m,c,n⟩).b= .iface 319 (.agg #[I J e]):=by rw[f];rfl
  clear f;go_wp2_with fail;refine Uq (i () _) ?_;rintro r s ⟨rfl,k⟩;have q:=@af _ ((by repeat (first|exact ae.a _ _|apply ae.b|apply ae.drew):ae aa d _).c k);clear k;go_wp2;go_ret;exact⟨by rw[p];rfl,q⟩
 .simp only[mv];go_enter func172,ntmps172;go_wp2;go_ret;exact⟨rfl,by repeat (first|exact ae.a _ _|apply ae.b|apply ae.drew)⟩
def PZ(a d b c)(e:aY c a d b):
 Cr 110 #[P (S ⟨a,0,N⟩)] c (L b.sa d.aD.length b.sc) λf=>f=c.setCell ⟨a,11,N⟩ (L N 0 0):=by
 obtain⟨-, -, -, -, -, -, -, -, -, -, -,g⟩:=e.cells;have h:=e.a.d 11;go_enter func110,ntmps110;go_wp2;go_ret;simp
def aY.v{d b g p}(c:aY d b g p):aY (d.setCell ⟨b,11,N⟩ (L N 0 0)) b {g with aD:=[]} {p with sa:=N,sc:=0}/\ae (ap b) d (d.setCell ⟨b,11,N⟩ (L N 0 0))/\RV (d.setCell ⟨b,11,N⟩ (L N 0 0)) 197 5 p.sa g.aD.length p.sc (lK g.aD):=by have h:ae (ap b) d (d.setCell ⟨b,11,N⟩ (L N 0 0)):=(ae.a (ap b) d).e (p:=⟨b,11,N⟩) (λ_=>rfl) _;refine⟨⟨?_,c.i.a h (λf e a=>c.c (by rw[show f=b from a]at e;exact e)),c.g.a h (λf e a=>c.e (by rw[show f=b from a]at e;exact e)),?_,c.c,c.e,(λa=>by obtain⟨_,a⟩:=a;cases a),c.h,(λ_ _ a=>by obtain⟨_,a⟩:=a;cases a),(λ_ _ a=>by obtain⟨_,a⟩:=a;cases a)⟩,h,c.j.a h λf e a=>c.f (by rw[show f=b from a]at e;exact e)⟩;have:=c.a.f 11 (L N 0 0);assumption;exact⟨rfl,UF _,Ur ⟨rfl,rfl,rfl⟩⟩
def LD(d):∀a b,d[a]?=S b->(gS d)[a*2]?=S (.int J b.1)/\(gS d)[a*2+1]?=S b.2.b:=by
 induction d with
 |nil=>intro a b c;simp at c
 |cons e f g=>
  intro a b c;have h:gS (e::f)=qk e++gS f:=by simp[gS]
  rw[h];cases a with
  |zero=>simp at c;subst c;exact⟨rfl,rfl⟩
  |succ a=>
   have:=g a b c;have i:(qk e).length=2:=rfl;rw[Ut (by omega),Ut (by omega),i,show (a+1)*2-2=a*2 by omega,show (a+1)*2+1-2=a*2+1 by omega];exact this
def aY.s{c k g i}(l:aY c k g i)(d e)(j:g.an[d]?=S e):∃a b,i.fa=S ⟨a,b,N⟩/\a<c.heap.size/\c.cell? ⟨a,b+d*2,N⟩=S (.int J e.1)/\c.cell? ⟨a,b+d*2+1,N⟩=S e.2.b:=by obtain⟨o,p,f⟩:=l.g;have q:=(Ul.1 j).1;obtain⟨_,f,_⟩|⟨a,b,f,h⟩:=f;omega;obtain⟨m,n⟩:=LD g.an d e j;exact⟨a,b,f,h.b,h.a _ _ m,by rw[UI];exact h.a _ _ n⟩
def yi(a b):gS (a++b)=gS a++gS b:=by simp[gS]
def yj(a):(gS a).length=a.length*2:=by
 induction a with
 |nil=>rfl
 |cons b c d=>
  have e:gS (b::c)=qk b++gS c:=by simp[gS]
  rw[e,Uu,d,Vg];have f:(qk b).length=2:=rfl;omega
def LE(d):∀a∈gS d,a.oneCell'=T:=by intro a b;simp only[gS,VW]at b;obtain⟨e,_,c⟩:=b;simp only[qk,UZ,U9,Wc]at c;obtain rfl|rfl:=c;rfl;cases e.2<;>rfl
def GJ(a k b)(d:a[k]?=S b):gS a=gS (a.take k)++qk b++gS (a.drop (k+1))/\gS (a.eraseIdx k)=gS (a.take k)++gS (a.drop (k+1)):=by
 have e:a=a.take k++[b]++a.drop (k+1):=by have c:=(Vd (k+1) a).symm;rw[su a k b d]at c;exact c
 constructor
 .conv=>lhs;rw[e]
  rw[yi,yi];rfl
 rw[Vo,yi]
def aY.r{m w' d b p}(c:aY m d b p)(k q)(r:b.an[k]?=S q)(e h n o)(s:p.fa=S ⟨e,h,N⟩)(v:n.length=h)(w:p.fc*2<=(gS b.an).length+o.length)(x:aq w' e (n++gS (b.an.take k)++gS (b.an.drop (k+1))++[I J 0,Value.nilIface]++o).toArray 270)(i:ae (ap e) m w'):
 aY (w'.setCell ⟨d,10,N⟩ (L p.fa (b.an.length-1) p.fc)) d {b with an:=b.an.eraseIdx k} p/\cT m (w'.setCell ⟨d,10,N⟩ (L p.fa (b.an.length-1) p.fc)) d p p:=by
 have j:ag p.fa e:=by rw[s];exact eN e h
 have t:d≠e:=λa=>c.e (a▸j);have l:ae (ap d) w' (w'.setCell ⟨d,10,N⟩ (L p.fa (b.an.length-1) p.fc)):=(ae.a (ap d) w').e (p:=⟨d,10,N⟩) (λ_=>rfl) _;have u:(b.an.eraseIdx k).length=b.an.length-1:=by rw[VQ ((Ul.1 r).1)]
 obtain⟨y,z,A⟩:=c.g;obtain⟨C,D⟩:=GJ b.an k q r;refine⟨⟨?_,(c.i.a i λf g a=>c.h f g (by rw[show f=e from a];exact j)).a l (λf g a=>c.c (by rw[show f=d from a]at g;exact g)),?_,(c.j.a i λf g a=>c.m e j (by rw[<-show f=e from a];exact g)).a l (λf g a=>c.f (by rw[show f=d from a]at g;exact g)),c.c,c.e,c.f,c.h,c.l,c.m⟩,⟨λ_ a=>Ur a,(i.d λf _ a=>Up (Up (Ur (by rw[show f=e from a];exact j)))).c (l.d λf _ a=>Ur a),rfl,rfl⟩⟩;have E:=(c.a.c i λa=>t a).f 10 (L p.fa (b.an.length-1) p.fc);have G:(eO b p).setIfInBounds 10 (L p.fa (b.an.length-1) p.fc)=eO {b with an:=b.an.eraseIdx k} p:=by simp[eO,u]
 grind;refine⟨yj _,by rw[u];omega,Up ⟨e,h,s,n,[I J 0,Value.nilIface]++o,?_,v,?_⟩⟩;have H:=x.c l λa=>t a.symm;grind;rw[yj]at w|-;simp;omega
def Qd(b:ay)(c k a)(e:k<c)(d:b.an[k]?=S a):b.h (c-k) k=if (b.a a.1 a.2).2 then ({ (b.a a.1 a.2).1 with an:=(b.a a.1 a.2).1.an.eraseIdx k},T)else (b.a a.1 a.2).1.h (c-(k+1)) (k+1):=by rw[show c-k=(c-(k+1))+1 by omega,ay.h,d]
structure AK(i wr:World)(g:Nat)(e:ay)(j:Np)(k:Nat)(f:ay)(h:Np):Prop where
 b:aY wr g f h
 d:cT i wr g j h
 a:fT e f (k*(e.ai.length+2))
 c:f.h (e.an.length-k) k=e.h e.an.length 0
def Qc(d a h j)(w:aY j d a h)(ad:lf a)(ag:(a.an.length:Int)<100000)(ah:(a.aD.length:Int)<100000000000):
 Cr 174 #[P (S ⟨d,0,N⟩)] j (B (a.h a.an.length 0).2) λw'=>∃q,aY w' d (a.h a.an.length 0).1 q/\cT j w' d h q:=by
 have r:=@gA _ _ _ _ w ad ag ah;obtain⟨-, -, -, -, -, -, -, -, -, -,ai, -⟩:=w.cells;have aV:=w.a.b;clear w ad ag ah;go_enter func174,ntmps174;go_wp2_with fail;have aH(_:=()):AK j j d a h 0 a h:=⟨r.1,cT.d _ _ _,(fT.f a).a (by omega),rfl⟩
 clear ai;go_loopw [10] (λD wr=>∃(b:Nat)(f:ay)(s:Np),b<=a.an.length/\D= .int J b/\AK j wr d a h b f s) λD _=>a.an.length-(intOf D).toNat;case atStart=>exact⟨0,a,h,by omega,rfl,aH⟩
 case round=>
  obtain⟨b,f,s,E,rfl,G⟩:=hrel;have e:=@aC _ _ G E;have aW:=G.b.a.b;clear G;by_cases x:b<a.an.length
  .have t:=@af _ x;have aI:(b:Int)<a.an.length:=by omega
   obtain⟨c,H⟩:∃c,a.an[b]?=S c:=⟨_,Um x⟩
   have K:f.an[b]?=S c:=by rw[e.1.a.d];exact H
   obtain⟨i,k,aj,aX,aJ,ak⟩:=e.1.b.s b c K;have M:h.fa=S ⟨i,k,N⟩:=by rw[<-e.1.d.f];exact aj
   have u:=@cf _ _ _ H K M;rw[bV.g]at ak;have aZ:(b:Int)<100000:=by have:=r.2.2.1;omega
   have al:=@af _ (r.2.1.b e.1.a);have O(_:=()):c.1<f.ai.length/\c.2.c:=al.c c (Uo u.2.1);have aK(_:=()):(f.aD.length:Int)<990000000000:=by have a0:=e.1.a.g;have a1:=r.2.1.a.a;have a2:=r.2.2.2;have a3:b*(a.ai.length+2)<=b*1002:=Nat.mul_le_mul_left _ (by omega);omega
   have Q(_:=()):∀R,ae aa wr R->_:=λR aL=>Eg d f s c.1 c.2 R (e.1.b.b aL λ_ _ U=>U) (al.f aK) O.1;rw[bV.g]at Q;have am:=@af _ (uD f c.1 c.2 O.1 O.2);have ao:=@af _ (Qd f a.an.length b c t u.2.1);rw[M];clear x E H K aj M;generalize c.2.e=cty at *;generalize c.2.d=cin at *;generalize aM:a.an.length=nol at aI;clear aM;go_wp2_with fail;refine Uq (Q () _ ((ae.a aa wr).b _)) ?_;rintro aN V ⟨rfl,l,ap,ar⟩;have g:=@aC _ _ ap ((e.1.d.a (cT.b d s ((ae.a aa wr).b _))).a ar);clear ap ar Q aJ ak;cases au:(f.a c.1 c.2).2 with
   |false=>
    have W(_:=()):AK j V d a h (b+1) (f.a c.1 c.2).1 l:=⟨g.1,g.2,(e.1.a.b am).a (by rw[e.1.a.c,Xv];omega),by have:=e.1.c;rw[ao,au]at this;exact this⟩
    go_wp2;exact⟨⟨b+1,_,l,by have:=t;omega,by go_num,W⟩,by have:=t;simp[intOf];omega⟩
   |true=>
    have av(_:=()):a.h a.an.length 0=({ (f.a c.1 c.2).1 with an:=(f.a c.1 c.2).1.an.eraseIdx b},T):=by have:=e.1.c;rw[ao,au]at this;exact this.symm
    have m:=@af _ (am.d.trans e.1.a.d);obtain⟨-, -, -, -, -, -, -, -, -, -,y, -⟩:=g.1.cells;rw[m]at y;have z:l.fa=S ⟨i,k,N⟩:=by rw[g.2.f];exact u.2.2
    rw[z]at y;have aw:=g.1.g;rw[m,z]at aw;obtain⟨aO,ax,p⟩:=aw;obtain⟨n,o,X,Y,az⟩:∃n o,aq V i (n++gS a.an++o).toArray 270/\n.length=k/\l.fc*2<=(gS a.an).length+o.length:=by obtain⟨p,_⟩|⟨a4,a5,p,n,o,aP,aQ,aR⟩:=p;cases p;cases p;exact⟨n,o,aP,aQ,aR⟩
    obtain⟨aA,aS⟩:=GJ a.an b c u.1;have aB:=Mb i k a.an.length l.fc b (b+1) n (gS (a.an.take b)) (qk c) (gS (a.an.drop (b+1))) o V (by rw[aA]at X;simpa [UJ]using X) Y (by rw[yj,UK];have:=t;omega) rfl (by rw[yj,U5]) (LE _) rfl (by have:=t;omega) ax;have Z:=@af _ aB;have ab:=g.1.a.b;have aD:=g.1.a.d 10;have aE:¬d=i:=λU=>g.1.e (by rw[z,U];exact eN i k);have aT:wrap64 ((b:Int)+1)=((b+1:Nat):Int):=by unfold wrap64;omega
    have A:=@cf _ _ _ Y az z;rw[show ((b+1:Nat):Int)=(b:Int)+1 from by omega]at Z;clear aB aO ax p X Y az aA aS;go_wp2_with fail;refine Uq Z ?_;rintro aN ac ⟨rfl,aF,v⟩;have C:=g.1.r (w':=ac) b c (by rw[m];exact u.1) i k n o A.2.2 A.1 (by rw[m];exact A.2.1) (by rw[m];exact aF) v;rw[m,A.2.2]at C;have W(_:=()):∃q,aY (ac.setCell ⟨d,10,N⟩ (L (S ⟨i,k,N⟩) (a.an.length-1) l.fc)) d (a.h a.an.length 0).1 q/\cT j (ac.setCell ⟨d,10,N⟩ (L (S ⟨i,k,N⟩) (a.an.length-1) l.fc)) d h q:=⟨l,by rw[av,m];exact C.1,g.2.a C.2⟩
    have a6:=(v.h d 10 ab aE).trans aD;have ai:=(v.f d 10 ab aE).trans y;have a7:=Un ab v.size;clear C aF v Z y aD aT;go_wp2;go_ret;exact⟨by rw[av];rfl,W⟩
  .have aU:b=a.an.length:=by omega
   subst aU;have aG(_:=()):a.h a.an.length 0=(f,F):=by rw[<-e.1.c,Ww,ay.h]
   clear x E;go_wp2;go_ret;exact⟨by rw[aG];rfl,s,by rw[aG];exact e.1.b,e.1.d⟩
end Go.Proofs.YtlfijfodklhplaaGreat
