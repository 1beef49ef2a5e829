import Derived.Test.YtlfijfodklhplaaGreatAl31
import Derived.Test.YtlfijfodklhplaaGreatAl21
set_option maxRecDepth 100000
set_option maxHeartbeats 4000000
set_option linter.all false
open Go.RowKit Go.Proofs.Tryz
open Go.Value renaming int->I,slice->L,pointer->P,bool->B
open Go.IntKind renaming i64->J
open Option renaming some->S,none->N
open Bool renaming true->T,false->F
namespace Go.Proofs.YtlfijfodklhplaaGreat
def Qv(k:Nat){b:List Ed}{c a}(d:b[c]?=S a)(e:a.a=(k:Int)\/a.b=(k:Int)):cN k (b.take (c+1))=cN k (b.take c)++[a]:=by unfold cN;rw[pM d,U2];simp[e]
def Qu(k:Nat){a:List Ed}{b c}(d:a[b]?=S c)(e:¬(c.a=(k:Int)\/c.b=(k:Int))):cN k (a.take (b+1))=cN k (a.take b):=by unfold cN;rw[pM d,U2];simp[e]
def PP(k:Nat)(c aX aZ q)(a0:RV q 30 3 aX c.length aZ (cA c))(ax:(c.length:Int)<=900)(az:(k:Int)<1000)(a1:∀a∈c,∃i j z:Nat,a=⟨(i:Int),(j:Int),(z:Int)⟩/\(i:Int)<1000/\(j:Int)<1000/\(z:Int)<=1000):
 Calls prog 61 #[.int J k,L aX c.length aZ] q λa2 aA=>∃r p g n,a2= .returned (.agg #[P (S ⟨r,0,N⟩),L g (cN k c).length n])/\aY aA r (ay.g (fZ (cN k c))) p/\RV aA 181 25 g (cN k c).length n (fY ((cN k c).map (kh k)))/\ae aa q aA/\(∀b,iL r p b->q.heap.size<=b/\¬ag g b)/\∀b,ag g b->q.heap.size<=b:=by
 have aB:=@cf _ _ _ a0 ax a1;clear a0 a1;go_enter func61,ntmps61;go_wp2_with fail;obtain⟨bt,V⟩:=ah ((q.alloc (Obj.cells #[P N,L N 0 0] 125)).alloc (Obj.cells #[P N,L N 0 0] 125));obtain⟨l,aD⟩:=ah q.heap.size;obtain⟨d,aE⟩:=ah (q.heap.size+1);have bu(_:=()):un q bt k [] l d N 0 N 0:=by refine⟨by rw[V];exact((ae.a aa q).b _).b _,?_,?_,RV.d _ _ _,RV.d _ _ _,⟨by omega,by omega,by omega⟩,λb h=>(b8 b h).elim,λb h=>(b8 b h).elim⟩;rw[V,aD];exact(aq.e q _ _).g _;rw[V,aE];exact aq.h _ _ _ _ (by simp)
 rw[<-V,<-aE,<-aD];clear V aD aE;go_loopw [6,11] (λW v wr=>∃(e:Nat)(g:Option Addr)(n:Nat)(G:Option Addr)(wc:Nat),e<=c.length/\v= .int J e/\W=L G (cN k (c.take e)).length wc/\un q wr k (cN k (c.take e)) l d g n G wc) λ_ v _=>c.length-(intOf v).toNat;case atStart=>exact⟨0,N,0,N,0,by omega,rfl,rfl,bu⟩
 case round=>
  obtain⟨e,g,n,G,ak,aF,rfl,rfl,f⟩:=hrel;have s:=@aC _ _ f aF;have aG:(cN k (c.take e)).length<=900:=by have t:=VP (λa:Ed=>decide (a.a=(k:Int)\/a.b=(k:Int))) (c.take e);rw[UK]at t;have w:(cN k (c.take e)).length=(List.filter (λa:Ed=>decide (a.a=(k:Int)\/a.b=(k:Int))) (c.take e)).length:=rfl;omega
  obtain⟨o,H⟩:=ah ((cN k (c.take e)).length);have y(_:=()):o=(cN k (c.take e)).length/\o<=900:=⟨H,by rw[H];exact aG⟩
  rw[<-H];have al:wr.cell? ⟨d,1,N⟩=S (L g o n):=by rw[f.c.a,H];rfl
  have aH:=f.c.d 1;have A:=f.c.b;by_cases X:e<c.length
  .have Y:=@af _ X;have aI:(e:Int)<c.length:=by omega
   have b4:(e:Int)<1000:=by omega
   obtain⟨a,am⟩:∃a,c[e]?=S a:=⟨_,Um X⟩
   obtain⟨b,b5,a3,bv,an,C,ao⟩:=uA (aB.1.a f.e λ_ _ a=>a) am X;obtain⟨i,j,z,rfl,a4,a5,a6⟩:=aB.2.2 a (Uo am);have aJ:=@af _ am;simp only at an C ao;rw[a3];clear aF X f H aG am a3;have aK:=@gA _ _ _ _ a4 a5 a6 az;clear a4 a5 a6 az ax;go_upto_region 6 with fail;obtain⟨u,ar⟩:=ah (wr.alloc (Obj.cells #[I J i,I J j,I J z] 30));have Z:ae aa wr u:=by rw[ar];exact(ae.a aa wr).b _
   have K:aq u wr.heap.size #[I J i,I J j,I J z] 30:=by rw[ar];exact aq.e _ _ _
   rw[<-ar];obtain⟨D,aL⟩:=ah wr.heap.size;rw[<-aL]at K|-;have bw:u.cell? ⟨D,0,N⟩=S (I J i):=by rw[K.a];rfl
   have bx:u.cell? ⟨D,1,N⟩=S (I J j):=by rw[K.a];rfl
   have a7:u.cell? ⟨D,2,N⟩=S (I J z):=by rw[K.a];rfl
   have aM:=K.b;have aN:=(Z.f d 1 A id).trans al;have aO:=(Z.h d 1 A id).trans aH;have ab:=Un A Z.size;have R:=@cf _ _ _ Z aL K;clear ar Z K aL an C ao bv al aH A;obtain⟨au,a8⟩:∃au:Bool,au=((i:Int) != (k:Int)&&(j:Int) != (k:Int)):=⟨_,rfl⟩
   go_cut [24] λv bz=>v=B au/\bz=u;case first=>
    clear s aB y Y aJ aK R aN aO ab aI;go_wp2;all_goals
     go_meet;case rel=>exact⟨by simp_all,rfl⟩
   case rest=>
    obtain⟨rfl,a9⟩:=hcut;rw[a9];clear a9;have ba:=@af _ a8;clear a8;cases au with
    |true=>
     have bA(_:=()):¬((i:Int)=k\/(j:Int)=k):=by have t:=ba;intro E;obtain E|E:=E<;>rw[E]at t<;>simp at t
     clear bw bx a7 aM aN aO ab;go_wp2;have ac:=Qu k aJ bA;refine⟨⟨e+1,g,n,G,ak,by have:=Y;omega,by go_num,?_,by rw[ac];exact s.1.i R.1⟩,by have:=Y;simp[intOf];omega⟩;rw[ac,<-y.1]
    |false=>
     have bb(_:=()):((i:Int)=k\/(j:Int)=k):=by
      have:=ba;obtain E|E:=Classical.em ((i:Int)=k);exact Ur E;obtain w|w:=Classical.em ((j:Int)=k);exact Up w;exfalso;have C:((i:Int) != (k:Int))=T:=by simpa using E
      have ao:((j:Int) != (k:Int))=T:=by simpa using w
      rw[C,ao]at this;cases this
     have b6:(i:Int)+j<2000:=by have:=aK;omega
     have bB:0<=(i:Int)+j-(k:Int):=by have:=bb;omega
     have b7:(i:Int)+j-(k:Int)<2000:=by have:=aK;omega
     have bc(_:=()):RV u 181 25 g o n (fY ((cN k (c.take e)).map (kh k))):=by rw[y.1];exact s.1.g.a R.1 λ_ _ a=>a
     obtain⟨bC,aP⟩:=ah (fY ((cN k (c.take e)).map (kh k)));rw[<-aP]at bc;have bd(_:=()):(∀b,ag g b->b<wr.heap.size/\b≠d):=λb h=>⟨s.1.g.b b h,(s.1.a b h).2.1⟩
     have bD(_:=()):∀(M:Obj)(m:World),ae (ag g) (u.alloc M) m->(∃W,m.cell? ⟨d,1,N⟩=S W)/\m.frozen? ⟨d,1,N⟩=F/\d<m.heap.size/\m.cell? ⟨D,2,N⟩=S (I J z)/\D<m.heap.size:=λM m O=>by
      have ad:=(ae.a aa u).b M;have be:¬ag g d:=λa=>(bd () d a).2 rfl;have bE:¬ag g D:=λa=>by have:=(bd () D a).1;rw[R.2.1]at this;omega
      have t:=Un ab ad.size;have w:=Un aM ad.size;exact⟨⟨_,(O.f d 1 t be).trans ((ad.f d 1 ab id).trans aN)⟩,(O.h d 1 t be).trans ((ad.h d 1 ab id).trans aO),Un t O.size,(O.f D 2 w bE).trans ((ad.f D 2 aM id).trans a7),Un w O.size⟩
     obtain⟨bf,aQ⟩:=ah (gT (fZ (cN k (c.take e))));have bF(_:=()):∀(M:Obj)(m:World)(v:Value),ae (ag g) (u.alloc M) m->RV (m.setCell ⟨d,1,N⟩ v) 3 1 G o ak bf:=λM m v O=>by have U:=s.1.h;rw[<-y.1,<-aQ]at U;exact((U.a (R.1.b M) λ_ _ a=>a).a O λb h a=>(s.1.d b h).2.2.2 a).a ((ae.a (ap d) m).e (p:=⟨d,1,N⟩) (λ_=>rfl) v) λb h a=>(s.1.d b h).2.1 a
     have bg:=@aC _ _ aP aQ;have bG:=@af _ bB;clear aP aQ;go_wp2_with (first|(at_builtin;refine jX _ rfl (.tmp 26) (.tmp 35) 123 rfl 181 (.agg #[I J 0,I J 0,L N 0 0,I J 0,I J 0,I J 0,I J 0,B F,B F,I J 0,I J 0,I J 0,B F,B F,I J 0,I J 0,I J 0,B F,B F,I J 0,I J 0,I J 0,B F,B F,L N 0 0]) 25 232 underlying123 Sy rfl g o n rfl bC (bc.c _) ⟨u.heap.size,0,N⟩ 1 1 (by omega) rfl [I J ((i:Int)+j-(k:Int)),I J 0,L N 0 0,I J 0,I J 0,I J 0,I J 0,B F,B F,I J 0,I J 0,I J 0,B F,B F,I J 0,I J 0,I J 0,B F,B F,I J 0,I J 0,I J 0,B F,B F,L N 0 0] rfl (gJ u [I J ((i:Int)+j-(k:Int)),I J 0,L N 0 0,I J 0,I J 0,I J 0,I J 0,B F,B F,I J 0,I J 0,I J 0,B F,B F,I J 0,I J 0,I J 0,B F,B F,I J 0,I J 0,I J 0,B F,B F,L N 0 0] 181 _ rfl) (by intro W ai;simp only[UZ,U9,Wc]at ai;obtain rfl|rfl|rfl|rfl|rfl|rfl|rfl|rfl|rfl|rfl|rfl|rfl|rfl|rfl|rfl|rfl|rfl|rfl|rfl|rfl|rfl|rfl|rfl|rfl|rfl:=ai<;>rfl) (by have:=y.2;omega) (by have:=y.2;omega) ?_;intro bh bi m bH bI aR;obtain⟨⟨u4,b9⟩,ca,cb,cc,cd⟩:=bD () _ m aR)|(at_builtin;refine jX _ rfl (.tmp 38) (.tmp 41) 25 rfl 3 (I J 0) 1 8 underlying25 Bn rfl G o ak rfl bf ((bF () _ m _ aR).c _) ⟨m.heap.size,0,N⟩ 1 1 (by omega) rfl [I J z] rfl (gJ (m.setCell ⟨d,1,N⟩ (L bh (o+1) bi)) [I J z] 3 _ (by simp)) (by intro W ai;simp at ai;rw[ai];rfl) (by have:=y.2;omega) (by have:=y.2;omega) ?_;intro bJ bK ce bL bM bN));have ac:=Qv k aJ bb;have bO:pJ (kh k ⟨(i:Int),(j:Int),(z:Int)⟩)=[I J ((i:Int)+j-(k:Int)),I J 0,L N 0 0,I J 0,I J 0,I J 0,I J 0,B F,B F,I J 0,I J 0,I J 0,B F,B F,I J 0,I J 0,I J 0,B F,B F,I J 0,I J 0,I J 0,B F,B F,L N 0 0]:=by show I J ((((i:Int)+j-(k:Int)).toNat:Nat):Int)::En.e.cells Pl.a=_;rw[VV bG,A6]
     obtain⟨bP,cg⟩:=y;subst bP;have bQ:=s.1.j ⟨(i:Int),(j:Int),(z:Int)⟩ (R.1.b _) ((ae.a aa _).b _) (by rw[<-bg.1,bO];exact bH) bI aR (by rw[<-bg.2];exact bL) bM bN;refine⟨⟨e+1,bh,bi,bJ,bK,by have:=Y;omega,by go_num,?_,by rw[ac];exact bQ⟩,by have:=Y;simp[intOf];omega⟩;rw[ac,Uu];rfl
  .have bR(_:=()):e=c.length:=by have:=s.2;omega
   have aI:¬((e:Int)<c.length):=by omega
   have bj:wr.cell? ⟨d,0,N⟩=S (P N):=by rw[f.c.a];rfl
   have bk:=f.c.d 0;have bl:wr.cell? ⟨l,0,N⟩=S (P N):=by rw[f.b.a];rfl
   have bm:wr.cell? ⟨l,1,N⟩=S (L N 0 0):=by rw[f.b.a];rfl
   have bn:=f.b.d 0;have bo:=f.b.d 1;have Q:=f.b.b;have aS:=@af _ (PU (fZ (cN k (c.take e))) G ak wr (by have U:=f.h;have a:(fZ (cN k (c.take e))).length=(cN k (c.take e)).length:=(by simp[fZ]);rw[a];exact U) (by simp[fZ];omega));have C:(fZ (cN k (c.take e))).length=o:=by rw[H];simp[fZ]
   rw[C]at aS;have bS:=f.f.2.2;clear aF X f H aG ax az C;go_wp2_with fail;refine Uq aS ?_;rintro a2 aj ⟨r,p,rfl,bp,x,bq⟩;have bT:=(x.f d 0 A id).trans bj;have bU:=(x.f d 1 A id).trans al;have bV:=(x.h d 0 A id).trans bk;have bW:=(x.f l 0 Q id).trans bl;have bX:=(x.f l 1 Q id).trans bm;have bY:=(x.h l 0 Q id).trans bn;have bZ:=(x.h l 1 Q id).trans bo;have b0:=Un A x.size;have b1:=Un Q x.size;have aT:=@nh _ _ _ _ _ _ bp x bq A Q bS;clear bj al bk aH bl bm bn bo A Q aS bp x bq aI;go_wp2;obtain⟨av,aw⟩:=ah (((aj.setCell ⟨d,0,N⟩ (P (S ⟨r,0,N⟩))).setCell ⟨l,0,N⟩ (P (S ⟨r,0,N⟩))).setCell ⟨l,1,N⟩ (L g o n));have aU:ae (λb=>b=d\/b=l) aj av:=by rw[aw];exact(((ae.a (λb=>b=d\/b=l) aj).e (p:=⟨d,0,N⟩) (λ_=>Ur rfl) _).e (p:=⟨l,0,N⟩) (λ_=>Up rfl) _).e (p:=⟨l,1,N⟩) (λ_=>Up rfl) _
   have aV:aq av l #[P (S ⟨r,0,N⟩),L g o n] 125:=by
    have U:=(s.1.b.c aT.2.1 id)
    have t:aq (aj.setCell ⟨d,0,N⟩ (P (S ⟨r,0,N⟩))) l #[P N,L N 0 0] 125:=U.c ((ae.a (ap d) aj).e (p:=⟨d,0,N⟩) (λ_=>rfl) _) λa=>aT.2.2.2.2.2 a;have w:=(t.f 0 (P (S ⟨r,0,N⟩))).f 1 (L g o n);rw[<-aw]at w;exact w
   rw[<-aw];have b2:av.cell? ⟨l,0,N⟩=S (P (S ⟨r,0,N⟩)):=by rw[aV.a];rfl
   have b3:av.cell? ⟨l,1,N⟩=S (L g o n):=by rw[aV.a];rfl
   clear bT bU bV bW bX bY bZ b0 b1 aw aV;refine UO (v:= .agg #[P (S ⟨r,0,N⟩),L g o n]) (by simp[results,results61,go_sem,b2,b3]) rfl ?_;obtain⟨br,bs,aW,ch,ci,cj⟩:=aT;have f:=s.1;have an:cN k (c.take e)=cN k c:=by rw[bR,Vu]
   have C:=y.1;rw[an]at f br C;refine⟨r,p,g,n,by rw[C],br.b aU λb h a=>?_,?_,?_,λb h=>⟨UM f.e.size (aW b h),λa=>?_⟩,λb h=>(f.a b h).1⟩;have:=aW b h;obtain a|a:=a<;>omega;exact(f.g.a bs λ_ _ a=>a).a aU λb h a=>by obtain a|a:=a;exact(f.a b h).2.1 a;exact(f.a b h).2.2 a
   exact(f.e.c bs).g aU λb h a=>by have t:=f.f;obtain a|a:=a<;>omega
   have t:=aW b h;have w:=f.g.b b a;omega
def wJ{h:Type}{a}{e d:h}{b}(c:(a++[e])[b]?=S d):(b<a.length/\a[b]?=S d)\/(b=a.length/\d=e):=by by_cases f:b<a.length;rw[Ux f]at c;exact Ur ⟨f,c⟩;rw[Ut (by omega)]at c;obtain⟨i,g⟩:=Ul.1 c;simp at i g;exact Up ⟨by omega,g.symm⟩
def py.c(e):py e En.e Pl.a where
 sX:=rfl
 vH:=RV.d _ _ _
 us:=RV.d _ _ _
 gl:=rfl
 uq:=λb j f g=>by simp[Pl.a]at g
 wo:=λd c=>(b8 d c).elim
 gw:=λd c=>by simp[Pl.a]at c
 gn:=Wz
 xW:=λh a=>by simp[En.e]at a
 xV:=by simp[En.e]
 vD:=by simp[En.e]
 kn:=λb h a=>by
  match b,a with
  |0,a=>simp[En.e]at a
  |1,a=>simp[En.e]at a
  |2,a=>simp[En.e]at a
  |3,a=>simp[En.e]at a
  |b+4,a=>simp[En.e]at a
 xU:=λf i=>by simp[En.e]at i
def gZ(a:Nat)(b:List Ed)(c:Option Addr)(d:Nat)(e:List Sp)(f:Option Addr)(g:Nat):Nt:=⟨a,87,b,c,d,e,f,g,[],N,0,λ_=>False⟩
structure rU(e wr:World)(k f:Nat)(a:List Ed)(g:Option Addr)(h:Nat)(b:List Sp)(i:Option Addr)(j:Nat):Prop where
 sR:ae aa e wr
 oC:bn wr (gZ f a g h b i j)
 sU:b.length=k
 xR:∀(c:Nat)(d:Sp),b[c]?=S d->d.n=ay.g (fZ (cN c a))/\d.ss=(cN c a).map (kh c)
 oB:∀l,(gZ f a g h b i j).c l->e.heap.size<=l
def rU.c{l wr e m g f}(k:ae aa l wr)(s:l.heap.size<=e)(t:aq wr e #[L f g.length m,L N 0 0,L N 0 0] 87)(u:RV wr 30 3 f g.length m (cA g))(hn:∀a,ag f a->l.heap.size<=a/\a≠e):rU l wr 0 e g f m [] N 0 where
 sR:=k
 oC:=by
  refine⟨t,u,RV.d _ _ _,RV.d _ _ _,λp h=>(by cases h),Xc,λc i d=>(by simp[gZ]at d),λc i d=>(by simp[gZ]at d),λc i d=>(by simp[gZ]at d),λa b=>b.elim,?_⟩;have n:∀c a,(gZ e g f m [] N 0).b c a->(c= .fV/\a=e)\/(c= .iB/\ag f a):=by
   intro c a b;cases c with
   |fV=>exact Ur ⟨rfl,b⟩
   |iB=>exact Up ⟨rfl,b⟩
   |gk=>exact(b8 a b).elim
   |dY=>exact(b8 a b).elim
   |eY=>obtain⟨p,h,_⟩:=b;cases h
   |ep=>exact b.elim
   |cZ c v=>obtain⟨i,d,_⟩:=b;simp[gZ]at d
  intro c q a w r;obtain⟨rfl,o⟩|⟨rfl,o⟩:=n c a w;obtain⟨rfl,j⟩|⟨rfl,j⟩:=n q a r;rfl;exact((hn a j).2 o).elim;obtain⟨rfl,j⟩|⟨rfl,j⟩:=n q a r;exact((hn a o).2 j).elim;rfl
 sU:=rfl
 xR:=λc i d=>by simp at d
 oB:=by
  rintro a ⟨c,x,b⟩;cases c with
  |fV=>rw[show a=e from b];exact s
  |iB=>exact(hn a b).1
  |gk=>exact(b8 a b).elim
  |dY=>exact(b8 a b).elim
  |eY=>obtain⟨p,h,_⟩:=b;cases h
  |ep=>exact(x rfl).elim
  |cZ c v=>obtain⟨i,d,_⟩:=b;simp[gZ]at d
def rU.b{aj wr w1 O y k f r z u e s l o h}(A:rU aj wr k f e s r h l z){w p v E}(Z:aY w1 w (ay.g (fZ (cN k e))) p)(ab:RV w1 181 25 v (cN k e).length E (fY ((cN k e).map (kh k))))(ak:ae aa wr w1)(K:∀a,iL w p a->wr.heap.size<=a/\¬ag v a)(M:∀a,ag v a->wr.heap.size<=a)(ac:ae aa w1 O)(av:RV y 125 2 o (h.length+1) u (nR h++[P (S ⟨w,0,N⟩),L v (cN k e).length E]))(U:(o=l/\u=z)\/(o=S ⟨O.heap.size,0,N⟩/\ae aa O y))(al:ae (ag l) O y):
 rU aj (y.setCell ⟨f,1,N⟩ (L o (h.length+1) u)) (k+1) f e s r (h++[⟨w,ay.g (fZ (cN k e)),p,v,E,(cN k e).map (kh k)⟩]) o u:=by
 have aw:=A.sU;have x:=A.oC;have aK:f<wr.heap.size:=x.fq.b;have aL:=ak.size;have aM:=ac.size;have H:∀b a,(gZ f e s r h l z).b b a->a<wr.heap.size:=x.g;have V:∀b a,b≠Pt.gk->(gZ f e s r h l z).b b a->¬ag l a:=λb a m d c=>m (x.fk b .gk a d c);have am:∀b a,b≠Pt.fV->(gZ f e s r h l z).b b a->a≠f:=λb a m d c=>m (x.fk b .fV a d c);have ax:∀a,ag l a->a<wr.heap.size:=λa d=>H .gk a d;have an:ae (ag l) wr y:=((ak.c ac).d λ_ _ c=>c.elim).c al;obtain⟨Q,ad⟩:∃Q,Q=y.setCell ⟨f,1,N⟩ (L o (h.length+1) u):=⟨_,rfl⟩
 have af:ae (ap f) y Q:=by rw[ad];exact(ae.a (ap f) y).e (p:=⟨f,1,N⟩) (λ_=>rfl) _
 rw[<-ad];have G:∀a,ag o a->ag l a\/O.heap.size<=a:=λa d=>by obtain⟨W,_⟩|⟨W,_⟩:=U;grind;rw[W]at d;exact Up (by rw[cM.1 d];exact UF _)
 have az:∀a,ag o a->a≠f:=λa d c=>by obtain j|j:=G a d;exact am .gk a (by simp) j c;omega
 have R:ae (λa=>ag l a\/a=f) wr Q:=(an.d λb _ c=>Ur c).g af λb _ c=>Up c;have ao:ae (λa=>ag l a\/a=f) w1 Q:=(((ac.d λ_ _ c=>c.elim).c al:ae (ag l) w1 y).d λb _ c=>Ur c).g af λb _ c=>Up c;have aq:∀a,wr.heap.size<=a->¬(ag l a\/a=f):=λa d c=>by obtain c|c:=c;have:=ax a c;omega;omega
 have X:∀b a,b≠Pt.gk->b≠Pt.fV->(gZ f e s r h l z).b b a->¬(ag l a\/a=f):=λb a i aA d c=>by obtain c|c:=c;exact V b a i d c;exact am b a aA d c
 have aB:∀(q:Nat)(C:Sd),((cN k e).map (kh k))[q]?=S C->C.e=En.e/\C.p=Pl.a:=λq C U=>by rw[Uz]at U;obtain⟨c,_,rfl⟩:=UD.1 U;exact⟨rfl,rfl⟩
 have aN:∀a,¬gD Pl.a a:=λa c=>by obtain c|c|c:=c;exact b8 a c;exact b8 a c;simp[Pl.a]at c
 have ah:∀b a,(gZ f e s r (h++[⟨w,ay.g (fZ (cN k e)),p,v,E,(cN k e).map (kh k)⟩]) o u).b b a->(b≠ .gk/\(∀ai,b≠ .cZ h.length ai)/\(gZ f e s r h l z).b b a)\/(b= .gk/\ag o a)\/(b= .cZ h.length .ic/\iL w p a)\/(b= .cZ h.length .fP/\ag v a):=by
  intro b a d;cases b with
  |fV=>exact Ur ⟨by simp,by simp,d⟩
  |iB=>exact Ur ⟨by simp,by simp,d⟩
  |gk=>exact Up (Ur ⟨rfl,d⟩)
  |dY=>exact Ur ⟨by simp,by simp,d⟩
  |eY=>exact Ur ⟨by simp,by simp,d⟩
  |ep=>exact d.elim
  |cZ b ai=>
   obtain⟨t,D,d⟩:=d;obtain⟨m,i⟩|⟨m,i⟩:=wJ D;exact Ur ⟨by simp,λaO c=>by cases c;omega,t,i,d⟩;subst m;subst i;cases ai with
   |ic=>exact Up (Up (Ur ⟨rfl,d⟩))
   |fP=>exact Up (Up (Up ⟨rfl,d⟩))
   |dX q=>
    obtain⟨C,Y,aP⟩:=d;grind
 refine⟨?_,?_,by simp[aw],?_,?_⟩;exact A.sR.g R λb m c=>by obtain c|c:=c;have:=A.oB b ⟨.gk,by simp,c⟩;omega;have:=A.oB f ⟨.fV,by simp,rfl⟩;omega
 refine⟨?_,?_,?_,RV.d _ _ _,λj aC=>(by cases aC),Xc,?_,?_,?_,λa d=>d.elim,?_⟩;have ar:=(x.fq.c an (V .fV f (by simp) rfl)).f 1 (L o (h.length+1) u);rw[show (gZ f e s r h l z).nb=f from rfl,<-ad]at ar;have c:(gZ f e s r (h++[⟨w,ay.g (fZ (cN k e)),p,v,E,(cN k e).map (kh k)⟩]) o u).cells=((gZ f e s r h l z).cells).setIfInBounds 1 (L o (h.length+1) u):=by simp[Nt.cells,gZ]
 rw[c];exact ar;exact x.oy.a R (λa d=>X .iB a (by simp) (by simp) d);have W:(gZ f e s r (h++[⟨w,ay.g (fZ (cN k e)),p,v,E,(cN k e).map (kh k)⟩]) o u).aK.length=h.length+1:=by simp[gZ]
 have aD:nR (gZ f e s r (h++[⟨w,ay.g (fZ (cN k e)),p,v,E,(cN k e).map (kh k)⟩]) o u).aK=nR h++[P (S ⟨w,0,N⟩),L v (cN k e).length E]:=by simp[gZ,nR,sr]
 rw[W,aD];exact(av.a af λa d c=>az a d c);intro b t D;obtain⟨m,i⟩|⟨m,i⟩:=wJ D;exact(x.kI b t i).b R (λa d=>X (.cZ b .ic) a (by simp) (by simp) ⟨t,i,d⟩);subst i;exact Z.b ao λa d=>aq a (K a d).1;intro b t D;obtain⟨m,i⟩|⟨m,i⟩:=wJ D;exact(x.nH b t i).a R (λa d=>X (.cZ b .fP) a (by simp) (by simp) ⟨t,i,d⟩);have aQ:=ab.a ao λa d=>aq a (M a d);grind;intro b t D q C Y;obtain⟨m,i⟩|⟨m,i⟩:=wJ D;exact(x.j8 b t i q C Y).a R (λa d=>X (.cZ b (.dX q)) a (by simp) (by simp) ⟨t,i,C,Y,d⟩);subst i;obtain⟨aE,aF⟩:=aB q C Y;rw[aE,aF];exact py.c _;intro b q a m aG;obtain⟨au,aH,g⟩|⟨rfl,g⟩|⟨rfl,g⟩|⟨rfl,g⟩:=ah b a m<;>obtain⟨aI,aR,n⟩|⟨rfl,n⟩|⟨rfl,n⟩|⟨rfl,n⟩:=ah q a aG;exact x.fk b q a g n;obtain j|j:=G a n;exact(V b a au g j).elim;have:=H b a g;omega;have:=H b a g;have:=(K a n).1;omega;have:=H b a g;have:=M a n;omega;obtain j|j:=G a g;exact(V q a aI n j).elim;have:=H q a n;omega;rfl;have:=(K a n).1;have:=Z.n a n;obtain j|j:=G a g;grind;omega;have:=M a n;have:=ab.b a n;obtain j|j:=G a g;grind;omega;have:=H q a n;have:=(K a g).1;omega;have:=(K a g).1;have:=Z.n a g;obtain j|j:=G a n;grind;omega;rfl;grind;have:=H q a n;have:=M a g;omega;have:=M a g;have:=ab.b a g;obtain j|j:=G a n;grind;omega;grind;rfl;intro b t D;obtain⟨m,i⟩|⟨m,i⟩:=wJ D;exact A.xR b t i;grind;rintro a ⟨b,aJ,d⟩;have aS:=A.sR.size;obtain⟨au,aH,g⟩|⟨rfl,g⟩|⟨rfl,g⟩|⟨rfl,g⟩:=ah b a d;exact A.oB a ⟨b,aJ,g⟩;obtain j|j:=G a g;exact A.oB a ⟨.gk,by simp,j⟩;omega;have:=(K a g).1;omega;have:=M a g;omega
def rU.a{m wr k e f g c h i a}(d:rU m wr k e c h f a i g):(gZ e c h f a i g).a=AN.i k c:=by unfold Nt.a AN.i gZ;simp only[List.map_nil,AN.mk.injEq,XU,XT];apply Vc;intro b;by_cases j:b<k;have l:a[b]?=S (a[b]'(by rw[d.sU];exact j)):=Um _;obtain⟨n,o⟩:=d.xR b _ l;rw[Uz,Uz,l,Xn j];simp only[Wv,VO];unfold Sp.a mO;rw[n,o,Wj];rfl;rw[VI (by simp[d.sU];omega),VI (by simp;omega)]
def bn.A{d w' N}(e:bn d N){nb ty}(k:ae aa d w')(g:d.heap.size<=nb)(h:aq w' nb N.cells ty):bn w' {N with nb:=nb,ty:=ty}:=by
 have a:=e.a k λ_ _ i=>i;refine⟨h,a.oy,a.pu,a.pt,a.l5,a.oz,a.kI,a.nH,a.j8,a.oA,?_⟩;refine ya (N:=N) (z:=d.heap.size) (λc=>c= .fV) e.fk e.g ?_ ?_ ?_;intro c j f b;cases c with
 |fV=>exact(j rfl).elim
 |iB=>exact b
 |gk=>exact b
 |dY=>exact b
 |eY=>exact b
 |ep=>exact b
 |cZ c l=>exact b
 rintro c rfl f b;exact Up (by rw[show f=nb from b];exact g);grind
def LR(g k d b a)(m:mU a g k b)(n:g<a.heap.size)(o:0<b.length)(p:(b.length:Int)<1000):
 Calls prog 57 #[L (S ⟨g,k,N⟩) b.length d] a λA q=>∃e h,A= .returned (L e b.length h)/\RV q 30 3 e b.length h (cA b)/\ae aa a q/\∀f,ag e f->a.heap.size<=f:=by
 have c:=@gA _ _ _ _ m o p n;have K:∀(a:World)(i:Option Addr)(l d:Nat),(binOp .eql 26 (L i l d) (L N 0 0)).run prog a= .ok (B i.isNone) a:=λa i l d=>Vq a 26 30 i l d 0 0 underlying26;clear m o p n;generalize C:b.length=ln at *;go_enter func57,ntmps57;have r:RV (a.alloc (.cells #[] 30)) 30 3 (S ⟨a.heap.size,0,N⟩) 0 0 []:=⟨rfl,UF _,Up ⟨a.heap.size,0,rfl,[],[],aq.e _ _ _,rfl,UF _⟩⟩
 have s:=EJ (c.1.a ((ae.a aa a).b (.cells #[] 30)) c.2.2.2 λD=>D);have t:(cA b).length=ln*3:=by rw[tf,C]
 have u:=A9 b;go_wp2_with (at_builtin;refine jX _ rfl (.tmp 5) (.tmp 6) 26 rfl 30 (.agg #[I J 0,I J 0,I J 0]) 3 24 underlying26 qn rfl (S ⟨a.heap.size,0,N⟩) 0 0 rfl [] r ⟨g,k,N⟩ ln d c.2.1 rfl (cA b) t s u (by have:=c.2.2;omega) (by have:=c.2.2;omega) ?_;intro e h E j v G);have w:ae aa a E/\∀f,ag e f->a.heap.size<=f:=by obtain⟨x,y⟩|⟨x,y⟩:=v;have:=j.2.1;have:=c.2.1;omega;refine⟨((ae.a aa a).b _).c y,λf z=>?_⟩;rw[x]at z;rw[cM.1 z];simp
 rw[Ve,VG]at j;have H:=@af _ j;clear j v G r s t u c;go_wp2;go_ret;exact⟨e,h,by simp,H,w.1,w.2⟩
def LQ(a):
 Cr 57 #[L N 0 0] a (L N 0 0) λe=>e=a:=by
 have f:∀(a:World)(b:Option Addr)(c d:Nat),(binOp .eql 26 (L b c d) (L N 0 0)).run prog a= .ok (B b.isNone) a:=λa b c d=>Vq a 26 30 b c d 0 0 underlying26;go_enter func57,ntmps57;go_wp2;go_ret;exact⟨rfl,rfl⟩
def LO(k c a):
 Calls prog 57 #[L (S k) 0 c] a λr l=>∃d f,r= .returned (L d 0 f)/\RV l 30 3 d 0 f []/\ae aa a l/\∀b,ag d b->a.heap.size<=b:=by
 have x:∀(a:World)(g:Option Addr)(h c:Nat),(binOp .eql 26 (L g h c) (L N 0 0)).run prog a= .ok (B g.isNone) a:=λa g h c=>Vq a 26 30 g h c 0 0 underlying26;go_enter func57,ntmps57;have m:RV (a.alloc (.cells #[] 30)) 30 3 (S ⟨a.heap.size,0,N⟩) 0 0 []:=⟨rfl,UF _,Up ⟨a.heap.size,0,rfl,[],[],aq.e _ _ _,rfl,UF _⟩⟩
 go_wp2_with (at_builtin;refine zp _ rfl (.tmp 5) (.tmp 6) 26 rfl 30 (.agg #[I J 0,I J 0,I J 0]) 3 24 underlying26 qn rfl (S ⟨a.heap.size,0,N⟩) 0 0 rfl [] m (S k) 0 c rfl [] rfl (λy=>by omega) (by intro z s;cases s) (by omega) (by omega) ?_;intro d f t n o p);have q:ae aa a t/\∀b,ag d b->a.heap.size<=b:=by have u:=(ae.a aa a).g ((((ae.a aa a).b _).d (ex':=ag (S ⟨a.heap.size,0,N⟩)) λ_ _ i=>i.elim).c p) (λb e i=>by have:=cM.1 i;omega);refine⟨u,λb e=>?_⟩;obtain⟨j,v⟩|⟨j,v⟩:=o;rw[j]at e;rw[cM.1 e];exact UF _;rw[j]at e;rw[cM.1 e];simp
 have w:=@af _ n;clear n o p m;go_wp2;go_ret;exact⟨d,f,by simp,w,q.1,q.2⟩
def ux(a b:Int):Int:=if a<b then-1 else if b<a then 1 else 0
def LW(a b d):
 Cr 60 #[.int J a,.int J b] d (.int J (ux a b)) λf=>f=d:=by
 unfold ux;go_enter func60,ntmps60;by_cases c:a<b
 .go_wp2;go_ret;exact⟨by simp[c],rfl⟩
 by_cases e:b<a
 .go_wp2;go_ret;exact⟨by simp[c,e],rfl⟩
 .go_wp2;go_ret;exact⟨by simp[c,e],rfl⟩
end Go.Proofs.YtlfijfodklhplaaGreat
