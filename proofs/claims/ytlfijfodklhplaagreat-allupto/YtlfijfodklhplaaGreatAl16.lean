import Derived.Test.YtlfijfodklhplaaGreatAl09
import Derived.Test.YtlfijfodklhplaaGreatAl15
set_option maxRecDepth 100000
set_option maxHeartbeats 16000000
set_option linter.all false
open Go.RowKit Go.Proofs.Tryz
open Go.Value renaming int->I,slice->L,pointer->P,bool->B
open Go.IntKind renaming i64->J
open Option renaming some->S,none->N
open Bool renaming true->T,false->F
namespace Go.Proofs.YtlfijfodklhplaaGreat
inductive bV where
 |bG (l:Nat)
 |aL (l n:Nat) (f:Bool)
 |cW (l n:Nat)
 |dG
 |dK
 |bH (w:Nat)
 |dO
def bV.a:bV->Fr.cF
 | .bG a=>⟨1,a,0,F⟩
 | .aL a b d=>⟨2,a,b,d⟩
 | .cW a b=>⟨3,a,b,F⟩
 | .dG=>⟨4,0,0,F⟩
 | .dK=>⟨5,0,0,F⟩
 | .bH c=>⟨6,0,if c=1001 then 0 else c,F⟩
 | .dO=>⟨7,0,0,F⟩
def cy(a:Fr.cF):bV:=match a.a with
 |1=> .bG a.c
 |2=> .aL a.c a.b a.d
 |3=> .cW a.c a.b
 |4=> .dG
 |5=> .dK
 |6=> .bH (if a.b=0 then 1001 else a.b)
 |_=> .dO
structure ay where
 aP:Nat
 aM:Nat
 cX:Nat
 ai:List (Nat×Nat)
 cq:Option Nat
 dj:Option Nat
 bw:Nat
 cB:Option Nat
 bI:Int
 iy:Bool
 an:List (Nat×bV)
 aD:List (Nat×Fr.cF)
namespace ay
def g(a:List Nat):ay:=⟨0,0,0,a.map λb=>(b,0),N,N,1001,N,0,F,[],[]⟩
def c(a:ay)(b:Nat):Nat:=match a.ai[b]? with|some d=>d.2|none=>0
def p(a:ay)(b:Nat):Nat:=match a.ai[b]? with|some c=>c.1|none=>0
def e(a:ay)(b c:Nat):ay:= {a with ai:=a.ai.set b (a.p b,c)}
def d(a:ay)(b:Nat)(c:bV):ay:= {a with aD:=a.aD++[(b,c.a)]}
def kG:List (Nat×Nat)->Nat->Option Nat
 |[],_=>N
 |b::c,a=>if b.2=0 then S a else kG c (a+1)
def u(a:ay):Option Nat:=kG a.ai 0
def b(a:ay):ay:=
 if a.aP=0 then
  match ({a with aM:=0,aP:=2,bI:=0}:ay).u with
  |none=> {a with aM:=0,aP:=2,bI:=0,iy:=T}
  |some c=>(({a with aM:=0,aP:=2,bI:=0}:ay).e c 1).d c (.bG 0)
 else a
def j(a:ay)(c:Nat)(d e:Nat)(b:Bool):ay:=
 if b then {a.d c (.aL d e b)with bI:=wrap64 (a.bI+1)}else a.d c (.aL d e b)
def q(a:ay):ay:=
 if a.bI=0/\a.cB=N then
  match a.cq with
  |none=> {a with aP:=2}
  |some b=>({a with aP:=2}:ay).d b (.bH a.bw)
 else a
def l(a:ay):ay:=
 match a.u with
 |none=>({a with cB:=N}:ay).q
 |some b=>({a with cB:=S b}:ay).d b (.cW a.aM a.cX)
def o(a:ay)(c d e:Nat)(f:Bool):Nat->Nat->ay
 |0,_=>a
 |g+1,b=>(if b≠c/\a.c b=1 then a.j b d e f else a).o c d e f g (b+1)
def y(b:ay)(c d e:Nat)(a:Bool):ay:=
 let g:ay:= {b with aM:=d,cX:=e,aP:=if a then 1 else 2,cq:=S c,dj:=N,bw:=1001}
 let f:=g.o c d e a b.ai.length 0
 if a then f.l else f
def f(a:ay)(b:Nat):ay:=if a.c b=0 then a.e b 2 else a
def n(a:ay)(c b:Nat):ay:=if b<a.bw then {a with dj:=S c,bw:=b}else a
def s(a:ay):ay:=match a.dj with
 |none=>a
 |some b=>if a.c b=1 then a.d b .dO else (a.d b (.bG a.aM)).e b 1
def m(c:ay)(b d:Nat):ay×Bool:=
 let a:=c.b
 if d<a.aM then ((a.e b 1).j b a.aM a.cX (a.aP==1),T)
 else if a.c b=0 then (a,F)
 else (a.d b (.aL (a.aM+1) (a.p b) T),T)
def r(c:ay)(b d e:Nat):ay×Bool:=
 let a:=c.b
 if a.aM<d then (a,F)
 else if e≠a.cX then (a.d b .dG,T)
 else if a.cB=S b then ((a.f b).l,T)else ((a.f b).d b .dK,T)
def A(a:ay)(b:Nat):ay:=(({a with cB:=N}:ay).n b (a.p b)).q
def i(a:ay)(c b:Nat):ay×Bool:=
 if a.cq=S c then
  if a.aP=1 then (a,F)
  else if a.bw<b then (a.s,T)
  else if b=1001/\a.bw=1001 then ({a with iy:=T},T)else (a,T)
 else ((({a with bI:=wrap64 (a.bI-1)}:ay).n c b).q,T)
def a(b:ay)(c:Nat):bV->ay×Bool
 | .bG d=>b.m c d
 | .aL d e f=>(b.y c d e f,T)
 | .cW d e=>b.r c d e
 | .dG=>(b.A c,T)
 | .dK=>((b.f c).l,T)
 | .bH g=>b.i c g
 | .dO=>(b.s,T)
def h(b:ay):Nat->Nat->ay×Bool
 |0,_=>(b,F)
 |d+1,c=>match b.an[c]? with
  |none=>(b,F)
  |some a=>if (b.a a.1 a.2).2 then ({ (b.a a.1 a.2).1 with an:=(b.a a.1 a.2).1.an.eraseIdx c},T)else (b.a a.1 a.2).1.h d (c+1)
def v(a:ay):Nat->ay
 |0=>a
 |b+1=>if (a.h a.an.length 0).2 then (a.h a.an.length 0).1.v b else (a.h a.an.length 0).1
def w(c:ay)(a:Nat)(b:Fr.cF):ay:=
 if (c.a a (cy b)).2 then (c.a a (cy b)).1.v ((c.a a (cy b)).1.an.length+1)
 else { (c.a a (cy b)).1 with an:=(c.a a (cy b)).1.an++[(a,cy b)]}
end ay
def oi:Option Nat->Int
 |none=> -1
 |some a=>(a:Int)
def rm(a):oi (S a)=(a:Int):=rfl
def Qb:oi N= -1:=rfl
def yT{a b}(c:oi a=oi b):a=b:=by cases a<;>cases b<;>simp[oi]at c|- <;>omega
def bV.b:bV->Value
 | .bG a=> .iface 193 (.agg #[I J (a:Int)])
 | .aL a b c=> .iface 313 (.agg #[I J (a:Int),I J (b:Int),B c])
 | .cW a b=> .iface 315 (.agg #[I J (a:Int),I J (b:Int)])
 | .dG=> .iface 316 (.agg #[])
 | .dK=> .iface 317 (.agg #[])
 | .bH d=> .iface 319 (.agg #[I J (d:Int)])
 | .dO=> .iface 321 (.agg #[])
def sm(a:Nat×Nat):List Value:=[I J (a.1:Int),I J (a.2:Int)]
def jW(a:List (Nat×Nat)):List Value:=a.flatMap sm
def qk(a:Nat×bV):List Value:=[I J (a.1:Int),a.2.b]
def gS(a:List (Nat×bV)):List Value:=a.flatMap qk
def uJ(a:Nat×Fr.cF):List Value:=I J (a.1:Int)::dy a.2
def lK(a:List (Nat×Fr.cF)):List Value:=a.flatMap uJ
structure Np where
 ea:Option Addr
 ec:Nat
 fa:Option Addr
 fc:Nat
 sa:Option Addr
 sc:Nat
def eO(a:ay)(b:Np):Array Value:= #[I J (a.aP:Int),I J (a.aM:Int),I J (a.cX:Int),L b.ea a.ai.length b.ec,I J (oi a.cq),I J (oi a.dj),I J (a.bw:Int),I J (oi a.cB),I J a.bI,B a.iy,L b.fa a.an.length b.fc,L b.sa a.aD.length b.sc]
def iL(b:Nat)(a:Np)(k:Nat):Prop:=k=b\/ag a.ea k\/ag a.fa k\/ag a.sa k
structure aY(n:World)(o:Nat)(k:ay)(b:Np):Prop where
 a:aq n o (eO k b) 187
 i:RV n 190 2 b.ea k.ai.length b.ec (jW k.ai)
 g:RV n 270 2 b.fa k.an.length b.fc (gS k.an)
 j:RV n 197 5 b.sa k.aD.length b.sc (lK k.aD)
 c:¬ag b.ea o
 e:¬ag b.fa o
 f:¬ag b.sa o
 h:∀d,ag b.ea d->¬ag b.fa d
 l:∀d,ag b.ea d->¬ag b.sa d
 m:∀d,ag b.fa d->¬ag b.sa d
def aY.b{g h w' d i f}(a:aY h d i f)(k:ae g h w')(e:∀j,iL d f j->¬g j):aY w' d i f:=
 ⟨a.a.c k (e d (Ur rfl)),a.i.a k λb c=>e b (Up (Ur c)),a.g.a k λb c=>e b (Up (Up (Ur c))),a.j.a k λb c=>e b (Up (Up (Up c))),a.c,a.e,a.f,a.h,a.l,a.m⟩
def aY.n{d e g f}(c:aY d e g f):∀b,iL e f b->b<d.heap.size:=λb a=>by obtain rfl|a|a|a:=a;exact c.a.b;exact c.i.b b a;exact c.g.b b a;exact c.j.b b a
structure cT(i w':World)(b:Nat)(a d:Np):Prop where
 e:∀g,iL b d g->iL b a g\/i.heap.size<=g
 c:ae (iL b a) i w'
 f:d.fa=a.fa
 h:d.fc=a.fc
def cT.d(a c b):cT a a c b b:=⟨λ_ d=>Ur d,ae.a _ _,rfl,rfl⟩
def cT.b{b w1}(d c)(a:ae aa b w1):cT b w1 d c c:=⟨λ_ a=>Ur a,a.d λ_ _ e=>e.elim,rfl,rfl⟩
def cT.a{e w1 f d g h i}(a:cT e w1 d g h)(k:cT w1 f d h i):cT e f d g i:=
 ⟨λc j=>by
  obtain b|b:=k.e c j;exact a.e c b;exact Up (UM a.c.size b),a.c.g k.c (λc j l=>by
  obtain b|b:=a.e c l;exact b;omega),k.f.trans a.f,k.h.trans a.h⟩
def aY.d{d b g n' p}(a:aY d b g p)(f h)(k:(eO g p).setIfInBounds f h=eO n' p)(l:n'.ai=g.ai)(m:n'.an=g.an)(n:n'.aD=g.aD):
 aY (d.setCell ⟨b,f,N⟩ h) b n' p/\cT d (d.setCell ⟨b,f,N⟩ h) b p p:=by
 have j:ae (ap b) d (d.setCell ⟨b,f,N⟩ h):=(ae.a (ap b) d).e (p:=⟨b,f,N⟩) (λ_=>rfl) _;refine⟨⟨?_,?_,?_,?_,a.c,a.e,a.f,a.h,a.l,a.m⟩,⟨λ_ a=>Ur a,j.d λ_ _ e=>Ur e,rfl,rfl⟩⟩;have:=a.a.f f h;rw[k]at this;exact this;rw[l];exact a.i.a j (λi c e=>by rw[show i=b from e]at c;exact a.c c);rw[m];exact a.g.a j (λi c e=>by rw[show i=b from e]at c;exact a.e c);rw[n];exact a.j.a j λi c e=>by rw[show i=b from e]at c;exact a.f c
def PG(d):∀a b,d[a]?=S b->(jW d)[a*2]?=S (.int J b.1)/\(jW d)[a*2+1]?=S (.int J b.2):=by
 induction d with
 |nil=>intro a b c;simp at c
 |cons e f g=>
  intro a b c;have h:jW (e::f)=sm e++jW f:=by simp[jW]
  rw[h];cases a with
  |zero=>simp at c;subst c;exact⟨rfl,rfl⟩
  |succ a=>
   have:=g a b c;have i:(sm e).length=2:=rfl;rw[Ut (by omega),Ut (by omega),i,show (a+1)*2-2=a*2 by omega,show (a+1)*2+1-2=a*2+1 by omega];exact this
def aY.o{c k h i}(l:aY c k h i)(d e)(j:h.ai[d]?=S e):∃a b,i.ea=S ⟨a,b,N⟩/\a<c.heap.size/\c.cell? ⟨a,b+d*2,N⟩=S (.int J e.1)/\c.cell? ⟨a,b+d*2+1,N⟩=S (.int J e.2)/\c.frozen? ⟨a,b+d*2+1,N⟩=F:=by obtain⟨o,p,f⟩:=l.i;have q:=(Ul.1 j).1;obtain⟨_,f,_⟩|⟨a,b,f,g⟩:=f;omega;obtain⟨m,n⟩:=PG h.ai d e j;exact⟨a,b,f,g.b,g.a _ _ m,by rw[UI];exact g.a _ _ n,g.c _⟩
def bV.f:bV->FuncId
 | .bG _=>247
 | .aL _ _ _=>255
 | .cW _ _=>256
 | .dG=>257
 | .dK=>258
 | .bH _=>259
 | .dO=>260
def bV.e:bV->TypeId
 | .bG _=>193
 | .aL _ _ _=>313
 | .cW _ _=>315
 | .dG=>316
 | .dK=>317
 | .bH _=>319
 | .dO=>321
def bV.d:bV->Value
 | .bG a=> .agg #[I J (a:Int)]
 | .aL a b c=> .agg #[I J (a:Int),I J (b:Int),B c]
 | .cW a b=> .agg #[I J (a:Int),I J (b:Int)]
 | .dG=> .agg #[]
 | .dK=> .agg #[]
 | .bH d=> .agg #[I J (d:Int)]
 | .dO=> .agg #[]
def bV.g(a:bV):a.b= .iface a.e a.d:=by cases a<;>rfl
def QS(a c):Cr 259 #[(bV.bH a).d] c (mv (bV.bH a).a) λe=>ae aa c e:=by
 simp only[bV.d];by_cases b:a=1001
 .subst b;go_enter func259,ntmps259;go_wp2;refine UO (v:=mv (bV.bH 1001).a) ?_ rfl ⟨rfl,by repeat (first|exact ae.a _ _|apply ae.b)⟩;simp[results,results259,go_sem,bV.a]
 .have f:((a:Int)==1001)=F:=by rw[Uy];omega
  have g:¬(a:Int)=1001:=by omega
  have d:(bV.bH a).a=⟨6,0,a,F⟩:=by simp[bV.a,b]
  rw[d];clear d b;go_enter func259,ntmps259;go_wp2;refine UO (v:=mv ⟨6,0,a,F⟩) ?_ rfl ⟨rfl,by repeat (first|exact ae.a _ _|apply ae.b)⟩;simp[results,results259,go_sem]
def QR(a:bV)(b):Cr a.f #[a.d] b (mv a.a) λc=>ae aa b c:=by
 cases a;case bH x=>exact QS x b
 all_goals
  simp only[bV.d,bV.a,bV.f];first|go_enter func247,ntmps247|go_enter func255,ntmps255|go_enter func256,ntmps256|go_enter func257,ntmps257|go_enter func258,ntmps258|go_enter func260,ntmps260
  go_wp2;refine UO ?_ rfl ⟨rfl,by repeat (first|exact ae.a _ _|apply ae.b)⟩;simp[results,results247,results255,results256,results257,results258,results260,go_sem]
def O6(a:bV)(k b c):(method (k+1) a.e b "arbor/node.plain").run prog c= .ok (a.f,b) c:=by cases a<;>kernel_rfl
def OB:(prog.info? 197).map (λa=>(a.zero,a.size,a.bytes))=S (S (.agg #[.int J 0,.int J 0,.int J 0,.int J 0,B F]),5,40):=by kernel_rfl
def Ow(a b):lK (a++b)=lK a++lK b:=by simp[lK]
def aY.w{j w1 e d p}(c:aY j e d p)(i a' c')(s:RV w1 197 5 a' (d.aD.length+1) c' (lK d.aD++uJ i))(m:∀b,ag a' b->ag p.sa b\/j.heap.size<=b)(f:ae (ag p.sa) j w1):
 aY (w1.setCell ⟨e,11,N⟩ (L a' (d.aD.length+1) c')) e {d with aD:=d.aD++[i]} {p with sa:=a',sc:=c'}/\cT j (w1.setCell ⟨e,11,N⟩ (L a' (d.aD.length+1) c')) e p {p with sa:=a',sc:=c'}:=by
 have n:=c.a.b;have k:ae (ap e) w1 (w1.setCell ⟨e,11,N⟩ (L a' (d.aD.length+1) c')):=(ae.a (ap e) w1).e (p:=⟨e,11,N⟩) (λ_=>rfl) _;have l:∀b,b<j.heap.size->¬ag p.sa b->¬ag a' b:=λb g t a=>by obtain a|a:=m b a;exact t a;omega
 have o:=(c.a.c f λa=>c.f a).f 11 (L a' (d.aD.length+1) c');have u:(d.aD++[i]).length=d.aD.length+1:=by simp
 refine⟨⟨?_,?_,?_,?_,c.c,c.e,l e n c.f,c.h,λh q=>l h (c.i.b h q) (c.l h q),λh r=>l h (c.g.b h r) (c.m h r)⟩,⟨λh f=>?_,?_,rfl,rfl⟩⟩;have:(eO d p).setIfInBounds 11 (L a' (d.aD.length+1) c')=eO {d with aD:=d.aD++[i]} {p with sa:=a',sc:=c'}:=by simp[eO]
 rw[this]at o;exact o;exact(c.i.a f λb g a=>c.l b g a).a k (λb g a=>by rw[show b=e from a]at g;exact c.c g);exact(c.g.a f λb g a=>c.m b g a).a k (λb g a=>by rw[show b=e from a]at g;exact c.e g);rw[u,Ow];have:lK [i]=uJ i:=by simp[lK]
 rw[this];exact s.a k (λb g a=>by rw[show b=e from a]at g;exact l e n c.f g);obtain f|f|f|f:=f;exact Ur (Ur f);exact Ur (Up (Ur f));exact Ur (Up (Up (Ur f)));exact(m h f).imp (λa=>Up (Up (Up a))) id;exact(f.d λ_ _ a=>Up (Up (Up a))).c (k.d λ_ _ a=>Ur a)
def ri(c e i)(h:Nat)(b d)(j:aY d c e i)(D:(e.aD.length:Int)<1000000000000):
 Cr 109 #[P (S ⟨c,0,N⟩),.int J h,b.b] d (.tuple #[]) λm=>∃k,aY m c (e.d h b) k/\cT d m c i k:=by
 have E:=j.a.a 11;have Y:=j.a.d 11;simp[eO]at E;have l:=j.a.b;have Z:∀(s:Nat)(n:Value)(d:World),(method (s+1) b.e n "arbor/node.plain").run prog d= .ok (b.f,n) d:=λs n d=>O6 b s n d;have o(_:=()):∀p,Cr b.f #[b.d] p (mv b.a) λm=>ae aa p m:=λp=>QR b p;have t:=@aC _ _ j D;have G:=@af _ j.f;have ab(_:=()):∀f,ae aa d f->RV f 197 5 i.sa e.aD.length i.sc (lK e.aD):=λf ac=>j.j.a ac λ_ _ a=>a;have u(_:=()):e.d h b= {e with aD:=e.aD++[(h,b.a)]}:=rfl;obtain⟨ad,H⟩:=ah (e.d h b);rw[<-H]at u|-;clear j D;obtain⟨ag,K⟩:=ah b.a;rw[<-K]at o u;clear K H;generalize M:e.aD.length=ln at *;generalize ai:lK e.aD=ls at *;obtain⟨v,w,x,y⟩:=ag;simp only[mv]at o;cases b;all_goals
  simp only[bV.b,bV.d,bV.e,bV.f]at o Z|-;go_enter func109,ntmps109;go_wp2_with fail;go_region_law (first
   |(refine mj rfl (.tmp 10) (.tmp 15) 185 rfl 197 (.agg #[I J 0,I J 0,I J 0,I J 0,B F]) 5 40 underlying185 OB rfl i.sa ln i.sc (by simp[Act.eval,Act.put]) ls ((ab () f (((ae.a aa d).drew).c g)).c _) ⟨f.heap.size,0,N⟩ 1 1 (by omega) rfl [I J h,I J v,I J w,I J x,B y] rfl (gJ f [I J h,I J v,I J w,I J x,B y] 197 _ rfl) (by intro an O;simp at O;obtain rfl|rfl|rfl|rfl|rfl:=O<;>rfl) (by have:=t.2;omega) (by have:=t.2;omega) ?_;intro z A Q C R q;have U:=((((ae.a aa f).b _).d λ_ _ a=>a.elim).c q).f c 11 (Un l g.size) G;have V:=((((ae.a aa f).b _).d λ_ _ a=>a.elim).c q).h c 11 (Un l g.size) G;rw[W]at U;rw[X]at V)
   |(go_simp;refine(o () _).mono ?_;rintro ao f ⟨rfl,g⟩;have W:=(g.f c 11 l λa=>a).trans E;have X:=(g.h c 11 l λa=>a).trans Y;have aj:c<f.heap.size:=Un l g.size))
  all_goals
   have ak(_:=()):∃k,aY (Q.setCell ⟨c,11,N⟩ (L z (ln+1) A)) c ad k/\cT d (Q.setCell ⟨c,11,N⟩ (L z (ln+1) A)) c i k:=by rw[u];have al:=(((((ae.a aa d).drew).c g).b _).d λ_ _ a=>a.elim).c q;rw[<-M,<-ai]at C;rw[<-M];refine⟨_,t.1.w (h,⟨v,w,x,y⟩) z A C (λap r=>?_) al⟩;obtain⟨a,_⟩|⟨a,_⟩:=R;rw[a]at r;exact Ur r;rw[a]at r;have:=cM.1 r;have am:=g.size;simp only[Uv]at this;simp only[UR]at am;exact Up (by omega)
   clear C R q g W X U V aj;go_wp2;go_end0;exact⟨rfl,ak⟩
def yD(g a k)(b:Nat)(c e)(d:aY e g a k)(f:a.ai[b]?=S c)(l:(a.ai.length:Int)<1000000000000):
 Cr 119 #[P (S ⟨g,0,N⟩),.int J b] e (B (decide (c.2=1))) λm=>ae aa e m:=by
 have h:=d.a.a 3;simp[eO]at h;obtain⟨q,r,n,s,o,p,_⟩:=d.o b c f;rw[n]at h;have t:=d.a.b;have u:(b:Int)<a.ai.length:=by have:=(Ul.1 f).1;omega
 clear d f l;generalize a.ai.length=nl at *;obtain⟨v,i⟩:=c;simp only at o p;go_enter func119,ntmps119;go_wp2;go_ret;refine⟨?_,ae.a _ _⟩;by_cases j:i=1;subst j;rfl;have:((i:Int)==1)=F:=by rw[Uy];omega
 simp[this,j]
structure jQ(b:ay):Prop where
 c:∀(d e:Nat)(f g:Nat×Nat),d<e->b.ai[d]?=S f->b.ai[e]?=S g->f.1<=g.1
 a:(b.ai.length:Int)<1000
def iD:List (Nat×Nat)->Nat->List HI.Th
 |[],_=>[]
 |b::c,a=>if b.2=0 then ⟨(a:Int),(b.1:Int)⟩::iD c (a+1)else iD c (a+1)
def EA(a c k):iD (a++c) k=iD a k++iD c (k+a.length):=by
 induction a generalizing k with
 |nil=>simp[iD]
 |cons e b d=>
  rw[WN,iD,iD];split;rw[d,WN,Vg,show k+1+b.length=k+(b.length+1)by omega];rw[d,Vg,show k+1+b.length=k+(b.length+1)by omega]
def EB(a k):(iD a k).length<=a.length:=by
 induction a generalizing k with
 |nil=>simp[iD]
 |cons c d b=>
  rw[iD];have:=b (k+1);split<;>simp<;>omega
def K6(d k)(t:HI.Th)(a:t∈iD d k):∃(b:Nat)(c:Nat×Nat),d[b]?=S c/\t.w=(c.1:Int):=by
 induction d generalizing k with
 |nil=>simp[iD]at a
 |cons c i h=>
  rw[iD]at a;split at a;obtain a|a:=UZ.1 a;exact⟨0,c,rfl,by rw[a]⟩;obtain⟨b,e,f,g⟩:=h _ a;exact⟨b+1,e,by rw[UH];exact f,g⟩;obtain⟨b,e,f,g⟩:=h _ a;exact⟨b+1,e,by rw[UH];exact f,g⟩
def KZ(a k):(iD a k=[]/\ay.kG a k=N)\/∃c d e,iD a k=c::d/\ay.kG a k=S e/\c.e=(e:Int):=by
 induction a generalizing k with
 |nil=>exact Ur ⟨rfl,rfl⟩
 |cons f d g=>
  rw[iD,ay.kG];by_cases b:f.2=0;rw[UG b,UG b];exact Up ⟨_,_,k,rfl,rfl,rfl⟩;rw[Us b,Us b];exact g (k+1)
def su{c:Type}(a:List c)(k b)(d:a[k]?=S b):a.take (k+1)=a.take k++[b]:=by rw[Vz,d];rfl
def FV(an a aF d)(q:aY d an a aF)(ao:jQ a):
 Cr 108 #[P (S ⟨an,0,N⟩)] d (.int J (oi a.u)) λr=>ae aa d r:=by
 have ap:=q.a.a 3;simp[eO]at ap;have aU:=q.a.b;have C:=@aC _ _ q ao;clear q ao;go_enter func108,ntmps108;go_wp2_with fail;obtain⟨M,O⟩:=ah (d.alloc (.cells #[L N 0 0] 255));have V:aq M d.heap.size #[L N 0 0] 255:=by rw[O];exact aq.e _ _ _
 have ar:ae aa d M:=by rw[O];exact(ae.a aa d).b _
 rw[<-O];obtain⟨j,W⟩:=ah d.heap.size;rw[<-W]at V|-;have v(_:=()):HI.qQ M j 0 #[L N 0 0] 255 N 0 0 []/\ae aa d M/\j=d.heap.size:=⟨⟨V,rfl,rfl,UF _,Ur ⟨rfl,rfl,rfl⟩⟩,ar,W⟩
 have Q:=@af _ (C.2.a);clear O V ar W ap;go_loopw [13] (λX wr=>∃(b:Nat)(h:Option Addr)(l m:Nat),b<=a.ai.length/\X= .int J b/\HI.qQ wr j 0 #[L h l m] 255 h l m (iD (a.ai.take b) 0)/\ae aa d wr/\(∀g,h=S ⟨g,0,N⟩->d.heap.size<=g)) λX _=>a.ai.length-(intOf X).toNat;case atStart=>exact⟨0,N,0,0,by omega,rfl,v.1,v.2.1,λg c=>by cases c⟩
 case round=>
  obtain⟨b,h,l,m,D,rfl,au,n,o⟩:=hrel;have k:=@gA _ _ _ _ au n o D;clear au n o;by_cases Y:b<a.ai.length;obtain⟨c,Z⟩:∃c,a.ai[b]?=S c:=⟨_,Um Y⟩
  obtain⟨g,aV,aG,aW,av,aw,_⟩:=(C.1.b k.2.1 λ_ _ c=>c).o b c Z;rw[aG];have aH:(b:Int)<a.ai.length:=by omega
  have ab(_:=()):a.ai[b]?=S c:=Z;have R(_:=()):b<a.ai.length:=Y;obtain⟨p,w⟩:=c;simp only at av aw;clear Z Y D;by_cases ac:w=0
  .subst ac;have ax(_:=()):Cr 159 #[P (S ⟨j,0,N⟩),I J b,I J p] (wr.alloc (.cells #[I J p,I J 0] 190)) (.tuple #[]) λr=>∃(s:Option Addr)(U t:Nat),HI.qQ r j 0 #[L s U t] 255 s U t (iD (a.ai.take (b+1)) 0)/\ae aa d r/\(∀g,s=S ⟨g,0,N⟩->d.heap.size<=g):=by
    obtain⟨f,n,o,D⟩:=k;have x:ae aa wr (wr.alloc (.cells #[I J p,I J 0] 190)):=(ae.a aa wr).b _;have ad:=EB (a.ai.take b) 0;have aX:(a.ai.take b).length<=b:=by rw[UK];omega
    have aZ:=f.a;refine(HI.JJ j 0 _ 255 h l m _ (b:Int) (p:Int) _ ⟨f.c.c x λc=>c,f.b,f.a,f.d,f.e.imp id λ⟨ag,e,i,y⟩=>⟨ag,e,i,y.a x λc=>c⟩⟩ (by have:=Q;omega) λaI aJ=>?_).mono ?_;obtain⟨E,aK,e,i⟩:=K6 _ _ aI aJ;have ai:=(Ul.1 e).1;rw[UK]at ai;rw[V2 (by omega)]at e;have:=C.2.c E b aK (p,0) (by omega) e ab;rw[i];simp only at this;omega;rintro z r ⟨rfl,s,G,t,aL,ay,rfl,az,aj⟩;refine⟨rfl,s,G,t,?_,(n.b _).g aj λE ai c=>?_,λg aM=>?_⟩;have:iD (a.ai.take (b+1)) 0=iD (a.ai.take b) 0++[⟨(b:Int),(p:Int)⟩]:=by
     rw[su _ _ _ ab,EA];have aN:(a.ai.take b).length=b:=by rw[UK];omega
     rw[aN,Ve];rfl
    rw[this];exact ay;have:=v.2.2;obtain c|c:=c;omega;have:=o E c;omega;obtain q|q:=az g aM;exact o g q;have:=n.size;simp only[Uv]at q;omega
   go_wp2_with fail;refine Uq ax ?_;rintro z aA ⟨rfl,s,U,t,aB⟩;have u(_:=()):_:=aB;clear aB ax av aw;have aO:(b:Int)<1000:=by have:=Q;omega
   clear aH;go_wp2;exact⟨⟨b+1,s,U,t,by have:=R;omega,by go_num,u⟩,by have:=R;simp[intOf];omega⟩
  .have a0:((w:Int)==0)=F:=by rw[Uy];omega
   have a1:¬(w:Int)=0:=by omega
   have u(_:=()):HI.qQ (wr.alloc (.cells #[I J p,I J w] 190)) j 0 #[L h l m] 255 h l m (iD (a.ai.take (b+1)) 0)/\ae aa d (wr.alloc (.cells #[I J p,I J w] 190))/\(∀g,h=S ⟨g,0,N⟩->d.heap.size<=g):=by
    obtain⟨f,n,o,D⟩:=k;have x:ae aa wr (wr.alloc (.cells #[I J p,I J w] 190)):=(ae.a aa wr).b _;refine⟨?_,n.c x,o⟩;have:iD (a.ai.take (b+1)) 0=iD (a.ai.take b) 0:=by rw[su _ _ _ ab,EA];simp[iD,ac]
    rw[this];exact⟨f.c.c x λc=>c,f.b,f.a,f.d,f.e.imp id λ⟨ag,e,i,y⟩=>⟨ag,e,i,y.a x λc=>c⟩⟩
   have aO:(b:Int)<1000:=by have:=Q;omega
   clear ac;go_wp2;exact⟨⟨b+1,h,l,m,by have:=R;omega,by go_num,u⟩,by have:=R;simp[intOf];omega⟩
  have aP:b=a.ai.length:=by omega
  subst aP;have A(_:=()):iD (a.ai.take a.ai.length) 0=iD a.ai 0:=by rw[Vu]
  obtain⟨e,i⟩|⟨ak,z,aQ,e,i,y⟩:=KZ a.ai 0
  .have aR:l=0:=by have:=k.1.a;rw[A,e]at this;simpa using this.symm
   subst aR;have al:=(k.1.c.a 0)
   simp at al;have H:a.u=N:=i;have am(_:=()):oi a.u= -1:=by rw[H];rfl
   have aS:=@af _ (k.2.1);clear k C v e i H A;go_wp2_with fail;refine(HI.JT j 0 h m _ al).mono ?_;rintro z aA ⟨rfl,K⟩;have u:=@af _ (aS.c K);clear K al;go_wp2;go_ret;exact⟨by rw[am];rfl,u⟩
  .obtain⟨G,aT⟩:∃G,l=G+1:=by have:=k.1.a;rw[A,e]at this;exact⟨z.length,by simpa using this.symm⟩
   subst aT;have H:a.u=S aQ:=i;have am(_:=()):oi a.u=ak.e:=by rw[H,rm,y]
   have aD(_:=()):Cr 160 #[P (S ⟨j,0,N⟩)] wr (.tuple #[I J ak.e,B T]) λr=>ae aa d r:=by obtain⟨f,n,o,D⟩:=k;have ad:=EB a.ai 0;have aE:=f.a;rw[A,e]at aE;rw[e]at ad;refine(HI.JU j 0 _ 255 h G m _ wr f (by have:=Q;simp at aE ad;omega) ak (by rw[A,e];rfl)).mono ?_;rintro z r ⟨rfl,s,a2,t,aL,ay,_,az,aj⟩;refine⟨rfl,n.g aj λE ai c=>?_⟩;have:=v.2.2;obtain c|c:=c;omega;have:=o E c;omega
   clear k C v e i y H A;go_wp2_with fail;refine Uq aD ?_;rintro z aA ⟨rfl,K⟩;have u:=@af _ K;clear K aD;go_wp2;go_ret;exact⟨by rw[am];rfl,u⟩
def aY.cells{a b c e}(d:aY a b c e):a.cell? ⟨b,0,N⟩=S (.int J c.aP)/\a.cell? ⟨b,1,N⟩=S (.int J c.aM)/\a.cell? ⟨b,2,N⟩=S (.int J c.cX)/\a.cell? ⟨b,3,N⟩=S (L e.ea c.ai.length e.ec)/\a.cell? ⟨b,4,N⟩=S (.int J (oi c.cq))/\a.cell? ⟨b,5,N⟩=S (.int J (oi c.dj))/\a.cell? ⟨b,6,N⟩=S (.int J c.bw)/\a.cell? ⟨b,7,N⟩=S (.int J (oi c.cB))/\a.cell? ⟨b,8,N⟩=S (.int J c.bI)/\a.cell? ⟨b,9,N⟩=S (B c.iy)/\a.cell? ⟨b,10,N⟩=S (L e.fa c.an.length e.fc)/\a.cell? ⟨b,11,N⟩=S (L e.sa c.aD.length e.sc):=
 ⟨d.a.a 0,d.a.a 1,d.a.a 2,d.a.a 3,d.a.a 4,d.a.a 5,d.a.a 6,d.a.a 7,d.a.a 8,d.a.a 9,d.a.a 10,d.a.a 11⟩
def Fz(d a e)(c b:Nat)(g)(f:aY g d a e):
 Cr 223 #[P (S ⟨d,0,N⟩),.int J c,.int J b] g (.tuple #[]) λk=>aY k d (a.n c b) e/\cT g k d e e:=by
 obtain⟨l,m,n,o,p,x,z,q,r,s,t,u⟩:=f.cells;have A:=f.a.b;have C:=f.a.d 5;have D:=f.a.d 6;by_cases h:b<a.bw
 .have i(_:=()):aY ((g.setCell ⟨d,5,N⟩ (I J c)).setCell ⟨d,6,N⟩ (I J b)) d (a.n c b) e/\cT g ((g.setCell ⟨d,5,N⟩ (I J c)).setCell ⟨d,6,N⟩ (I J b)) d e e:=by
   have v:=f.d (n':= {a with dj:=S c}) 5 (I J c) (by simp[eO,oi]) rfl rfl rfl;have w:=v.1.d (n':= {a with dj:=S c,bw:=b}) 6 (I J b) (by simp[eO]) rfl rfl rfl;have j:a.n c b= {a with dj:=S c,bw:=b}:=by unfold ay.n;rw[UG h]
   rw[j];exact⟨w.1,v.2.a w.2⟩
  have y:(b:Int)<a.bw:=by omega
  clear f l m n o p q r s t u h;generalize oi a.dj=nb at *;generalize a.bw=bw at *;go_enter func223,ntmps223;go_wp2;go_end0;exact⟨rfl,i⟩
 .have i(_:=()):aY g d (a.n c b) e:=by
   have j:a.n c b=a:=by unfold ay.n;rw[Us h]
   rw[j];exact f
  have y:(a.bw:Int)<=b:=by omega
  clear f l m n o p x q r s t u h;go_enter func223,ntmps223;go_wp2;go_end0;exact⟨rfl,i,cT.d _ _ _⟩
def aY.p{i n e p}(a:aY i n e p)(b g:Nat)(f)(s:e.ai[b]?=S f)(c h)(k:p.ea=S ⟨c,h,N⟩):
 aY (i.setCell ⟨c,h+b*2+1,N⟩ (.int J g)) n (e.e b g) p/\cT i (i.setCell ⟨c,h+b*2+1,N⟩ (.int J g)) n p p:=by
 have o:ae (ap c) i (i.setCell ⟨c,h+b*2+1,N⟩ (I J g)):=(ae.a (ap c) i).e (p:=⟨c,h+b*2+1,N⟩) (λ_=>rfl) _;have q:ag p.ea c:=by rw[k];exact eN c h
 have C:n≠c:=λf=>a.c (f▸q);have D:(e.e b g).ai.length=e.ai.length:=by simp[ay.e]
 have t:e.p b=f.1:=by unfold ay.p;rw[s]
 refine⟨⟨?_,?_,a.g.a o (λd u f=>a.h c q (by rw[<-show d=c from f];exact u)),a.j.a o (λd u f=>a.l c q (by rw[<-show d=c from f];exact u)),a.c,a.e,a.f,a.h,a.l,a.m⟩,⟨λ_ a=>Ur a,o.d (λd _ f=>Up (Ur (by rw[show d=c from f];exact q))),rfl,rfl⟩⟩;have E:=a.a.c o λf=>C f;have G:eO (e.e b g) p=eO e p:=by simp[eO,ay.e]
 rw[G];exact E;rw[D];obtain⟨z,H,j⟩:=a.i;obtain⟨j,_⟩|⟨V,W,j,v,A,K,M,O⟩:=j;rw[j]at k;cases k;rw[j]at k;cases k;have X:=(Ul.1 s).1;have Q:∀(l:List (Nat×Nat))(d:Nat)(m:Nat×Nat),l[d]?=S m->(jW l).set (d*2+1) (I J g)=jW (l.set d (m.1,g)):=by
  intro l;induction l with
  |nil=>intro d m a;simp at a
  |cons R r U=>
   intro d m a;have w:∀x:Nat×Nat,∀r:List (Nat×Nat),jW (x::r)=sm x++jW r:=λx r=>by simp[jW]
   cases d with
   |zero=>simp at a;subst a;simp[w,sm]
   |succ d=>
    rw[UH]at a;rw[w,UB,w,<-U d m a,Vy _ _ (by simp[sm];omega)];have:(sm R).length=2:=rfl;rw[this,show (d+1)*2+1-2=d*2+1 by omega]
 have y:=Q e.ai b f s;have Y:=z;refine⟨?_,H,Up ⟨c,h,j,v,A,?_,M,?_⟩⟩;show (jW (e.ai.set b (e.p b,g))).length=_;rw[t,<-y,UA];exact z;have:=K.f (h+b*2+1) (I J g);show aq _ _ (v++jW (e.ai.set b (e.p b,g))++A).toArray _;rw[t,<-y];rw[Uw,UJ,Vy _ _ (by omega),Ws _ _ (by omega),show h+b*2+1-v.length=b*2+1 by omega,<-UJ]at this;exact this;show _<=(jW (e.ai.set b (e.p b,g))).length+_;rw[t,<-y,UA];exact O
def Gy(f a g b i)(c:aY i f a g)(k:b<a.ai.length)(n:(a.ai.length:Int)<1000):
 Cr 203 #[P (S ⟨f,0,N⟩),.int J b] i (.tuple #[]) λo=>aY o f (a.f b) g/\cT i o f g g:=by
 obtain⟨p,q,r,s,t,u,v,w,x,y,z,A⟩:=c.cells;have M:=c.a.b;obtain⟨d,h⟩:∃d,a.ai[b]?=S d:=⟨_,Um k⟩
 obtain⟨E,G,l,O,H,C,Q⟩:=c.o b d h;have R:(b:Int)<a.ai.length:=by omega
 have j:a.c b=d.2:=by unfold ay.c;rw[h]
 by_cases e:d.2=0
 .have K:=@af _ (c.p b 2 d h E G l);have m(_:=()):a.f b=a.e b 2:=by unfold ay.f;rw[j,UG e]
  rw[e]at C;rw[l]at s;clear c p q r t u v w x y z A k n j e h;generalize a.ai.length=nl at *;go_enter func203,ntmps203;go_wp2;go_end0;exact⟨rfl,by rw[m];exact K⟩
 .have m(_:=()):aY i f (a.f b) g:=by
   have:a.f b=a:=by unfold ay.f;rw[j,Us e]
   rw[this];exact c
  rw[l]at s;obtain⟨U,D⟩:=d;simp only at H C e;have V:((D:Int)==0)=F:=by rw[Uy];omega
  have W:¬(D:Int)=0:=by omega
  clear c p q r t u v w x y z A k n j e h;generalize a.ai.length=nl at *;go_enter func203,ntmps203;go_wp2;go_end0;exact⟨rfl,m,cT.d _ _ _⟩
def Qa(t)(a:t≠N):(oi t== -1)=F/\¬oi t= -1:=by
 cases t with
 |none=>exact(a rfl).elim
 |some b=>simp only[oi];exact⟨by rw[Uy];omega,by omega⟩
def BM(b a d g)(c:aY g b a d)(i:(a.aD.length:Int)<1000000000000):
 Cr 224 #[P (S ⟨b,0,N⟩)] g (.tuple #[]) λM=>∃j,aY M b a.q j/\cT g M b d j:=by
 obtain⟨z,p,q,r,e,s,t,A,C,u,v,w⟩:=c.cells;have ab:=c.a.b;have ac:=c.a.d 0;by_cases h:a.bI=0;by_cases k:a.cB=N;have l:=c.d (n':= {a with aP:=2}) 0 (I J 2) (by simp[eO]) rfl rfl rfl;rw[k]at A;rw[h]at C;simp only[oi]at A;cases m:a.cq with
 |none=>
  have f(_:=()):a.q= {a with aP:=2}:=by unfold ay.q;rw[UG ⟨h,k⟩,m]
  rw[m]at e;simp only[oi]at e;have n:=@af _ l;clear c l p q r s t u v w i;go_enter func224,ntmps224;go_wp2;go_end0;exact⟨rfl,d,by rw[f];exact n.1,n.2⟩
 |some x=>
  have f(_:=()):a.q=({a with aP:=2}:ay).d x (.bH a.bw):=by unfold ay.q;rw[UG ⟨h,k⟩,m]
  rw[m]at e;simp only[oi]at e;have n:=@af _ l;have ad:((x:Int)== -1)=F:=by rw[Uy];omega
  have ag:¬(x:Int)= -1:=by omega
  have y(_:=()):∀D,ae aa (g.setCell ⟨b,0,N⟩ (I J 2)) D->_:=λD W=>ri b {a with aP:=2} d x (.bH a.bw) D (l.1.b W λ_ _ o=>o) i;simp only[bV.b]at y;clear c l p q r s u v w i;go_enter func224,ntmps224;go_wp2_with fail;obtain⟨O,E⟩:=ah (g.setCell ⟨b,0,N⟩ (I J 2));obtain⟨_,_,_,_,G,_,H,_⟩:=n.1.cells;simp only[m,oi]at G;simp only at H;rw[<-E]at G H y|-;have X:=@af _ E;clear E z e t A C;go_still_tail 11,(by kernel_rfl)
  go_wp2_with fail;refine Uq (y () _ ((ae.a aa O).drew)) ?_;rintro ai Q ⟨rfl,Y,R,U⟩;have Z(_:=()):∃j,aY Q b a.q j/\cT g Q b d j:=⟨Y,by rw[f];exact R,by have V:=n.2;rw[<-X]at V;exact(V.a (cT.b b d ((ae.a aa O).drew))).a U⟩
  clear R U y G H;go_wp2;go_end0;exact⟨rfl,Z⟩
 .have f(_:=()):a.q=a:=by unfold ay.q;rw[Us λo=>k o.2]
  obtain⟨aj,ak⟩:=Qa a.cB k;rw[h]at C;have K:=@af _ c;clear c z p q r e s t u v w i;go_enter func224,ntmps224;go_wp2;(try simp only[Exit.inBlock,Exit.then]);refine UO (VX rfl _ _ _) rfl ?_;exact⟨rfl,d,by rw[f];exact K,cT.d _ _ _⟩
 .have f(_:=()):a.q=a:=by unfold ay.q;rw[Us λo=>h o.1]
  have al:(a.bI==0)=F:=by rw[Uy];exact h
  have K:=@af _ c;clear c z p q r e s t u v w i;go_enter func224,ntmps224;go_wp2;(try simp only[Exit.inBlock,Exit.then]);refine UO (VX rfl _ _ _) rfl ?_;exact⟨rfl,d,by rw[f];exact K,cT.d _ _ _⟩
def jQ.b{a n'}(b:jQ a)(c:n'.ai=a.ai):jQ n':=⟨by rw[c];exact b.c,by rw[c];exact b.a⟩
def uY(a:ay)(b c):(a.e b c).ai.length=a.ai.length:=by simp[ay.e]
def Hr(b:ay)(e h k:Nat)(c)(a:(b.e e h).ai[k]?=S c):∃f,b.ai[k]?=S f/\f.1=c.1:=by
 simp only[ay.e]at a;by_cases g:k=e;subst g;have d:k<b.ai.length:=by have:=(Ul.1 a).1;simpa using this
 rw[UQ d]at a;cases a;exact⟨b.ai[k],Um d,by unfold ay.p;rw[Um d]⟩;rw[Vt (WO g)]at a;exact⟨c,a,rfl⟩
def jQ.d{a}(d:jQ a)(b c):jQ (a.e b c):=by refine⟨λe f g h i j k=>?_,by rw[uY];exact d.a⟩;obtain⟨l,m,p⟩:=Hr a b c e g j;obtain⟨n,o,q⟩:=Hr a b c f h k;have:=d.c e f l n i m o;omega
def Cj(a b g)(h d e:Nat)(f c)(l:aY c a b g)(u:(b.aD.length:Int)<1000000000000):
 Cr 222 #[P (S ⟨a,0,N⟩),.int J h,.agg #[.int J d,.int J e,B f]] c (.tuple #[]) λv=>∃w,aY v a (b.j h d e f) w/\cT c v a g w:=by
 have m(_:=()):∀n,ae aa c n->_:=λn C=>ri a b g h (.aL d e f) n (l.b C λ_ _ o=>o) u;simp only[bV.b]at m;have D:=@af _ l.n;clear l u;go_enter func222,ntmps222;go_wp2_with fail;obtain⟨p,j⟩:=ah (c.alloc (.cells #[I J d,I J e,B f] 313));have x:aq p c.heap.size #[I J d,I J e,B f] 313:=by rw[j];exact aq.e _ _ _
 have y:ae aa c p:=by rw[j];exact(ae.a aa c).b _
 rw[<-j];have q:=@aC _ _ x y;clear j x y;refine Uq (m () p q.2) ?_;rintro H r ⟨rfl,k,i,s⟩;have E:=(q.1.c s.c λo=>by have:=D () _ o;omega).a 2;simp at E;have t:=@aC _ _ i ((cT.b a g q.2).a s);obtain⟨_,_,_,_,_,_,_,_,z,_⟩:=i.cells;have K:=i.a.d 8;have M:=i.a.b;have O:r.cell? ⟨a,8,N⟩=S (I J b.bI):=z;clear i s m z;cases f with
 |true=>
  have G(_:=()):aY (r.setCell ⟨a,8,N⟩ (I J (wrap64 (b.bI+1)))) a (b.j h d e T) k/\cT c (r.setCell ⟨a,8,N⟩ (I J (wrap64 (b.bI+1)))) a g k:=by have A:=t.1.d (n':=b.j h d e T) 8 (I J (wrap64 (b.bI+1))) (by simp[eO,ay.j,ay.d]) rfl rfl rfl;exact⟨A.1,t.2.a A.2⟩
  generalize b.bI=ct at *;go_wp2;go_end0;exact⟨rfl,k,G⟩
 |false=>
  go_wp2;go_end0;exact⟨rfl,k,t⟩
def Cq(b a d h)(n:aY h b a d)(w:jQ a)(x:(a.aD.length:Int)<1000000000000):
 Cr 204 #[P (S ⟨b,0,N⟩)] h (.tuple #[]) λy=>∃f,aY y b a.l f/\cT h y b d f:=by
 have z(_:=()):∀i,ae aa h i->_:=λi M=>FV b a d i (n.b M λ_ _ j=>j) w;have U:=n.a.b;have q:=@aC _ _ n x;clear n w x;go_enter func204,ntmps204;go_wp2_with fail;refine Uq (z () h (ae.a _ _)) ?_;rintro A i ⟨rfl,r⟩;have k:=q.1.b r λ_ _ j=>j;have O:=k.a.d 7;obtain⟨_,_,_,_,_,_,_,Q,_⟩:=k.cells;have V:=k.a.b;have s:=k.d (n':= {a with cB:=a.u}) 7 (I J (oi a.u)) (by simp[eO]) rfl rfl rfl;have c:=@aC _ _ s.1 ((cT.b b d r).a s.2);clear k s r z;cases o:a.u with
 |none=>
  rw[o]at c;have t(_:=()):a.l=({a with cB:=N}:ay).q:=by unfold ay.l;rw[o]
  simp only[oi]at c|-;have C:=@af _ (BM b {a with cB:=N} d _ c.1 q.2);go_wp2_with fail;refine Uq C ?_;rintro A e ⟨rfl,u,l,m⟩;have v(_:=()):∃f,aY e b a.l f/\cT h e b d f:=⟨u,by rw[t];exact l,c.2.a m⟩
  clear l m C;go_wp2;(try simp only[Exit.inBlock,Exit.then]);refine UO (VX rfl _ _ _) rfl ?_;exact⟨rfl,v⟩
 |some g=>
  rw[o]at c;have t(_:=()):a.l=({a with cB:=S g}:ay).d g (.cW a.aM a.cX):=by unfold ay.l;rw[o]
  simp only[oi]at c|-;have W:((g:Int)== -1)=F:=by rw[Uy];omega
  have X:¬(g:Int)= -1:=by omega
  have p(_:=()):∀e,ae aa (i.setCell ⟨b,7,N⟩ (I J g)) e->_:=λe R=>ri b {a with cB:=S g} d g (.cW a.aM a.cX) e (c.1.b R λ_ _ j=>j) q.2;simp only[bV.b]at p;go_wp2_with fail;obtain⟨D,E⟩:=ah (i.setCell ⟨b,7,N⟩ (I J g));rw[<-E]at c p|-;obtain⟨_,G,H,_,_,_,_,K,_⟩:=c.1.cells;simp only[oi]at G H K;clear E Q O;generalize a.aM=lv at *;generalize a.cX=nm at *;go_still_tail 15,(by kernel_rfl)
  go_wp2_with fail;refine Uq (p () _ ((ae.a aa D).drew)) ?_;rintro A e ⟨rfl,u,l,m⟩;have v(_:=()):∃f,aY e b a.l f/\cT h e b d f:=⟨u,by rw[t];exact l,(c.2.a (cT.b b d ((ae.a aa D).drew))).a m⟩
  clear l m p G H K;go_wp2;go_end0;exact⟨rfl,v⟩
def OC(d k a)(b:ay.kG d k=S a):k<=a/\∃c,d[a-k]?=S c/\c.2=0:=by
 induction d generalizing k with
 |nil=>simp[ay.kG]at b
 |cons e j f=>
  rw[ay.kG]at b;split at b;rename_i g;cases b;exact⟨UF _,e,by simp,g⟩;obtain⟨l,c,h,i⟩:=f (k+1) b;refine⟨by omega,c,?_,i⟩;rw[show a-k=(a-(k+1))+1 by omega,UH];exact h
def FT{a:ay}{b}(d:a.u=S b):∃c,a.ai[b]?=S c:=by obtain⟨_,c,e,_⟩:=OC a.ai 0 b d;exact⟨c,by simpa using e⟩
def Cw(a b d j)(g:aY j a b d)(H:jQ b)(K:(b.aD.length:Int)<1000000000000):
 Cr 63 #[P (S ⟨a,0,N⟩)] j (.tuple #[]) λad=>∃i,aY ad a b.b i/\cT j ad a d i:=by
 obtain⟨q,l,r,m,s,t,u,v,w,A,x,y⟩:=g.cells;have ag:=g.a.b;have al:=g.a.d 0;have am:=g.a.d 1;have an:=g.a.d 8;by_cases C:b.aP=0
 .rw[C]at q;go_enter func63,ntmps63;go_wp2_with fail;have M:=g.d (n':= {b with aM:=0}) 1 (I J 0) (by simp[eO]) rfl rfl rfl;have O:=M.1.d (n':= {b with aM:=0,aP:=2}) 0 (I J 2) (by simp[eO]) rfl rfl rfl;have D:=O.1.d (n':= {b with aM:=0,aP:=2,bI:=0}) 8 (I J 0) (by simp[eO]) rfl rfl rfl;obtain⟨Q,ai⟩:=ah (((j.setCell ⟨a,1,N⟩ (I J 0)).setCell ⟨a,0,N⟩ (I J 2)).setCell ⟨a,8,N⟩ (I J 0));have R:=(M.2.a O.2).a D.2;rw[<-ai]at D R|-;obtain⟨c,n⟩:∃c:ay,c= {b with aM:=0,aP:=2,bI:=0}:=⟨_,rfl⟩
  have o(_:=()):aY Q a c d/\cT j Q a d d/\jQ c/\(c.aD.length:Int)<1000000000000/\c.aM=0:=⟨by rw[n];exact D.1,R,H.b (by rw[n]),by rw[n];exact K,by rw[n]⟩
  have E(_:=()):b.b=match c.u with|none=> {c with iy:=T}|some e=>(c.e e 1).d e (.bG 0):=by unfold ay.b;rw[UG C,n]<;>rfl
  clear M O D R ai n q l r m s t u v w A x y ag al am an C H K g;refine(FV a c d Q o.1 o.2.2.1).mono ?_;rintro ao U ⟨rfl,V⟩;have h:=@aC _ _ (o.1.b V λ_ _ f=>f) (o.2.1.a (cT.b a d V));clear V;have ag:=h.1.a.b;have aw:=h.1.a.d 9;obtain⟨q,l,r,m,s,t,u,v,w,A,x,y⟩:=h.1.cells;rw[o.2.2.2.2]at l;cases W:c.u with
  |none=>
   rw[W]at E;simp only[oi];have k:=h.1.d (n':= {c with iy:=T}) 9 (B T) (by simp[eO]) rfl rfl rfl;have X(_:=()):∃i,aY (U.setCell ⟨a,9,N⟩ (B T)) a b.b i/\cT j (U.setCell ⟨a,9,N⟩ (B T)) a d i:=⟨d,by rw[E];exact k.1,h.2.a k.2⟩
   clear k q l r m s t u v w x y;go_wp2;(try simp only[Exit.inBlock,Exit.then]);refine UO (VX rfl _ _ _) rfl ?_;exact⟨rfl,X⟩
  |some e=>
   rw[W]at E;simp only[oi];have ax:((e:Int)== -1)=F:=by rw[Uy];omega
   have az:¬(e:Int)= -1:=by omega
   obtain⟨f,G⟩:∃f,c.ai[e]?=S f:=FT W;obtain⟨z,Y,Z,aA,aB,aD,aE⟩:=h.1.o e f G;have k:=h.1.p e 1 f G z Y Z;have aF:(e:Int)<c.ai.length:=by have:=(Ul.1 G).1;omega
   have aj:=@aC _ _ k.1 (h.2.a k.2);have ab(_:=()):∀p,ae aa (U.setCell ⟨z,Y+e*2+1,N⟩ (I J 1)) p->_:=λp ap=>ri a (c.e e 1) d e (.bG 0) p (aj.1.b ap λ_ _ f=>f) o.2.2.2.1;simp only[bV.b]at ab;rw[Z]at m;have aq:¬a=z:=λf=>h.1.c (by rw[Z,f];exact eN z Y);have aG:¬z=a:=λf=>aq f.symm;clear k q r s t u v w A x y G;generalize c.ai.length=ml at *;go_wp2_with fail;refine Uq (ab () _ (ae.a aa _)) ?_;rintro ao p ⟨rfl,ar,ak,ac⟩;have X(_:=()):∃i,aY p a b.b i/\cT j p a d i:=⟨ar,by rw[E];exact ak,aj.2.a ac⟩
   clear ak ac ab l m;go_wp2;go_end0;exact⟨rfl,X⟩
 .have au(_:=()):b.b=b:=by unfold ay.b;rw[Us C]
  have aH:((b.aP:Int)==0)=F:=by rw[Uy];omega
  have ac:¬(b.aP:Int)=0:=by omega
  have av:=@af _ g;clear g l r m s t u v w A x y K H;go_enter func63,ntmps63;go_wp2;(try simp only[Exit.inBlock,Exit.then]);refine UO (VX rfl _ _ _) rfl ?_;exact⟨rfl,d,by rw[au];exact av,cT.d _ _ _⟩
def EO(c a f i)(m:aY i c a f)(Q:(a.ai.length:Int)<1000)(w:∀R,a.dj=S R->R<a.ai.length)(x:(a.aD.length:Int)<1000000000000):
 Cr 206 #[P (S ⟨c,0,N⟩)] i (.tuple #[]) λU=>∃j,aY U c a.s j/\cT i U c f j:=by
 obtain⟨V,W,X,Y,Z,p,ab,ac,ad,af,ag,ah⟩:=m.cells;have ap:=m.a.b;cases k:a.dj with
 |none=>
  have aq(_:=()):a.s=a:=by unfold ay.s;rw[k]
  rw[k]at p;simp only[oi]at p;have y(_:=()):_:=m;clear m V W X Y Z ab ac ad af ag ah x Q w;go_enter func206,ntmps206;go_wp2;(try simp only[Exit.inBlock,Exit.then]);refine UO (VX rfl _ _ _) rfl ?_;exact⟨rfl,f,by rw[aq];exact y,cT.d _ _ _⟩
 |some d=>
  have ai:=w d k;obtain⟨b,s⟩:∃b,a.ai[d]?=S b:=⟨_,Um ai⟩
  have z:a.c d=b.2:=by unfold ay.c;rw[s]
  rw[k]at p;simp only[oi]at p;have y(_:=()):_:=m;have aj(_:=()):(a.aD.length:Int)<1000000000000:=x;have ar(_:=()):(d:Int)<a.ai.length:=by omega
  have aA:((d:Int)== -1)=F:=by rw[Uy];omega
  have aB:¬(d:Int)= -1:=by omega
  have ak(_:=()):∀g,ae aa i g->_:=λg au=>yD c a f d b g (m.b au λ_ _ b=>b) s (by omega);have av(_:=()):b.2=1->a.s=a.d d .dO:=λl=>by unfold ay.s;rw[k];simp only;rw[z,UG l]
  have aw(_:=()):¬b.2=1->a.s=(a.d d (.bG a.aM)).e d 1:=λl=>by unfold ay.s;rw[k];simp only;rw[z,Us l]
  clear m V W X Y Z ab ac ad af ag ah x Q w z ai;go_enter func206,ntmps206;go_wp2_with fail;refine Uq (ak () i (ae.a _ _)) ?_;rintro al g ⟨rfl,A⟩;have t:=y.b A λ_ _ b=>b;have u(_:=()):aY g c a f/\cT i g c f f:=⟨t,cT.b c f A⟩
  obtain⟨_,am,_,q,_,v,_⟩:=t.cells;rw[k]at v;simp only[oi]at v;have aD:=t.a.b;clear t A p ap ak;by_cases l:b.2=1
  .have n(_:=()):∀e,ae aa g e->_:=λe C=>ri c a f d .dO e (u.1.b C λ_ _ b=>b) aj;simp only[bV.b]at n;have D:decide (b.2=1)=T:=U4 l;rw[D];clear am q;go_wp2_with fail;refine Uq (n () _ (ae.a aa _)) ?_;rintro al e ⟨rfl,o,h,r⟩;have E(_:=()):∃j,aY e c a.s j/\cT i e c f j:=⟨o,by rw[av () l];exact h,u.2.a r⟩
   clear h r n v;go_wp2;(try simp only[Exit.inBlock,Exit.then]);refine UO (VX rfl _ _ _) rfl ?_;exact⟨rfl,E⟩
  .have n(_:=()):∀e,ae aa g e->_:=λe C=>ri c a f d (.bG a.aM) e (u.1.b C λ_ _ b=>b) aj;simp only[bV.b]at n;have D:=U7 l;rw[D];clear q;go_wp2_with fail;go_still_tail 11,(by kernel_rfl)
   go_wp2_with fail;refine Uq (n () _ ((ae.a aa g).drew)) ?_;rintro al e ⟨rfl,o,h,r⟩;have ax:=@aC _ _ h ((u.2.a (cT.b c f ((ae.a aa g).drew))).a r);obtain⟨_,_,_,q,_,an,_⟩:=h.cells;have v:e.cell? ⟨c,5,N⟩=S (I J d):=by rw[an];show S (I J (oi a.dj))=_;rw[k];rfl
   have az:e.cell? ⟨c,3,N⟩=S (L o.ea a.ai.length o.ec):=q;have G:=s;obtain⟨H,K,ao,aE,aF,aG,aH⟩:=h.o d b G;have M:=(ae.a aa e).drew;have O:=(h.b M λ_ _ b=>b).p d 1 b G H K ao;have E(_:=()):∃j,aY (e.drew.setCell ⟨H,K+d*2+1,N⟩ (I J 1)) c a.s j/\cT i (e.drew.setCell ⟨H,K+d*2+1,N⟩ (I J 1)) c f j:=⟨o,by rw[aw () l];exact O.1,(ax.2.a (cT.b c o M)).a O.2⟩
   have aI:=h.a.b;have aJ:=ar;rw[ao]at az;clear h r n q an O s G am M;generalize a.ai.length=nl at *;go_wp2_with fail;go_still_tail 8,(by kernel_rfl)
   go_wp2;go_end0;exact⟨rfl,E⟩
def Kf(c a h d f)(e:aY f c a h)(G:(a.ai.length:Int)<1000)(p:d<a.ai.length)(q:(a.aD.length:Int)<1000000000000):
 Cr 202 #[P (S ⟨c,0,N⟩),.int J d] f (.tuple #[]) λr=>∃g,aY r c (a.A d) g/\cT f r c h g:=by
 obtain⟨H,K,M,s,O,Q,R,U,V,W,X,Y⟩:=e.cells;have ap:=e.a.b;have Z:=e.a.d 7;obtain⟨b,j⟩:∃b,a.ai[d]?=S b:=⟨_,Um p⟩
 have t:a.p d=b.1:=by unfold ay.p;rw[j]
 have k:=e.d (n':= {a with cB:=N}) 7 (I J (-1)) (by simp[eO,oi]) rfl rfl rfl;obtain⟨l,ab,u,aq,ac,ad,ag⟩:=e.o d b j;rw[u]at s;have ai:¬c=l:=λb=>e.c (by rw[u,b];exact eN l ab);have ar:¬l=c:=λb=>ai b.symm;have au:(d:Int)<a.ai.length:=by omega
 have m(_:=()):∀n,ae aa (f.setCell ⟨c,7,N⟩ (I J (-1))) n->_:=λn aj=>Fz c {a with cB:=N} h d b.1 n (k.1.b aj λ_ _ b=>b);have v:=@af _ k.2;have w(_:=()):∀i o,aY i c (({a with cB:=N}:ay).n d b.1) o->_:=λi o ak=>BM c _ o i ak (by unfold ay.n;split<;>exact q);have al(_:=()):a.A d=(({a with cB:=N}:ay).n d b.1).q:=by unfold ay.A;rw[t]
 clear e k G p q t j H K M O Q R V W X Y;generalize a.ai.length=nl at *;generalize b.1=ew at *;go_enter func202,ntmps202;go_wp2_with fail;obtain⟨av,x⟩:=ah (f.setCell ⟨c,7,N⟩ (I J (-1)));rw[<-x]at m v|-;clear x U Z s ac ad ag;refine Uq (m () _ (ae.a aa _)) ?_;rintro am i ⟨rfl,y,z⟩;have A:=@aC _ _ y (v.a z);clear y z m;go_wp2_with fail;refine Uq (w () _ _ A.1) ?_;rintro am C ⟨rfl,an,D,E⟩;have ao(_:=()):∃g,aY C c (a.A d) g/\cT f C c h g:=⟨an,by rw[al];exact D,A.2.a E⟩
 clear D E w;go_wp2;go_end0;exact⟨rfl,ao⟩
def RP(b a e)(f c:Nat)(h)(p:aY h b a e)(Y:(a.ai.length:Int)<1000)(Z:∀ab,a.dj=S ab->ab<a.ai.length)(E:(a.aD.length:Int)<1000000000000):
 Cr 205 #[P (S ⟨b,0,N⟩),.int J f,.agg #[.int J c]] h (B (a.i f c).2) λac=>∃k,aY ac b (a.i f c).1 k/\cT h ac b e k:=by
 have l:=@aC _ _ p E;have o(_:=()):∀G,ae aa h G->_:=λG ar=>EO b a e G (p.b ar λ_ _ d=>d) Y Z E;have aJ:=@af _ p.n;have aK:=p.a.b;obtain⟨t,au,av,aw,u,ax,H,az,K,M,aA,aB⟩:=p.cells;clear p E Y Z au av aw ax az aA aB;by_cases i:a.cq=S f;rw[i]at u;simp only[oi]at u;by_cases v:a.aP=1
 .have g(_:=()):a.i f c=(a,F):=by unfold ay.i;rw[UG i,UG v]
  rw[v]at t;clear o H K M;go_enter func205,ntmps205;go_wp2;go_ret;exact⟨by rw[g];rfl,e,by rw[g];exact l.1.b ((ae.a aa h).b _) λ_ _ d=>d,cT.b b e ((ae.a aa h).b _)⟩
 .have w:((a.aP:Int)==1)=F:=by rw[Uy];omega
  have x:¬(a.aP:Int)=1:=by omega
  have y:=@af _ v;clear v H K M;generalize a.aP=ns at t w x;go_enter func205,ntmps205;go_wp2_with fail;obtain⟨z,A⟩:=ah (h.alloc (.cells #[I J c] 319));have j:aq z h.heap.size #[I J c] 319:=by rw[A];exact aq.e _ _ _
  have O:ae aa h z:=by rw[A];exact(ae.a aa h).b _
  rw[<-A];have aD:=j.a 0;have aL:=j.b;simp at aD;have m:=@af _ O;have C:=l.1.b O λ_ _ d=>d;have Q:=C.a.d 9;have aM:=C.a.b;obtain⟨_,_,_,_,_,_,aE,_,_,R,_⟩:=C.cells;clear A j O C t u;by_cases n:a.bw<c
  .have g(_:=()):a.i f c=(a.s,T):=by unfold ay.i;rw[UG i,Us y,UG n]
   have ad:(a.bw:Int)<c:=by omega
   clear n R Q;generalize a.bw=nb at *;go_still_tail 7,(by kernel_rfl)
   go_wp2_with fail;refine Uq (o () _ (m.drew)) ?_;rintro ag q ⟨rfl,U,r,ai⟩;have V(_:=()):∃k,aY q b a.s k/\cT h q b e k:=⟨U,r,(cT.b b e (m.drew)).a ai⟩
   clear r ai o;go_wp2;go_ret;exact⟨by rw[g];rfl,by rw[g];exact V⟩
  have ad:(c:Int)<=a.bw:=by omega
  by_cases s:c=1001;by_cases j:a.bw=1001
  .have g(_:=()):a.i f c=({a with iy:=T},T):=by unfold ay.i;rw[UG i,Us y,Us n,UG ⟨s,j⟩]
   subst s;rw[j]at aE;clear n ad j o;go_still_tail 7,(by kernel_rfl)
   go_wp2;go_ret;have aj:=(l.1.b m λ_ _ d=>d).d (n':= {a with iy:=T}) 9 (B T) (by simp[eO]) rfl rfl rfl;have ak:ae aa (z.setCell ⟨b,9,N⟩ (B T)) (z.setCell ⟨b,9,N⟩ (B T)).drew:=(ae.a aa _).drew;exact⟨by rw[g];rfl,e,by rw[g];exact aj.1.b ak λ_ _ d=>d,((cT.b b e m).a aj.2).a (cT.b b e ak)⟩
  .have g(_:=()):a.i f c=(a,T):=by unfold ay.i;rw[UG i,Us y,Us n,Us λd=>j d.2]
   subst s;have aF:((a.bw:Int)==1001)=F:=by rw[Uy];omega
   have aG:¬(a.bw:Int)=1001:=by omega
   clear n o R Q j;generalize a.bw=nb at *;go_still_tail 7,(by kernel_rfl)
   go_wp2;go_ret;exact⟨by rw[g];rfl,e,by rw[g];exact l.1.b m.drew λ_ _ d=>d,cT.b b e m.drew⟩
  .have g(_:=()):a.i f c=(a,T):=by unfold ay.i;rw[UG i,Us y,Us n,Us λd=>s d.1]
   have aF:((c:Int)==1001)=F:=by rw[Uy];omega
   have aG:¬(c:Int)=1001:=by omega
   clear n o R Q s;generalize a.bw=nb at *;go_still_tail 7,(by kernel_rfl)
   go_wp2;go_ret;exact⟨by rw[g];rfl,e,by rw[g];exact l.1.b m.drew λ_ _ d=>d,cT.b b e m.drew⟩
 .have g(_:=()):a.i f c=((({a with bI:=wrap64 (a.bI-1)}:ay).n f c).q,T):=by unfold ay.i;rw[Us i]
  have al:((f:Int)==oi a.cq)=F:=by rw[Uy];intro d;exact i (yT (d.symm.trans (rm f).symm))
  have aN:¬(f:Int)=oi a.cq:=by rw[Uy]at al;exact al
  have aH:=l.1.a.d 8;have W:=@af _ (l.1.d (n':= {a with bI:=wrap64 (a.bI-1)}) 8 (I J (wrap64 (a.bI-1))) (by simp[eO]) rfl rfl rfl);have am:=@af _ (Fz b {a with bI:=wrap64 (a.bI-1)} e f c ((h.setCell ⟨b,8,N⟩ (I J (wrap64 (a.bI-1)))).alloc (.cells #[I J c] 319)) (W.1.b ((ae.a aa _).b _) λ_ _ d=>d));have an(_:=()):∀D X,aY D b (({a with bI:=wrap64 (a.bI-1)}:ay).n f c) X->_:=λD X aI=>BM b _ X D aI (by unfold ay.n;split<;>exact l.2);clear t H M o i;generalize oi a.cq=ni at *;go_enter func205,ntmps205;go_wp2_with fail;refine Uq am ?_;rintro ag D ⟨rfl,ao,w⟩;have ap:=@aC _ _ ao ((W.2.a (cT.b b e ((ae.a aa _).b _))).a w);clear ao w am u K aH W;go_wp2_with fail;refine Uq (an () _ _ ap.1) ?_;rintro ag q ⟨rfl,U,r,x⟩;have V(_:=()):∃k,aY q b (({a with bI:=wrap64 (a.bI-1)}:ay).n f c).q k/\cT h q b e k:=⟨U,r,ap.2.a x⟩
  clear r x an;go_wp2;go_ret;exact⟨by rw[g];rfl,by rw[g];exact V⟩
end Go.Proofs.YtlfijfodklhplaaGreat
