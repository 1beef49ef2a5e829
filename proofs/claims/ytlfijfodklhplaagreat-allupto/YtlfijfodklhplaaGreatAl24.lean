import Derived.Test.YtlfijfodklhplaaGreatAl23
import Derived.Test.YtlfijfodklhplaaGreatAl17
import Derived.Lib.SliceRun
set_option maxRecDepth 100000
set_option maxHeartbeats 2000000
set_option linter.all false
open Go.RowKit Go.Proofs.Tryz
open Go.Value renaming int->I,slice->L,pointer->P,bool->B
open Go.IntKind renaming i64->J
open Option renaming some->S,none->N
open Bool renaming true->T,false->F
namespace Go.Proofs.YtlfijfodklhplaaGreat
structure pq(e w':World)(c:Nat)(f g:Np):Prop where
 b:∀d,iL c g d->iL c f d\/e.heap.size<=d
 a:ae (iL c f) e w'
def cT.g{a w' b c d}(e:cT a w' b c d):pq a w' b c d:=⟨e.e,e.c⟩
def pq.c{e w1 f d g h i}(b:pq e w1 d g h)(k:pq w1 f d h i):pq e f d g i:=
 ⟨λc j=>by
  obtain a|a:=k.b c j;exact b.b c a;exact Up (UM b.a.size a),b.a.g k.a (λc j l=>by
  obtain a|a:=b.b c l;exact a;omega)⟩
structure J1(e n':ay)(f:Nat):Prop where
 a:n'.ai.length=e.ai.length
 b:lf e->lf n'
 d:n'.an.length<=e.an.length
 c:n'.aD.length<=e.aD.length+f
def BT(d):∀c a,lf a->J1 a (a.h d c).1 (d*(a.ai.length+2))/\((a.h d c).2=T->(a.h d c).1.an.length+1=a.an.length):=by
 induction d with
 |zero=>intro c a h;exact⟨⟨rfl,id,UF _,by simp[ay.h]⟩,λf=>by simp[ay.h]at f⟩
 |succ d l=>
  intro c a h;rw[ay.h];split;exact⟨⟨rfl,id,UF _,XE _ _⟩,λf=>by simp at f⟩;rename_i b j;have k:=h.c b (Uo j);have e:=uD a b.1 b.2 k.1 k.2;have m:=(Ul.1 j).1;have i:=h.b e;have p:=e.g;have q:(d+1)*(a.ai.length+2)=d*(a.ai.length+2)+(a.ai.length+2):=by rw[Xv]
  split;have n:((a.a b.1 b.2).1.an.eraseIdx c).length+1=a.an.length:=by rw[e.d,VQ m];omega
  refine⟨⟨e.c,λ_=>i.g c,?_,?_⟩,λ_=>n⟩;show ((a.a b.1 b.2).1.an.eraseIdx c).length<=_;omega;show (a.a b.1 b.2).1.aD.length<=_;omega;obtain⟨g,o⟩:=l (c+1) (a.a b.1 b.2).1 i;refine⟨⟨g.a.trans e.c,λ_=>g.b i,by have:=g.d;rw[e.d]at this;exact this,?_⟩,λf=>by have:=o f;rw[e.d]at this;exact this⟩;have:=g.c;rw[e.c]at this;omega
def wC(a:World)(b:Nat):Nat:=match a.cell? ⟨b,10,N⟩with|some (.slice _ c _)=>c|_=>0
structure Tk(l wr:World)(j:Nat)(i:ay)(m:Np)(c:ay)(k:Np):Prop where
 d:aY wr j c k
 g:cT l wr j m k
 a:lf c
 h:c.ai.length=i.ai.length
 b:c.an.length<=i.an.length
 f:c.aD.length+c.an.length*(5000*1002)<=i.aD.length+i.an.length*(5000*1002)
 e:c.v (c.an.length+1)=i.v (i.an.length+1)
def Tk.c{c wr a d b e f}(g:Tk c wr a d e b f):wC wr a=b.an.length:=by obtain⟨-, -, -, -, -, -, -, -, -, -,h, -⟩:=g.d.cells;unfold wC;rw[h]
def Tk.i{g wr w' c d a h i e}(b:Tk g wr c d h a i)(o:(d.an.length:Int)<5000)(j:(a.h a.an.length 0).2=T)(k:aY w' c (a.h a.an.length 0).1 e)(l:cT wr w' c i e):Tk g w' c d h (a.h a.an.length 0).1 e:=by obtain⟨f,m⟩:=BT a.an.length 0 a b.a;have n:=m j;refine⟨k,b.g.a l,f.b b.a,f.a.trans b.h,by have:=b.b;omega,?_,?_⟩;have p:=b.a.a.a;have q:=f.c;have r:=b.f;have s:a.an.length*(a.ai.length+2)<=5000*1002:=Nat.mul_le_mul (by have:=b.b;omega) (by omega);omega;rw[<-b.e,ay.v.eq_2 a,UG j,n]
def Tk.j{c wr d b a e f}(g:Tk c wr d b e a f)(h:(a.h a.an.length 0).2=F):b.v (b.an.length+1)=(a.h a.an.length 0).1:=by rw[<-g.e,ay.v.eq_2 a,Us (by rw[h];simp)]
def Lv:(prog.info? 270).map (λa=>(a.zero,a.size,a.bytes))=S (S (.agg #[.int J 0,.nilIface]),2,24):=by kernel_rfl
def aY.u{i w1 e d p}(c:aY i e d p)(j a' c')(r:RV w1 270 2 a' (d.an.length+1) c' (gS d.an++qk j))(m:∀b,ag a' b->ag p.fa b\/i.heap.size<=b)(f:ae (ag p.fa) i w1):
 aY (w1.setCell ⟨e,10,N⟩ (L a' (d.an.length+1) c')) e {d with an:=d.an++[j]} {p with fa:=a',fc:=c'}/\pq i (w1.setCell ⟨e,10,N⟩ (L a' (d.an.length+1) c')) e p {p with fa:=a',fc:=c'}:=by
 have n:=c.a.b;have k:ae (ap e) w1 (w1.setCell ⟨e,10,N⟩ (L a' (d.an.length+1) c')):=(ae.a (ap e) w1).e (p:=⟨e,10,N⟩) (λ_=>rfl) _;have l:∀b,b<i.heap.size->¬ag p.fa b->¬ag a' b:=λb g s a=>by obtain a|a:=m b a;exact s a;omega
 have v:=(c.a.c f λa=>c.e a).f 10 (L a' (d.an.length+1) c');have t:(d.an++[j]).length=d.an.length+1:=by simp
 refine⟨⟨?_,?_,?_,?_,c.c,l e n c.e,c.f,λh o=>l h (c.i.b h o) (c.h h o),c.l,λh u q=>?_⟩,⟨λh f=>?_,?_⟩⟩;have:(eO d p).setIfInBounds 10 (L a' (d.an.length+1) c')=eO {d with an:=d.an++[j]} {p with fa:=a',fc:=c'}:=by simp[eO]
 grind;exact(c.i.a f λb g a=>c.h b g a).a k (λb g a=>by rw[show b=e from a]at g;exact c.c g);rw[t,yi];exact r.a k (λb g a=>by rw[show b=e from a]at g;exact l e n c.e g);exact(c.j.a f λb g a=>c.m b a g).a k (λb g a=>by rw[show b=e from a]at g;exact c.f g);exact l h (c.j.b h q) (λa=>c.m h a q) u;obtain f|f|f|f:=f;exact Ur (Ur f);exact Ur (Up (Ur f));exact(m h f).imp (λa=>Up (Up (Ur a))) id;exact Ur (Up (Up (Up f)));exact(f.d λ_ _ a=>Up (Up (Ur a))).c (k.d λ_ _ a=>Ur a)
def P1(c b j a d i)(v:aY i c b j)(m:lf b)(Z:a<b.ai.length)(D:1<=d.a)(ab:d.a<=7)(ac:d.c<=10)(s:(b.an.length:Int)<5000)(ad:(b.aD.length:Int)<10000000000):
 Cr 117 #[P (S ⟨c,0,N⟩),.int J a,mv d] i (.tuple #[]) λag=>∃l,aY ag c (b.w a d) l/\pq i ag c j l:=by
 have aV:=v.a.b;have k:=@lP _ _ _ _ _ v m Z s ad;have E(_:=()):1<=d.a/\d.a<=7/\(cy d).c:=⟨D,ab,by unfold cy;split<;>simp[bV.c];exact ac⟩
 have ah:=@af _ v.n;clear v m Z s ad D ab ac;have w(_:=()):∀h,_:=λh=>TM d h E.1 E.2.1;have G(_:=()):∀h,ae aa i h->_:=λh aG=>Eg c b j a (cy d) h (k.1.b aG λ_ _ e=>e) (k.2.1.f (by have:=k.2.2.2.2;omega)) k.2.2.1;have x(_:=()):b.w a d=(if (b.a a (cy d)).2 then (b.a a (cy d)).1.v ((b.a a (cy d)).1.an.length+1)else { (b.a a (cy d)).1 with an:=(b.a a (cy d)).1.an++[(a,cy d)]}):=rfl;have q:=@af _ (uD b a (cy d) k.2.2.1 E.2.2);generalize b.w a d=nt at *;have aH(_:=()):(cy d).b= .iface (cy d).e (cy d).d:=bV.g _;rw[bV.g]at w G;obtain⟨aI,aJ,aK,aL⟩:=d;simp only[mv]at w|-;generalize cy ⟨aI,aJ,aK,aL⟩=tm at *;generalize tm.e=cty at *;generalize tm.d=cin at *;go_enter func117,ntmps117;go_wp2_with fail;refine Uq (w () _) ?_;rintro ai h ⟨rfl,aj⟩;have y:=@af _ (((ae.a aa i).b _).c aj);clear aj w;go_wp2_with fail;refine Uq (G () _ (y.b _)) ?_;rintro ai f ⟨rfl,n,ak,z⟩;have al:aq (h.alloc (.cells #[I J a,.iface cty cin] 270)) h.heap.size #[I J a,.iface cty cin] 270:=aq.e _ _ _;have am:=al.c z.c (λe=>by have:=ah () _ e;have:=y.size;omega);have g(_:=()):aY f c (b.a a tm).1 n/\cT i f c j n/\aq f h.heap.size #[I J a,.iface cty cin] 270/\¬iL c n h.heap.size:=⟨ak,(cT.b c j (y.b _)).a z,am,λe=>by obtain e|e:=z.e _ e;have:=ah () _ e;have:=y.size;omega;simp only[Uv]at e;omega⟩
 clear al am ak z G;cases ao:(b.a a tm).2 with
 |true=>
  have H(_:=()):nt=(b.a a tm).1.v ((b.a a tm).1.an.length+1):=by rw[x,ao];rfl
  have K(_:=()):((b.a a tm).1.aD.length:Int)<11000000000/\((b.a a tm).1.an.length:Int)<5000:=by have D:=q.g;have aW:=k.2.1.a.a;have aM:=k.2.2.2;rw[q.d];exact⟨by omega,aM.1⟩
  have aN(_:=()):Tk i f c (b.a a tm).1 j (b.a a tm).1 n:=⟨g.1,g.2.1,k.2.1.b q,rfl,UF _,UF _,rfl⟩
  clear x q;generalize (b.a a tm).1=n1 at *;go_wp2_with fail;go_loopw [26] (λaO wr=>∃(o:ay)(M:Np),Tk i wr c n1 j o M) λaO wr=>wC wr c;case atStart=>exact⟨n1,n,aN⟩
  case round=>
   obtain⟨o,M,p⟩:=hrel;have t:=@af _ p;have ap:=@af _ (Qc c o M wr p.d p.a (by have:=p.b;have:=K.2;omega) (by have:=p.f;have:=K;have:=p.b;omega));clear p;go_wp2_with fail;refine Uq ap ?_;rintro ai O ⟨rfl,ar,au,av⟩;have A:=@aC _ _ au av;clear au av ap;cases Q:(o.h o.an.length 0).2 with
   |true=>
    have r:=@af _ (t.i K.2 Q A.1 A.2);have aP(_:=()):wC O c<wC wr c:=by rw[r.c,t.c];have:=(BT o.an.length 0 o t.a).2 Q;omega
    go_wp2;exact⟨⟨_,ar,r⟩,aP⟩
   |false=>
    have r(_:=()):∃l,aY O c nt l/\pq i O c j l:=⟨ar,by rw[H,t.j Q];exact A.1,(t.g.a A.2).g⟩
    go_wp2;go_end0;exact⟨rfl,r⟩
 |false=>
  have H(_:=()):nt= { (b.a a tm).1 with an:=(b.a a tm).1.an++[(a,tm)]}:=by rw[x,ao];rfl
  have R(_:=()):((b.a a tm).1.an.length:Int)<5000:=by rw[q.d];exact k.2.2.2.1
  obtain⟨-, -, -, -, -, -, -, -, -, -,U, -⟩:=g.1.cells;have aw:=g.1.a.d 10;have ax:=g.1.a.b;have az:=g.2.2.1.a 0;have aA:=g.2.2.1.a 1;simp at az aA;have aX:=g.2.2.1.b;have aB:=@af _ (g.1.e);have C:=@af _ (g.1.g.a ((ae.a aa f).drew) λ_ _ e=>e);have aQ(_:=()):qk (a,tm)=[I J a,.iface cty cin]:=by rw[<-aH];rfl
  clear q x;generalize (b.a a tm).1=n1 at *;generalize aD:n1.an.length=ln at U C R;generalize aR:gS n1.an=ls at C;go_wp2_with fail;go_region_law (refine mj rfl (.tmp 19) (.tmp 21) 184 rfl 270 (.agg #[I J 0,.nilIface]) 2 24 underlying184 Lv rfl n.fa ln n.fc (by simp[Act.eval,Act.put]) ls (C.c _) ⟨f.heap.size,0,N⟩ 1 1 (by omega) rfl [I J a,.iface cty cin] rfl (gJ f.drew [I J a,.iface cty cin] 270 _ rfl) (by intro aZ aE;simp at aE;obtain rfl|rfl:=aE<;>rfl) (by have:=R;omega) (by have:=R;omega) ?_;intro V W X Y aF u;have aS:=((((ae.a aa f.drew).b _).d λ_ _ e=>e.elim).c u).f c 10 ax aB;have aT:=((((ae.a aa f.drew).b _).d λ_ _ e=>e.elim).c u).h c 10 ax aB;rw[show f.drew.cell? ⟨c,10,N⟩=_ from U]at aS;rw[show f.drew.frozen? ⟨c,10,N⟩=_ from aw]at aT);all_goals
   have r(_:=()):∃l,aY (X.setCell ⟨c,10,N⟩ (L V (ln+1) W)) c nt l/\pq i (X.setCell ⟨c,10,N⟩ (L V (ln+1) W)) c j l:=by
    rw[H];have aU:=((((ae.a aa f).drew).b _).d λ_ _ e=>e.elim).c u;rw[<-aD,<-aR,<-aQ]at Y;rw[<-aD];have s:=g.1.u (a,tm) V W Y (λa0 m=>by obtain⟨e,_⟩|⟨e,_⟩:=aF;rw[e]at m;exact Ur m;rw[e]at m;have:=cM.1 m;simp only[Uv,UR]at this;exact Up (by omega)) aU
    exact⟨_,s.1,g.2.1.g.c s.2⟩
   have a1:c<X.heap.size:=Un (by simp;omega) u.size;clear Y aF u U aw az aA C;go_wp2;(try simp only[Exit.inBlock,Exit.then]);refine UO (VX rfl _ _ _) rfl ?_;exact⟨rfl,r⟩
def gT(a:List Nat):List Value:=a.map λ(b:Nat)=>I J (b:Int)
def Bm(a)(k b:Nat)(c:a[k]?=S b):(gT a)[k]?=S (I J b):=by simp[gT,c]
def PH:(prog.info? 190).map (λa=>(a.zero,a.size,a.bytes))=S (S (.agg #[.int J 0,.int J 0]),2,16):=by kernel_rfl
def PF(a b):jW (a++b)=jW a++jW b:=by simp[jW]
def aY.q{j w1 e d p}(c:aY j e (ay.g d) p)(i a' c')(s:RV w1 190 2 a' (d.length+1) c' (jW (ay.g d).ai++sm (i,0)))(n:∀b,ag a' b->ag p.ea b\/j.heap.size<=b)(f:ae (ag p.ea) j w1):
 aY (w1.setCell ⟨e,3,N⟩ (L a' (d.length+1) c')) e (ay.g (d++[i])) {p with ea:=a',ec:=c'}/\pq j (w1.setCell ⟨e,3,N⟩ (L a' (d.length+1) c')) e p {p with ea:=a',ec:=c'}:=by
 have o:=c.a.b;have k:ae (ap e) w1 (w1.setCell ⟨e,3,N⟩ (L a' (d.length+1) c')):=(ae.a (ap e) w1).e (p:=⟨e,3,N⟩) (λ_=>rfl) _;have l:∀b,b<j.heap.size->¬ag p.ea b->¬ag a' b:=λb g t a=>by obtain a|a:=n b a;exact t a;omega
 have w:=(c.a.c f λa=>c.c a).f 3 (L a' (d.length+1) c');have u:(ay.g (d++[i])).ai=(ay.g d).ai++[(i,0)]:=by simp[ay.g]
 have v:(ay.g (d++[i])).ai.length=d.length+1:=by simp[ay.g]
 refine⟨⟨?_,?_,?_,?_,l e o c.c,c.e,c.f,λh m q=>l h (c.g.b h q) (λa=>c.h h a q) m,λh m r=>l h (c.j.b h r) (λa=>c.l h a r) m,c.m⟩,⟨λh f=>?_,?_⟩⟩;have:(eO (ay.g d) p).setIfInBounds 3 (L a' (d.length+1) c')=eO (ay.g (d++[i])) {p with ea:=a',ec:=c'}:=by simp[eO,ay.g]
 grind;rw[v,u,PF];exact s.a k (λb g a=>by rw[show b=e from a]at g;exact l e o c.c g);exact(c.g.a f λb g a=>c.h b a g).a k (λb g a=>by rw[show b=e from a]at g;exact c.e g);exact(c.j.a f λb g a=>c.l b a g).a k (λb g a=>by rw[show b=e from a]at g;exact c.f g);obtain f|f|f|f:=f;exact Ur (Ur f);exact(n h f).imp (λa=>Up (Ur a)) id;exact Ur (Up (Up (Ur f)));exact Ur (Up (Up (Up f)));exact(f.d λ_ _ a=>Up (Ur a)).c (k.d λ_ _ a=>Ur a)
def PU(d t wc g)(D:RV g 3 1 t d.length wc (gT d))(E:(d.length:Int)<1000):
 Calls prog 107 #[L t d.length wc] g λac G=>∃f H,ac= .returned (P (S ⟨f,0,N⟩))/\aY G f (ay.g d) H/\ae aa g G/\∀c,iL f H c->g.heap.size<=c:=by
 have K:=@aC _ _ D E;clear D E;go_enter func107,ntmps107;go_wp2_with fail;obtain⟨u,p⟩:=ah (g.alloc (.cells #[I J 0,I J 0,I J 0,L N 0 0,I J (-1),I J (-1),I J 1001,I J (-1),I J 0,B F,L N 0 0,L N 0 0] 187));obtain⟨f,v⟩:=ah g.heap.size;rw[<-p,<-v];have ad(_:=()):aY u f (ay.g []) ⟨N,0,N,0,N,0⟩/\ae aa g u/\∀c,iL f ⟨N,0,N,0,N,0⟩ c->g.heap.size<=c:=by
  have ai:aq u f (eO (ay.g []) ⟨N,0,N,0,N,0⟩) 187:=by rw[p,v];exact aq.e _ _ _
  have i:∀c,¬ag N c:=λc b=>by obtain⟨_,b⟩:=b;cases b
  refine⟨⟨ai,⟨rfl,UF _,Ur ⟨rfl,rfl,rfl⟩⟩,⟨rfl,UF _,Ur ⟨rfl,rfl,rfl⟩⟩,⟨rfl,UF _,Ur ⟨rfl,rfl,rfl⟩⟩,i _,i _,i _,λa b=>(i a b).elim,λa b=>(i a b).elim,λa b=>(i a b).elim⟩,by rw[p];exact(ae.a aa g).b _,λc e=>?_⟩;obtain e|e|e|e:=e;omega;exact(i c e).elim;exact(i c e).elim;exact(i c e).elim
 clear p v;go_loopw [10] (λw wr=>∃(a:Nat)(j:Np),a<=d.length/\w= .int J a/\aY wr f (ay.g (d.take a)) j/\ae aa g wr/\∀c,iL f j c->g.heap.size<=c) λw _=>d.length-(intOf w).toNat;case atStart=>exact⟨0,_,by omega,rfl,ad⟩
 case round=>
  obtain⟨a,j,x,rfl,m⟩:=hrel;have h:=@aC _ _ m x;have M:=m.1.a.b;have O:=m.1.a.d 3;obtain⟨-, -, -,y, -⟩:=m.1.cells;clear m;by_cases q:a<d.length
  .have Q:=@af _ q;have aB:(a:Int)<d.length:=by omega
   obtain⟨k,z⟩:∃k,d[a]?=S k:=⟨_,Um q⟩
   have aj:=@af _ z;have ak:=K.1.a h.1.2.1 λ_ _ b=>b;obtain⟨al,am,n⟩:=ak;obtain⟨l,o,R,aD,aE⟩:∃l o,t=S ⟨l,o,N⟩/\l<wr.heap.size/\wr.cell? ⟨l,o+a,N⟩=S (I J k):=by obtain⟨_,n,_⟩|⟨l,o,n,U⟩:=n;omega;exact⟨l,o,n,U.b,U.a _ _ (Bm d a k z)⟩
   have V:(d.take a).length=a:=by rw[UK];omega
   have A:(ay.g (d.take a)).ai.length=a:=by simp[ay.g];omega
   rw[A]at y;have an:(a:Int)<1000:=by have:=K.2;omega
   have W(_:=()):RV wr 190 2 j.ea a j.ec (jW (ay.g (d.take a)).ai):=by have:=h.1.1.i;rw[A]at this;exact this
   have X:=@af _ (h.1.1.c);have Y:=@af _ an;rw[R];clear q x z al am n R A;generalize ao:jW (ay.g (d.take a)).ai=ls at W;go_wp2_with (at_builtin;refine jX _ rfl (.tmp 18) (.tmp 21) 183 rfl 190 (.agg #[I J 0,I J 0]) 2 16 underlying183 PH rfl j.ea a j.ec rfl ls (W.c _) ⟨wr.heap.size,0,N⟩ 1 1 (by omega) rfl [I J k,I J 0] rfl (gJ wr [I J k,I J 0] 190 _ rfl) (by intro aF Z;simp at Z;obtain rfl|rfl:=Z<;>rfl) (by have:=Y;omega) (by have:=Y;omega) ?_;intro ap ar aG ab au C;have av:=((((ae.a aa wr).b _).d λ_ _ b=>b.elim).c C).f f 3 M X;have aw:=((((ae.a aa wr).b _).d λ_ _ b=>b.elim).c C).h f 3 M X;rw[y]at av;rw[O]at aw);have ax:=(((ae.a aa wr).b _).d λ_ _ b=>b.elim).c C;rw[<-ao]at ab;have r:=h.1.1.q k ap ar (by rw[V];exact ab) (λl s=>by obtain⟨b,_⟩|⟨b,_⟩:=au;rw[b]at s;exact Ur s;rw[b]at s;have:=cM.1 s;simp only[Uv]at this;exact Up (by omega)) ax
   rw[V,<-su d a k aj]at r;refine⟨⟨a+1,_,by have:=Q;omega,by go_num,r.1,h.1.2.1.g r.2.a (λc e b=>by have:=h.1.2.2 c b;omega),λc e=>?_⟩,by have:=Q;simp[intOf];omega⟩;obtain e|e:=r.2.b c e;exact h.1.2.2 c e;exact UM h.1.2.1.size e
  .have az:a=d.length:=by omega
   subst az;have aA(_:=()):aY wr f (ay.g d) j:=by have:=h.1.1;rw[Vu]at this;exact this
   clear q x y O;go_wp2;go_ret;exact⟨f,j,rfl,aA,h.1.2⟩
def Bn:(prog.info? 3).map (λa=>(a.zero,a.size,a.bytes))=S (S (.int J 0),1,8):=by kernel_rfl
structure Lo(k wr:World)(l j p q s t:Nat)(u:Bool)(m:List Nat)(i:Option Addr)(n:Nat):Prop where
 d:ae aa k wr
 b:aq wr l #[.int J (p:Int),.int J (q:Int),.int J (s:Int),B u,.int J (t:Int),L i m.length n] 50
 a:aq wr j #[.int J 0,.int J 0,.int J 0,B F,.int J 0,L N 0 0] 50
 h:RV wr 3 1 i m.length n (gT m)
 f:∀o,ag i o->k.heap.size<=o
 e:¬ag i l
 g:¬ag i j
 c:j<l
 r:k.heap.size<=j
def Lo.i{q wr g c j r s t u v d k a' y c'}(a:Lo q wr c j r s t u v d k y)(i:Nat)(z:RV g 3 1 a' (d.length+1) c' (gT d++[.int J i]))(w:∀e,ag a' e->ag k e\/wr.heap.size<=e)(l:ae (ag k) wr g):
 Lo q (g.setCell ⟨c,5,N⟩ (L a' (d.length+1) c')) c j r s t u v (d++[i]) a' c':=by
 have m:ae (ap c) g (g.setCell ⟨c,5,N⟩ (L a' (d.length+1) c')):=(ae.a (ap c) g).e (p:=⟨c,5,N⟩) (λ_=>rfl) _;have n:∀e,e<wr.heap.size->¬ag k e->¬ag a' e:=λe o A b=>by obtain b|b:=w e b;exact A b;omega
 have x:=a.b.b;have C:(d++[i]).length=d.length+1:=by simp
 refine⟨?_,?_,?_,?_,λh f=>?_,n c x a.e,n j a.a.b a.g,a.c,a.r⟩;have D:=a.d.g l (λh f b=>by have:=a.f h b;omega);exact D.g m (λh f b=>by have:=a.r;have:=a.c;have b:h=c:=b;omega);have:=(a.b.c l a.e).f 5 (L a' (d.length+1) c');grind;exact(a.a.c l a.g).c m (λb=>by have b:j=c:=b;have:=a.c;omega);rw[C];have E:gT (d++[i])=gT d++[I J i]:=by simp[gT]
 rw[E];exact z.a m (λe o b=>by rw[show e=c from b]at o;exact n c x a.e o);obtain f|f:=w h f;exact a.f h f;exact UM a.d.size f
def oS(a:ay)(b:Option Addr)(c:Nat):Value:= .agg #[I J (a.aP:Int),I J (a.aM:Int),I J (a.cX:Int),B a.iy,I J (a.an.length:Int),L b a.ai.length c]
def PR(h c p f)(D:aY f h c p)(al:(c.ai.length:Int)<1000):
 Calls prog 71 #[P (S ⟨h,0,N⟩)] f λaX m=>∃g i,aX= .returned (oS c g i)/\RV m 3 1 g c.ai.length i (gT (c.ai.map (·.2)))/\ae aa f m/\∀k,ag g k->f.heap.size<=k:=by
 have u:=@aC _ _ D al;obtain⟨am,an,ao,E,aZ,a0,a1,a2,a3,ar,au,a4⟩:=D.cells;have q:=D.a.b;clear D al aZ a0 a1 a2 a3 a4;unfold oS;generalize c.aP=ns at *;generalize c.aM=nl at *;generalize c.cX=nn at *;generalize c.iy=nov at *;generalize bw:c.an.length=nof at *;go_enter func71,ntmps71;go_wp2_with fail;obtain⟨r,G⟩:=ah (f.alloc (.cells #[I J 0,I J 0,I J 0,B F,I J 0,L N 0 0] 50));have n:ae aa f r:=by rw[G];exact(ae.a aa f).b _
 have V:aq r f.heap.size #[I J 0,I J 0,I J 0,B F,I J 0,L N 0 0] 50:=by rw[G];exact aq.e _ _ _
 obtain⟨d,H⟩:=ah f.heap.size;rw[<-G,<-H];rw[<-H]at V;have w:=(n.f h 0 q id).trans am;have x:=(n.f h 1 q id).trans an;have y:=(n.f h 2 q id).trans ao;have a5:=(n.f h 9 q id).trans ar;have a6:=(n.f h 10 q id).trans au;have a7:=Un q n.size;have z:=@cf _ _ _ n H V;clear G n V H am an ao E ar au;go_region_held3 (λm=>m.cell? ⟨h,0,N⟩=S (I J ns)/\m.cell? ⟨h,1,N⟩=S (I J nl)/\m.cell? ⟨h,2,N⟩=S (I J nn)/\m.cell? ⟨h,9,N⟩=S (B nov)/\m.cell? ⟨h,10,N⟩=S (L p.fa nof p.fc)) (go_keep) (fail);obtain⟨s,K⟩:=ah ((r.alloc (.cells #[I J ns,I J nl,I J nn,B nov,I J nof,L N 0 0] 50)).drew);obtain⟨j,W⟩:=ah r.heap.size;rw[<-K,<-W];have av:aq s j #[I J ns,I J nl,I J nn,B nov,I J nof,L N 0 0] 50:=by rw[K,W];exact(aq.e _ _ _).c ((ae.a aa _).drew) id
 have X:ae aa r s:=by rw[K];exact((ae.a aa r).b _).drew
 have M(_:=()):ae aa f s/\aq s j #[I J ns,I J nl,I J nn,B nov,I J nof,L N 0 0] 50/\aq s d #[I J 0,I J 0,I J 0,B F,I J 0,L N 0 0] 50/\d=f.heap.size/\d<j:=⟨z.1.c X,av,z.2.2.c X id,z.2.1,by have:=z.2.2.b;omega⟩
 have E:=((u.1.b M.1 λ_ _ b=>b).a.a 3)
 simp[eO]at E;have a8:=(u.1.b M.1 λ_ _ b=>b).a.b;clear K W av X w x y a5 a6 a7 z;go_wp2_with fail;have aw(_:=()):Lo f s j d ns nl nn nof nov [] N 0:=by
  have Y:∀k,¬ag N k:=λk b=>by obtain⟨_,b⟩:=b;cases b
  obtain⟨a9,ba,bb,bx,bc⟩:=M;exact⟨a9,ba,bb,⟨rfl,UF _,Ur ⟨rfl,rfl,rfl⟩⟩,λk b=>(Y k b).elim,Y _,Y _,bc,by omega⟩
 clear E M a8;go_loopw [33] (λv wr=>∃(e:Nat)(g:Option Addr)(i:Nat),e<=c.ai.length/\v= .int J e/\Lo f wr j d ns nl nn nof nov ((c.ai.take e).map (·.2)) g i) λv _=>c.ai.length-(intOf v).toNat;case atStart=>exact⟨0,N,0,by omega,rfl,aw⟩
 case round=>
  obtain⟨e,g,i,Z,rfl,a⟩:=hrel;have t:=@aC _ _ a Z;have ax:=a.b.b;have ay:=a.b.d 5;have w:=a.b.a 0;have x:=a.b.a 1;have y:=a.b.a 2;have ab:=a.b.a 3;have ac:=a.b.a 4;have O:=a.b.a 5;simp at w x y ab ac;have Q:((c.ai.take e).map (·.2)).length=e:=by rw[UX,UK];omega
  replace O:wr.cell? ⟨j,5,N⟩=S (L g e i):=by rw[O];simp;omega
  by_cases R:e<c.ai.length
  .have az:=@af _ R;have bz:(e:Int)<c.ai.length:=by omega
   obtain⟨b,ad⟩:∃b,c.ai[e]?=S b:=⟨_,Um R⟩
   obtain⟨ai,bA,aA,bB,bd,be,_⟩:=(u.1.b a.d λ_ _ b=>b).o e b ad;have bf:=@af _ ad;have A:(e:Int)<1000:=by have:=u.2;omega
   have aB:=@af _ A;have aD(_:=()):RV wr 3 1 g e i (gT ((c.ai.take e).map (·.2))):=by have:=t.1.h;rw[Q]at this;exact this
   have aE:=@af _ (t.1.e);have aF:=@af _ Q;rw[aA];obtain⟨aG,C⟩:=b;simp only at bd be;clear R Z ad a w x y ab ac Q aA;generalize bg:gT ((c.ai.take e).map (·.2))=ls at aD;go_wp2_with (at_builtin;refine jX _ rfl (.tmp 38) (.tmp 41) 25 rfl 3 (I J 0) 1 8 underlying25 Bn rfl g e i rfl ls ((aD.c _).c _) ⟨wr.heap.size+1,0,N⟩ 1 1 (by omega) rfl [I J C] rfl (gJ (wr.alloc (.cells #[I J aG,I J C] 190)) [I J C] 3 _ (by simp)) (by simp[Value.oneCell']) (by have:=aB;omega) (by have:=aB;omega) ?_;intro bh bi bC aH bj aj;have bk:=(((((ae.a aa wr).b _).b _).d λ_ _ b=>b.elim).c aj).f j 5 ax aE;have bl:=(((((ae.a aa wr).b _).b _).d λ_ _ b=>b.elim).c aj).h j 5 ax aE;rw[O]at bk;rw[ay]at bl);have bm:=((((ae.a aa wr).b _).b _).d λ_ _ b=>b.elim).c aj;rw[<-bg]at aH;have aI:=t.1.i C (by rw[aF];exact aH) (λai o=>by obtain⟨b,_⟩|⟨b,_⟩:=bj;rw[b]at o;exact Ur o;rw[b]at o;have:=cM.1 o;simp only[Uv]at this;exact Up (by omega)) bm
   rw[aF]at aI;refine⟨⟨e+1,bh,bi,by have:=az;omega,by go_num,?_⟩,by have:=az;simp[intOf];omega⟩;rw[su c.ai e (aG,C) bf,Vm];exact aI
  .have bn:e=c.ai.length:=by omega
   subst bn;have bD:=a.a.b;have bo:=a.a.d 0;have bp:=a.a.d 1;have bq:=a.a.d 2;have br:=a.a.d 3;have bs:=a.a.d 4;have bt:=a.a.d 5;have aJ:=a.a.a 0;have aK:=a.a.a 1;have aL:=a.a.a 2;have aM:=a.a.a 3;have aN:=a.a.a 4;have aO:=a.a.a 5;simp at aJ aK aL aM aN aO;have bE:¬j=d:=by have:=a.c;omega
   have bF:¬d=j:=by have:=a.c;omega
   clear R Z Q a ay;go_wp2_with fail;have l:=(((((t.1.a.f 0 (I J ns)).f 1 (I J nl)).f 2 (I J nn)).f 3 (B nov)).f 4 (I J nof)).f 5 (L g c.ai.length i);obtain⟨bu,ak⟩:=ah ((((((wr.setCell ⟨d,0,N⟩ (I J ns)).setCell ⟨d,1,N⟩ (I J nl)).setCell ⟨d,2,N⟩ (I J nn)).setCell ⟨d,3,N⟩ (B nov)).setCell ⟨d,4,N⟩ (I J nof)).setCell ⟨d,5,N⟩ (L g c.ai.length i));have A:ae (ap d) wr bu:=by rw[ak];exact((((((ae.a (ap d) wr).e (p:=⟨d,0,N⟩) (λ_=>rfl) _).e (p:=⟨d,1,N⟩) (λ_=>rfl) _).e (p:=⟨d,2,N⟩) (λ_=>rfl) _).e (p:=⟨d,3,N⟩) (λ_=>rfl) _).e (p:=⟨d,4,N⟩) (λ_=>rfl) _).e (p:=⟨d,5,N⟩) (λ_=>rfl) _
   rw[<-ak]at l|-;have aP:=l.a 0;have aQ:=l.a 1;have aR:=l.a 2;have aS:=l.a 3;have aT:=l.a 4;have aU:=l.a 5;have bG:=l.b;simp at aP aQ aR aS aT aU;have a:=t.1;have U:=a.h.a A (λai o b=>by rw[show ai=d from b]at o;exact a.g o);rw[Vu]at U;have bv:(c.ai.map (·.2)).length=c.ai.length:=by simp
   rw[bv]at U;have aV:=a.d.g A (λk bH b=>by have b:k=d:=b;have:=a.r;omega);have aW:=a.f;clear ak l a A aJ aK aL aM aN aO bo bp bq br bs bt w x y ab ac O t aw u;refine UO (v:= .agg #[I J ns,I J nl,I J nn,B nov,I J nof,L g c.ai.length i]) ?_ rfl ⟨g,i,rfl,U,aV,aW⟩;clear U aV aW;simp[results,results71,go_sem,aP,aQ,aR,aS,aT,aU]
structure NS(a:ay):Prop where
 d:∀e,a.cq=S e->e<a.ai.length
 c:∀e,a.dj=S e->e<a.ai.length
 b:∀f∈a.aD,f.1<a.ai.length
def NS.a{a n'}(b:NS a)(c:n'.ai.length=a.ai.length)(d:n'.cq=a.cq)(e:n'.dj=a.dj)(f:n'.aD=a.aD):NS n':=
 ⟨by rw[d,c];exact b.d,by rw[e,c];exact b.c,by rw[f,c];exact b.b⟩
def yQ{a}(d:NS a)(b c):NS (a.e b c):=d.a (uY a b c) rfl rfl rfl
def qu{b}(c:NS b)(d e)(f:d<b.ai.length):NS (b.d d e):=
 ⟨c.d,c.c,λg a=>by obtain a|a:=UP.1 a;exact c.b g a;rw[UY.1 a];exact f⟩
def FU{a:ay}{b}(c:a.u=S b):b<a.ai.length:=by obtain⟨d,e⟩:=FT c;grind
def GE{a}(b:NS a):NS a.b:=by unfold ay.b;split;have d:NS {a with aM:=0,aP:=2,bI:=0}:=b.a rfl rfl rfl rfl;split;exact b.a rfl rfl rfl rfl;rename_i c e;exact qu (yQ d c 1) c _ (by rw[uY];exact FU e);exact b
def GD{b}(c:NS b)(a e f g)(d:a<b.ai.length):NS (b.j a e f g):=by unfold ay.j;split;exact(qu c a _ d).a rfl rfl rfl rfl;exact qu c a _ d
def BN{a}(b:NS a):NS a.q:=by unfold ay.q;split;have c:NS {a with aP:=2}:=b.a rfl rfl rfl rfl;split;exact c;rename_i d e;exact qu c d _ (b.d d e);exact b
def BO{a}(c:NS a):NS a.l:=by unfold ay.l;split;have b:NS {a with cB:=N}:=c.a rfl rfl rfl rfl;exact BN b;rename_i d e;have b:NS {a with cB:=S d}:=c.a rfl rfl rfl rfl;exact qu b d _ (FU e)
def PY(h d e f k):∀a b,NS a->b+k<=a.ai.length->NS (a.o h d e f k b):=by
 induction k with
 |zero=>intro a b c _;exact c
 |succ k g=>
  intro a b c i;rw[ay.o];split;exact g _ _ (GD c b d e f (by omega)) (by rw[(H8 a b d e f).1];omega);exact g _ _ c (by omega)
def PW{a}(h:NS a)(b c d e)(i:b<a.ai.length):NS (a.y b c d e):=by
 have j:NS (a.x b c d e):=⟨λk f=>by cases f;exact i,(λk f=>by cases f),h.b⟩
 have g:=PY b c d e a.ai.length (a.x b c d e) 0 j (by simp[ay.x]);rw[FD];split;exact BO g;exact g
def GC{a}(b:NS a)(c):NS (a.f c):=by unfold ay.f;split;exact yQ b _ _;exact b
def GB{a}(b:NS a)(c d)(e:c<a.ai.length):NS (a.n c d):=by unfold ay.n;split;exact⟨b.d,(λg f=>by cases f;exact e),b.b⟩;exact b
def GA{b}(a:NS b):NS b.s:=by unfold ay.s;split;exact a;rename_i c d;split;exact qu a _ _ (a.c c d);exact yQ (qu a _ _ (a.c c d)) _ _
def Gz{b}(c:NS b)(a j)(d:a<b.ai.length):NS (b.a a j).1:=by
 have e:=GE c;have g:=(Cy b).1;cases j with
 |bG f=>
  show NS (b.m a f).1;unfold ay.m;simp only;split;exact GD (yQ e a 1) _ _ _ _ (by rw[uY,g];exact d);split;exact e;exact qu e _ _ (by rw[g];exact d)
 |aL f h l=>exact PW c a f h l d
 |cW f h=>
  show NS (b.r a f h).1;unfold ay.r;simp only;split;exact e;split;exact qu e _ _ (by rw[g];exact d);have k:=GC e a;split;exact BO k;exact qu k _ _ (by rw[(y8 b.b a).2.2.1,g];exact d)
 |dG=>
  have i:NS {b with cB:=N}:=c.a rfl rfl rfl rfl;exact BN (GB i a _ d)
 |dK=>exact BO (GC c a)
 |bH m=>
  show NS (b.i a m).1;unfold ay.i;split;split;exact c;split;exact GA c;split;exact c.a rfl rfl rfl rfl;exact c;have i:NS {b with bI:=wrap64 (b.bI-1)}:=c.a rfl rfl rfl rfl;exact BN (GB i a _ d)
 |dO=>exact GA c
def PX(d):∀e a,lf a->NS a->NS (a.h d e).1:=by
 induction d with
 |zero=>intro e a _ c;exact c
 |succ d i=>
  intro e a g c;rw[ay.h];split;exact c;rename_i b j;have f:=g.c b (Uo j);have h:=Gz c b.1 b.2 f.1;split;exact h.a rfl rfl rfl rfl;exact i _ _ (g.b (uD a b.1 b.2 f.1 f.2)) h
structure lg(c:ay):Prop where
 a:lf c
 b:NS c
def P9(b):∀a,lg a->(a.an.length:Int)<5000->lg (a.v b)/\(a.v b).ai.length=a.ai.length/\(a.v b).an.length<=a.an.length/\(a.v b).aD.length<=a.aD.length+b*(5000*1002):=by
 induction b with
 |zero=>intro a c _;exact⟨c,rfl,UF _,XE _ _⟩
 |succ b f=>
  intro a c j;obtain⟨d,k⟩:=BT a.an.length 0 a c.a;have e:lg (a.h a.an.length 0).1:=⟨d.b c.a,PX _ _ _ c.a c.b⟩
  have l:=d.c;have m:=c.a.a.a;have n:a.an.length*(a.ai.length+2)<=5000*1002:=Nat.mul_le_mul (by omega) (by omega);have g:=d.d;rw[ay.v];split;obtain⟨h,i,o,p⟩:=f _ e (by omega);exact⟨h,i.trans d.a,by omega,by omega⟩;exact⟨e,d.a,g,by omega⟩
def Cn(a b c)(e:lg a)(f:b<a.ai.length)(h:(cy c).c)(k:(a.an.length:Int)<5000):lg (a.w b c)/\(a.w b c).ai.length=a.ai.length/\(a.w b c).an.length<=a.an.length+1/\(a.w b c).aD.length<=a.aD.length+5002*(5000*1002):=by
 have d:=uD a b (cy c) f h;have g:lg (a.a b (cy c)).1:=⟨e.a.b d,Gz e.b b (cy c) f⟩
 have n:=d.g;have o:=e.a.a.a;unfold ay.w;split;obtain⟨i,j,l,m⟩:=P9 ((a.a b (cy c)).1.an.length+1) _ g (by rw[d.d];exact k);rw[d.d]at i j l m|-;exact⟨i,j.trans d.c,by omega,by omega⟩;refine⟨⟨g.a.i b (cy c) (by rw[d.c];exact f) h,g.b.a rfl rfl rfl rfl⟩,d.c,?_,?_⟩;rw[d.d];simp;show (a.a b (cy c)).1.aD.length<=_;omega
def In(a)(b:lg a):lg a.b:=⟨b.a.b (uE a),GE b.b⟩
def PQ(a)(f:∀(b k:Nat)(d e:Nat),b<k->a[b]?=S d->a[k]?=S e->d<=e)(g:(a.length:Int)<1000):lg (ay.g a):=
 ⟨lf.h a f g,(λb c=>by cases c),(λb c=>by cases c),(λi h=>by cases h)⟩
def Hq{b}(a:lg b):lg {b with aD:=[]}:=
 ⟨⟨a.a.a.b rfl,a.a.d,a.a.e,a.a.c⟩,a.b.d,a.b.c,(λd c=>by cases c)⟩
def T8(a):(zeroValue 200).run prog a= .ok (.agg #[.int J 0,.int J 0,L N 0 0,B F]) a:=by
 have c:(prog.info? 200).map (λb=>b.zero)=S (S (.agg #[I J 0,I J 0,L N 0 0,B F])):=by kernel_rfl
 obtain⟨b,d,e⟩:=UD.1 c;simp[zeroValue,typeInfo,d,e]
def Qw:∃a,prog.info? 200=S a/\a.size=4:=by
 have b:(prog.info? 200).map (λa=>a.size)=S 4:=by kernel_rfl
 obtain⟨a,c,d⟩:=UD.1 b;exact⟨a,c,d⟩
def Mc(i d c l k b:Nat)(e f g a h)(j:World)(A:aq j i (e++f++g++a++h).toArray 200)(al:e.length=d)(am:f.length=k*4)(an:g.length=4)(X:a.length=(c-b)*4)(Y:∀n∈a,n.oneCell'=T)(C:b=k+1)(Z:b<=c)(ab:c<=l):
 Cr 167 #[L (S ⟨i,d,N⟩) c l,.int J k,.int J b] j (L (S ⟨i,d,N⟩) (c-1) l) λD=>aq D i (e++f++a++[I J 0,I J 0,L N 0 0,B F]++h).toArray 200/\ae (ap i) j D:=by
 have ao:k<=b:=by omega
 have ar:k<=c:=by omega
 have au:k<=l:=by omega
 have av:(k:Int)<=b:=by omega
 have aw:(b:Int)<=c:=by omega
 have ax:(c:Int)<=l:=by omega
 have ay:((k:Int)==(b:Int))=F:=by rw[Uy];omega
 have az:¬(k:Int)=b:=by omega
 have m:=@cf _ _ _ C Z ab;obtain⟨o,ac,r⟩:=Qw;clear C;have w:=A.c ((ae.a aa j).drew) id;obtain⟨s,aA,ad⟩:∃s:Addr,(if l=b then S (⟨i,d,N⟩:Addr)else S ⟨i,d+b*4,N⟩)=S s/\∀p n,a[p]?=S n->j.drew.cell? (s.add p)=S n:=by
  by_cases E:l=b;refine⟨⟨i,d,N⟩,by rw[UG E],λp n t=>?_⟩;have af:=(Ul.1 t).1;have:=m;have aB:(c-b)*4=0:=by rw[show c-b=0 by omega]
  omega;refine⟨⟨i,d+b*4,N⟩,by rw[Us E],λp n t=>?_⟩;rw[Va];have ag:=w.a (d+b*4+p);have af:=(Ul.1 t).1;rw[ag];simp only[UN];rw[UJ,UJ,UJ,<-UJ,Ut (by simp;have:=m;omega),Ut (by simp;have:=m;omega),Ux (by simp;have:=m;omega)];rw[<-t];congr 1;simp;have:=m;omega
 have ah:a.length=(c-b)*o.size:=by rw[r];exact X
 have G:k+(c-b)<=l:=by have:=m;omega
 have ai:d+k*o.size+a.length<=(e++f++g++a++h).length:=by rw[r];simp;have:=m;omega
 go_enter func167,ntmps167;go_wp2_with fail;go_region_law (refine Id rfl (.tmp 22) (.tmp 25) 85 rfl 200 o underlying85 ac i d k l (e++f++g++a++h) w rfl s (c-b) (l-b) rfl a ah ad Y G ai ?_;intro aj u H);have K:(e++f++g++a++h).take (d+k*o.size)=e++f:=by rw[r,UJ,UJ,show d+k*4=(e++f).length by simp;omega];exact Wp
 have M:(e++f++g++a++h).drop (d+k*o.size+a.length)=(g++a).drop a.length++h:=by rw[r,<-WA,show d+k*4=(e++f).length by simp;omega,show e++f++g++a++h=(e++f)++(g++a++h)by simp,WB,VF (by simp)]
 rw[K,M]at u;have ak:=@aC _ _ u (((ae.a aa j).drew.d λ_ _ q=>q.elim).g H λ_ _ q=>q);have x:((g++a).drop a.length).length=4:=by simp;omega
 have O:c-(k+(c-b))=1:=by have:=m;omega
 have Q:∀j,(zeroValue 200).run prog j= .ok (.agg #[I J 0,I J 0,L N 0 0,B F]) j:=λj=>T8 j;have aD:k+(c-b)<=c:=by have:=m;omega
 have aE:=G;have v:(e++f++a).length=d+(k+(c-b))*4:=by simp;omega
 obtain⟨R,aF,y,U⟩:=Hl (P:=prog) aj 85 0 200 _ underlying85 Q i (d+(k+(c-b))*4) (c-(k+(c-b))) (l-(k+(c-b))) (by omega) (e++f++a++((g++a).drop a.length++h)) u [I J 0,I J 0,L N 0 0,B F] (by rw[O];first|kernel_rfl|decide|simp[Builtin.zeroCells,Value.cells,List.ofFn]) (by simp[Value.oneCell']) (by simp only[Uu]at v x|-;simp;omega);have V:(e++f++a++((g++a).drop a.length++h)).take (d+(k+(c-b))*4)=e++f++a:=by rw[<-v];exact Wp
 have W:(e++f++a++((g++a).drop a.length++h)).drop (d+(k+(c-b))*4+[I J 0,I J 0,L N 0 0,B F].length)=h:=by rw[<-WA,<-v,WB,show [I J 0,I J 0,L N 0 0,B F].length=((g++a).drop a.length).length by rw[x];rfl,WB]
 rw[V,W]at y;have z(_:=()):aq R i (e++f++a++[I J 0,I J 0,L N 0 0,B F]++h).toArray 200/\ae (ap i) j R/\c-1=k+(c-b):=⟨y,ak.2.g U λ_ _ q=>q,by have:=m;omega⟩
 clear u H K M w A y U V W v x O Q;go_wp2;go_ret;exact⟨by rw[z.2.2];rfl,z.1,z.2.1⟩
structure Pk where
 e:Nat
 a:Nat
 l:List Nat
 g:Nat
 c:Nat
 sp:Bool
def Pk.b(a:Pk):Value:=L (S ⟨a.g,0,N⟩) a.l.length a.c
def nf(a:Pk):List Value:=[I J (a.e:Int),I J (a.a:Int),a.b,B a.sp]
def eZ(a:List Pk):List Value:=a.flatMap nf
def jo(a:List Pk)(b:Pk):List Pk:=if a.length<300 then a++[b]else a
def yW(a b):eZ (a++b)=eZ a++eZ b:=by simp[eZ]
def wD(a):(eZ a).length=a.length*4:=by
 induction a with
 |nil=>rfl
 |cons b c d=>
  have e:eZ (b::c)=nf b++eZ c:=by simp[eZ]
  rw[e,Uu,d,Vg];have f:(nf b).length=4:=rfl;omega
def QI(d):∀a∈eZ d,a.oneCell'=T:=by intro a b;simp only[eZ,VW]at b;obtain⟨e,_,c⟩:=b;simp only[nf,Pk.b,UZ,U9,Wc]at c;obtain rfl|rfl|rfl|rfl:=c<;>rfl
def GT(a k b)(d:a[k]?=S b):eZ a=eZ (a.take k)++nf b++eZ (a.drop (k+1))/\eZ (a.eraseIdx k)=eZ (a.take k)++eZ (a.drop (k+1)):=by
 have e:a=a.take k++[b]++a.drop (k+1):=by have c:=(Vd (k+1) a).symm;rw[su a k b d]at c;exact c
 constructor
 .conv=>lhs;rw[e]
  rw[yW,yW];have:eZ [b]=nf b:=by simp[eZ]
  rw[this]
 rw[Vo,yW]
def rY(f a g k c):
 Cr 113 #[L f a g,.int J k] c (B (decide (0<=k/\k<(a:Int)))) λh=>ae aa c h:=by
 by_cases d:0<=k;by_cases e:k<(a:Int)
 .rw[U4 (p:=0<=k/\k<(a:Int)) ⟨d,e⟩];go_enter func113,ntmps113;go_wp2;go_ret;exact⟨rfl,by repeat (first|exact ae.a _ _|apply ae.drew)⟩
 .rw[U7 (p:=0<=k/\k<(a:Int)) λb=>e b.2];have i:(a:Int)<=k:=by omega
  go_enter func113,ntmps113;go_wp2;go_ret;exact⟨rfl,by repeat (first|exact ae.a _ _|apply ae.drew)⟩
 .rw[U7 (p:=0<=k/\k<(a:Int)) λb=>d b.1];have i:k<0:=by omega
  go_enter func113,ntmps113;go_wp2;go_ret;exact⟨rfl,by repeat (first|exact ae.a _ _|apply ae.drew)⟩
structure mS(b:World)(g j:Nat)(h:List Pk)(i:Option Addr)(k:Nat):Prop where
 a:g<b.heap.size
 d:b.cell? ⟨g,j,N⟩=S (L i h.length k)
 e:b.frozen? ⟨g,j,N⟩=F
 c:RV b 200 4 i h.length k (eZ h)
 f:¬ag i g
structure qA(e w':World)(f j:Nat)(g k:Option Addr)(l:Value):Prop where
 a:ae (λd=>d=f\/ag g d) e w'
 c:∀h i,aq e f h i->aq w' f (h.setIfInBounds j l) i
 b:∀d,ag k d->ag g d\/e.heap.size<=d
def K8{d e a b t f}(h:aq d e b t)(c:d.cell? ⟨e,a,N⟩=S f):b.setIfInBounds a f=b:=by rw[h.a a]at c;apply Array.ext_getElem?;intro i;by_cases g:a=i;subst g;rw[c];rw[WC];have:=(Xp.1 c).1;simp[this];rw[WC];simp[g]
def EI{c:World}{a b e}(f:c.cell? ⟨a,b,N⟩=S e)(d):(c.setCell ⟨a,b,N⟩ d).cell? ⟨a,b,N⟩=S d:=World.cell?_setCell_same' _ _ _ (by rw[f];rfl)
def Fv{c:World}{a b}(d):(c.setCell ⟨a,b,N⟩ d).frozen? ⟨a,b,N⟩=c.frozen? ⟨a,b,N⟩:=World.frozen?_setCell _ _ _ _
def Qx:(prog.info? 200).map (λa=>(a.zero,a.size,a.bytes))=S (S (.agg #[.int J 0,.int J 0,L N 0 0,B F]),4,48):=by kernel_rfl
def Ey(b c d o A q e)(s:mS e b c d o A)(Q:(d.length:Int)<=300):
 Cr 120 #[P (S ⟨b,c,N⟩),.agg #[.int J q.e,.int J q.a,q.b,B q.sp]] e (.tuple #[]) λZ=>∃r x,mS Z b c (jo d q) r x/\qA e Z b c o r (L r (jo d q).length x):=by
 have R:=@aC _ _ s Q;have C:=s.d;have ab:=s.e;have D:=s.a;unfold Pk.b;obtain⟨f,g,l,h,i,j⟩:=q;simp only;by_cases E:d.length<300
 .have G(_:=()):jo d ⟨f,g,l,h,i,j⟩=d++[⟨f,g,l,h,i,j⟩]:=by unfold jo;rw[UG E]
  have ac:(d.length:Int)<300:=by omega
  have U:=@af _ ac;clear s Q E;generalize ad:d.length=ln at C ac U;go_enter func120,ntmps120;go_wp2_with fail;obtain⟨m,H⟩:=ah (e.alloc (.cells #[I J f,I J g,L (S ⟨h,0,N⟩) l.length i,B j] 200));obtain⟨aG,V⟩:=ah e.heap.size;have k:ae aa e m:=by rw[H];exact(ae.a aa e).b _
  have t:aq m aG #[I J f,I J g,L (S ⟨h,0,N⟩) l.length i,B j] 200:=by rw[H,V];exact aq.e _ _ _
  rw[<-H,<-V];have ai:=t.a 0;have aj:=t.a 1;have ak:=t.a 2;have al:=t.a 3;simp at ai aj ak al;have aO:=t.b;have am:=(k.f b c D id).trans C;have an:=(k.h b c D id).trans ab;have ao:=Un D k.size;have W(_:=()):RV m.drew 200 4 o ln A (eZ d):=by have:=R.1.c;rw[ad]at this;exact(this.a k λ_ _ a=>a).a ((ae.a aa m).drew) λ_ _ a=>a
  have K:=@af _ (R.1.f);have ar(_:=()):ae aa e m:=k;clear H V k t C ab;generalize aH:eZ d=ls at W;generalize aI:l.length=xln at *;go_region_law (refine mj rfl (.tmp 12) (.tmp 14) 85 rfl 200 (.agg #[I J 0,I J 0,L N 0 0,B F]) 4 48 underlying85 Qx rfl o ln A (by simp[Act.eval,Act.put]) ls (W.c _) ⟨m.heap.size,0,N⟩ 1 1 (by omega) rfl [I J f,I J g,L (S ⟨h,0,N⟩) xln i,B j] rfl (gJ m.drew [I J f,I J g,L (S ⟨h,0,N⟩) xln i,B j] 200 _ rfl) (by intro aP au;simp at au;obtain rfl|rfl|rfl|rfl:=au<;>rfl) (by have:=U;omega) (by have:=U;omega) ?_;intro u M v av aw y;have ax:=((((ae.a aa m.drew).b _).d λ_ _ a=>a.elim).c y).f b c ao K;have ay:=((((ae.a aa m.drew).b _).d λ_ _ a=>a.elim).c y).h b c ao K;rw[show m.drew.cell? ⟨b,c,N⟩=_ from am]at ax;rw[show m.drew.frozen? ⟨b,c,N⟩=_ from an]at ay);all_goals
   have aJ(_:=()):∃r x,mS (v.setCell ⟨b,c,N⟩ (L u (ln+1) M)) b c (jo d ⟨f,g,l,h,i,j⟩) r x/\qA e (v.setCell ⟨b,c,N⟩ (L u (ln+1) M)) b c o r (L r (jo d ⟨f,g,l,h,i,j⟩).length x):=by
    rw[G];have X:=(((ar.drew).b _).d λ_ _ a=>a.elim).c y;have az:ae (ap b) v (v.setCell ⟨b,c,N⟩ (L u (ln+1) M)):=(ae.a (ap b) v).e (p:=⟨b,c,N⟩) (λ_=>rfl) _;have aA:∀z,ag u z->ag o z\/e.heap.size<=z:=λz w=>by obtain⟨a,_⟩|⟨a,_⟩:=aw;rw[a]at w;exact Ur w;rw[a]at w;have:=cM.1 w;have aQ:=ar.size;simp only[Uv,UR]at this;exact Up (by omega)
    have aB:¬ag u b:=λa=>by obtain a|a:=aA b a;exact K () a;omega
    have Y:(d++[(⟨f,g,l,h,i,j⟩:Pk)]).length=ln+1:=by simp[ad]
    rw[Y];have aD:=Un D X.size;refine⟨u,M,⟨by simpa using aD,?_,?_,?_,aB⟩,⟨?_,?_,aA⟩⟩;rw[Y];exact EI ax _;rw[Fv];exact ay;rw[Y,yW,aH];have aK:eZ [(⟨f,g,l,h,i,j⟩:Pk)]=[I J f,I J g,L (S ⟨h,0,N⟩) xln i,B j]:=by simp[eZ,nf,Pk.b,aI]
    rw[aK];exact av.a az (λaL aE a=>by rw[show aL=b from a]at aE;exact aB aE);exact(X.d λ_ _ a=>Up a).c (az.d λ_ _ a=>Ur a);intro aM aN O;exact(O.c X K).f c _
   have aD:b<v.heap.size:=Un (by simp;omega) y.size;clear av aw y am an ai aj ak al W;go_wp2;go_end0;exact⟨rfl,aJ⟩
 .have G(_:=()):jo d ⟨f,g,l,h,i,j⟩=d:=by unfold jo;rw[Us E]
  have aF:d.length=300:=by omega
  rw[aF]at C;clear s Q E aF;go_enter func120,ntmps120;go_wp2;go_end0;have k:ae aa e (e.alloc (.cells #[I J f,I J g,L (S ⟨h,0,N⟩) l.length i,B j] 200)):=(ae.a aa e).b _;have n:=R.1;refine⟨rfl,o,A,?_,?_⟩;rw[G];exact⟨Un n.a k.size,(k.f b c n.a id).trans n.d,(k.h b c n.a id).trans n.e,n.c.a k λ_ _ a=>a,n.f⟩;rw[G];exact⟨k.d λ_ _ a=>a.elim,λaM aN O=>by rw[K8 O n.d];exact O.c k id,λz w=>Ur w⟩
def QH(c):∀a b,c[a]?=S b->(eZ c)[a*4]?=S (.int J b.e)/\(eZ c)[a*4+1]?=S (.int J b.a)/\(eZ c)[a*4+2]?=S b.b/\(eZ c)[a*4+3]?=S (B b.sp):=by
 induction c with
 |nil=>intro a b d;simp at d
 |cons e f g=>
  intro a b d;have h:eZ (e::f)=nf e++eZ f:=by simp[eZ]
  rw[h];cases a with
  |zero=>simp at d;subst d;exact⟨rfl,rfl,rfl,rfl⟩
  |succ a=>
   rw[UH]at d;have:=g a b d;have i:(nf e).length=4:=rfl;rw[Ut (by omega),Ut (by omega),Ut (by omega),Ut (by omega),i,show (a+1)*4-4=a*4 by omega,show (a+1)*4+1-4=a*4+1 by omega,show (a+1)*4+2-4=a*4+2 by omega,show (a+1)*4+3-4=a*4+3 by omega];exact this
def mS.b{c j l g h m}(n:mS c j l g h m)(k d)(i:g[k]?=S d):∃a b,h=S ⟨a,b,N⟩/\a<c.heap.size/\c.cell? ⟨a,b+k*4,N⟩=S (.int J d.e)/\c.cell? ⟨a,b+k*4+1,N⟩=S (.int J d.a)/\c.cell? ⟨a,b+k*4+2,N⟩=S d.b/\c.cell? ⟨a,b+k*4+3,N⟩=S (B d.sp):=by obtain⟨s,t,f⟩:=n.c;have u:=(Ul.1 i).1;obtain⟨_,f,_⟩|⟨a,b,f,e⟩:=f;omega;obtain⟨o,p,q,r⟩:=QH g k d i;exact⟨a,b,f,e.b,e.a _ _ o,by rw[UI];exact e.a _ _ p,by rw[UI];exact e.a _ _ q,by rw[UI];exact e.a _ _ r⟩
def Ez(b d f M l)(k:Nat)(u g)(A:mS g b d f M l)(ab:f[k]?=S u)(aD:(f.length:Int)<=300):
 Cr 114 #[P (S ⟨b,d,N⟩),.int J k] g (.agg #[.int J u.e,.int J u.a,u.b,B u.sp]) λaE=>mS aE b d (f.eraseIdx k) M l/\qA g aE b d M M (L M (f.length-1) l):=by
 have O:=@cf _ _ _ A ab aD;have aF:=(Ul.1 ab).1;have aG:(k:Int)<f.length:=by omega
 have a5:(k:Int)<1000:=by omega
 obtain⟨c,h,af,bm,aH,aI,ai,aJ⟩:=A.b k u ab;have ac:=A.d;have aK:=A.e;have aj:=A.a;have C:=@aC _ _ aF af;rw[af]at ac|-;unfold Pk.b at ai|-;obtain⟨m,n,o,q,r,s⟩:=u;simp only at aH aI ai aJ|-;clear A ab aD aF af;generalize aL:f.length=ln at ac aG;go_enter func114,ntmps114;go_wp2_with fail;obtain⟨Q,R⟩:=ah ((g.alloc (.cells #[I J 0,I J 0,L N 0 0,B F] 200)).alloc (.cells #[I J m,I J n,L (S ⟨q,0,N⟩) o.length r,B s] 200));have D:ae aa g Q:=by rw[R];exact((ae.a aa g).b _).b _
 have ak:aq Q (g.heap.size+1) #[I J m,I J n,L (S ⟨q,0,N⟩) o.length r,B s] 200:=by rw[R];have:=aq.e (g.alloc (.cells #[I J 0,I J 0,L N 0 0,B F] 200)) #[I J m,I J n,L (S ⟨q,0,N⟩) o.length r,B s] 200;simpa using this
 have al:aq Q g.heap.size #[I J 0,I J 0,L N 0 0,B F] 200:=by rw[R];exact(aq.e _ _ _).c ((ae.a aa _).b _) id
 obtain⟨e,U⟩:=ah g.heap.size;obtain⟨V,am⟩:=ah (g.heap.size+1);rw[<-am]at ak;rw[<-U]at al;rw[<-R,<-am,<-U];have aM:=O.1.c.a D λ_ _ a=>a;rw[C.2]at aM;obtain⟨a6,an,E⟩:=aM;obtain⟨w,x,ao,W,ad⟩:∃w x,aq Q c (w++eZ f++x).toArray 200/\w.length=h/\l*4<=(eZ f).length+x.length:=by obtain⟨E,_⟩|⟨bn,bo,E,w,x,a7,a8,a9⟩:=E;cases E;cases E;exact⟨w,x,a7,a8,a9⟩
 obtain⟨aN,ba⟩:=GT f k ⟨m,n,o,q,r,s⟩ O.2.1;have ar:=Mc c h f.length l k (k+1) w (eZ (f.take k)) (nf ⟨m,n,o,q,r,s⟩) (eZ (f.drop (k+1))) x Q (by rw[aN]at ao;simpa [UJ]using ao) W (by rw[wD,UK];have:=C;omega) rfl (by rw[wD,U5]) (QI _) rfl (by have:=C;omega) an;rw[show ((k+1:Nat):Int)=(k:Int)+1 from by omega,aL]at ar;refine Uq ar ?_;rintro bp au ⟨rfl,X,i⟩;have Y:¬b=c:=λa=>O.1.f (by rw[C.2,a];exact eN c h);have bb:¬c=b:=λa=>Y a.symm;have av:=Un aj D.size;have aO:=(i.f b d av Y).trans ((D.f b d aj id).trans ac);have aP:=(i.h b d av Y).trans ((D.h b d aj id).trans aK);have G:=ak.c i (λa=>by have a:V=c:=a;omega);have j:=al.c i (λa=>by have a:e=c:=a;omega);have aw:=@zr _ _ _ _ _ _ _ X ((D.d λ_ _ a=>a.elim).g i λ_ _ a=>a) j W ad U an;have aQ:=G.a 0;have aR:=G.a 1;have aS:=G.a 2;have aT:=G.a 3;have aU:=j.a 0;have aV:=j.a 1;have aW:=j.a 2;have aX:=j.a 3;simp at aQ aR aS aT aU aV aW aX;have bc:=j.d 0;have bd:=j.d 1;have be:=j.d 2;have bf:=j.d 3;have bq:=G.b;have br:=j.b;have bg:=Un av i.size;have bs:¬b=V:=by omega
 have bt:¬V=b:=by omega
 have ax:¬b=e:=by omega
 have bh:¬e=b:=by omega
 have bu:¬e=V:=by omega
 have bv:¬V=e:=by omega
 clear ar X i G j ak al D R U am a6 an E ao W ad aN ba aH aI ai aJ ac aK aG a5;go_wp2_with fail;obtain⟨y,H⟩:=ah (au.setCell ⟨b,d,N⟩ (L (S ⟨c,h,N⟩) (ln-1) l));have Z:ae (ap b) au y:=by rw[H];exact(ae.a (ap b) au).e (p:=⟨b,d,N⟩) (λ_=>rfl) _
 have aY:=aw.2.2.1.c Z λa=>bh a;have K:=(((aY.f 0 (I J m)).f 1 (I J n)).f 2 (L (S ⟨q,0,N⟩) o.length r)).f 3 (B s);rw[<-H];obtain⟨ay,az⟩:=ah ((((y.setCell ⟨e,0,N⟩ (I J m)).setCell ⟨e,1,N⟩ (I J n)).setCell ⟨e,2,N⟩ (L (S ⟨q,0,N⟩) o.length r)).setCell ⟨e,3,N⟩ (B s));have z:ae (ap e) y ay:=by rw[az];exact((((ae.a (ap e) y).e (p:=⟨e,0,N⟩) (λ_=>rfl) _).e (p:=⟨e,1,N⟩) (λ_=>rfl) _).e (p:=⟨e,2,N⟩) (λ_=>rfl) _).e (p:=⟨e,3,N⟩) (λ_=>rfl) _
 rw[<-az]at K|-;have u0:=K.a 0;have u1:=K.a 1;have u2:=K.a 2;have u3:=K.a 3;simp at u0 u1 u2 u3;obtain⟨X,i,_,W,ad,U,bw⟩:=aw;have bi:=C.1;have aA:=Un bg Z.size;have aZ:y.cell? ⟨b,d,N⟩=S (L (S ⟨c,h,N⟩) (ln-1) l):=by rw[H];exact EI aO _
 have a0:y.frozen? ⟨b,d,N⟩=F:=by rw[H,Fv];exact aP
 have aB:(f.eraseIdx k).length=ln-1:=by rw[VQ bi,aL]
 have bj:¬c=e:=by omega
 have a1:mS ay b d (f.eraseIdx k) (S ⟨c,h,N⟩) l:=by refine⟨Un aA z.size,?_,(z.h b d aA λa=>ax a).trans a0,?_,λa=>Y (cM.1 a)⟩;rw[aB];exact(z.f b d aA λa=>ax a).trans aZ;refine⟨wD _,by rw[aB];omega,Up ⟨c,h,rfl,w,[I J 0,I J 0,L N 0 0,B F]++x,?_,W,?_⟩⟩;rw[(GT f k ⟨m,n,o,q,r,s⟩ O.2.1).2];have:=(X.c Z λa=>bb a).c z λa=>bj a;simpa [UJ]using this;rw[wD]at ad|-;rw[aB];simp;omega
 have a2:qA g ay b d (S ⟨c,h,N⟩) (S ⟨c,h,N⟩) (L (S ⟨c,h,N⟩) (ln-1) l):=by refine⟨?_,λbx bz bk=>?_,λt a3=>Ur a3⟩;have bl:ae (λt=>t=b\/ag (S ⟨c,h,N⟩) t) g y:=(i.d λt _ a=>Up (by rw[show t=c from a];exact eN c h)).c (Z.d λt _ a=>Ur a);exact bl.g z (λt a3 a=>by have a:t=e:=a;omega);have a4:=(bk.c i λa=>Y a).f d (L (S ⟨c,h,N⟩) (ln-1) l);rw[<-H]at a4;exact a4.c z λa=>ax a
 clear az H Z z K aY X i aw O C aZ a0 aO aP aQ aR aS aT aU aV aW aX bc bd be bf;refine UO (v:= .agg #[I J m,I J n,L (S ⟨q,0,N⟩) o.length r,B s]) ?_ rfl ⟨rfl,a1,a2⟩;clear a1 a2;simp[results,results114,go_sem,u0,u1,u2,u3]
abbrev jw(b:World)(c:Nat)(a:List Nat)(d:Nat):Prop:=RV b 5 1 (S ⟨c,0,N⟩) a.length d (a.map bv)
def LT(i d b a)(o:jw a i b d)(p:0<b.length)(q:(b.length:Int)<1000):
 Calls prog 175 #[L (S ⟨i,0,N⟩) b.length d] a λC r=>∃c g,C= .returned (L (S ⟨c,0,N⟩) b.length g)/\jw r c b g/\ae aa a r/\a.heap.size<=c:=by
 have e:=@cf _ _ _ o p q;have R:∀(a:World)(j:Option Addr)(l d:Nat),(binOp .eql 56 (L j l d) (L N 0 0)).run prog a= .ok (B j.isNone) a:=λa j l d=>Vq a 56 5 j l d 0 0 underlying56;clear o p q;generalize s:b.length=ln at *;go_enter func175,ntmps175;have t:RV (a.alloc (.cells #[] 5)) 5 1 (S ⟨a.heap.size,0,N⟩) 0 0 []:=⟨rfl,UF _,Up ⟨a.heap.size,0,rfl,[],[],aq.e _ _ _,rfl,UF _⟩⟩
 have u:∀m f,(b.map bv)[m]?=S f->(a.alloc (.cells #[] 5)).cell? (Addr.add ⟨i,0,N⟩ m)=S f:=λm f n=>by obtain⟨U,V,h⟩:=e.1.a ((ae.a aa a).b (.cells #[] 5)) λ_ _ D=>D;obtain⟨h,_⟩|⟨c,W,h,E⟩:=h;cases h;cases h;rw[Va];exact E.a _ _ n
 have v:(b.map bv).length=ln*1:=by rw[UX,s,Xb]
 have w:∀f∈b.map bv,f.oneCell'=T:=λf n=>by obtain⟨X,_,rfl⟩:=Vb.1 n;rfl
 go_wp2_with (at_builtin;refine jX _ rfl (.tmp 5) (.tmp 6) 56 rfl 5 (I .u8 0) 1 1 underlying56 ng rfl (S ⟨a.heap.size,0,N⟩) 0 0 rfl [] t ⟨i,0,N⟩ ln d e.2.1 rfl (b.map bv) v u w (by have:=e.2.2;omega) (by have:=e.2.2;omega) ?_;intro G g x k y H);obtain⟨c,K,M,O⟩:∃c,G=S ⟨c,0,N⟩/\ae aa a x/\a.heap.size<=c:=by obtain⟨z,A⟩|⟨z,A⟩:=y;have:=k.2.1;have:=e.2.1;omega;exact⟨_,z,((ae.a aa a).b _).c A,by simp⟩
 subst K;rw[Ve,VG]at k;have Q(_:=()):jw x c b g:=by unfold jw;rw[s];exact k
 clear k y H t u v w e;go_wp2;go_ret;exact⟨c,g,by simp,Q,M,O⟩
def so(a:Pk):Value:= .agg #[I J (a.e:Int),I J (a.a:Int),a.b,B a.sp]
def Ku(d e)(W:jw e d.g d.l d.c)(X:0<d.l.length)(Y:(d.l.length:Int)<1000):
 Calls prog 121 #[so d] e λZ ab=>∃f j,Z= .returned (so {d with g:=f,c:=j})/\jw ab f d.l j/\ae aa e ab/\e.heap.size<=f:=by
 have A(_:=()):∀C,ae aa e C->_:=λC au=>LT d.g d.c d.l C (W.a au λ_ _ b=>b) X Y;clear W X Y;obtain⟨m,n,av,D,E,o⟩:=d;simp only[so,Pk.b]at A|-;generalize aF:av.length=ln at *;go_enter func121,ntmps121;go_wp2_with fail;obtain⟨s,r⟩:=ah ((e.alloc (.cells #[I J m,I J n,L (S ⟨D,0,N⟩) ln E,B o] 200)).alloc (.cells #[I J 0,I J 0,L N 0 0,B F] 200));have t:ae aa e s:=by rw[r];exact((ae.a aa e).b _).b _
 obtain⟨i,u⟩:=ah e.heap.size;obtain⟨a,w⟩:=ah (e.heap.size+1);have G:aq s i #[I J m,I J n,L (S ⟨D,0,N⟩) ln E,B o] 200:=by rw[r,u];exact(aq.e _ _ _).c ((ae.a aa _).b _) id
 have H:aq s a #[I J 0,I J 0,L N 0 0,B F] 200:=by rw[r,w];have:=aq.e (e.alloc (.cells #[I J m,I J n,L (S ⟨D,0,N⟩) ln E,B o] 200)) #[I J 0,I J 0,L N 0 0,B F] 200;simpa using this
 rw[<-r,<-w,<-u];refine Uq (A () s t) ?_;rintro Z K ⟨f,j,rfl,ac,x,ad⟩;have k:=G.c x id;have h:=H.c x id;have aG:¬f=i:=by have:=G.b;omega
 have aH:¬f=a:=by have:=H.b;omega
 have aw:=UM t.size ad;have q:=@nh _ _ _ _ _ _ ac (t.c x) k h u w;have af:=k.a 0;have ag:=k.a 1;have ai:=k.a 2;have aj:=k.a 3;have ak:=h.a 0;have al:=h.a 1;have am:=h.a 2;have an:=h.a 3;simp at af ag ai aj ak al am an;have ax:=k.d 2;have ay:=h.d 0;have az:=h.d 1;have aA:=h.d 2;have aB:=h.d 3;have aI:=k.b;have aJ:=h.b;have aC:¬a=i:=by omega
 have aK:¬i=a:=by omega
 clear A ac x ad k h G H t r u w;go_wp2_with fail;obtain⟨y,M⟩:=ah (K.setCell ⟨i,2,N⟩ (L (S ⟨f,0,N⟩) ln j));have z:ae (ap i) K y:=by rw[M];exact(ae.a (ap i) K).e (p:=⟨i,2,N⟩) (λ_=>rfl) _
 have l:=(((q.2.2.2.1.c z λb=>aC b).f 0 (I J m)).f 1 (I J n)).f 2 (L (S ⟨f,0,N⟩) ln j);have l:=l.f 3 (B o);rw[<-M];obtain⟨aD,O⟩:=ah ((((y.setCell ⟨a,0,N⟩ (I J m)).setCell ⟨a,1,N⟩ (I J n)).setCell ⟨a,2,N⟩ (L (S ⟨f,0,N⟩) ln j)).setCell ⟨a,3,N⟩ (B o));have Q:ae (ap a) y aD:=by rw[O];exact((((ae.a (ap a) y).e (p:=⟨a,0,N⟩) (λ_=>rfl) _).e (p:=⟨a,1,N⟩) (λ_=>rfl) _).e (p:=⟨a,2,N⟩) (λ_=>rfl) _).e (p:=⟨a,3,N⟩) (λ_=>rfl) _
 rw[<-O]at l|-;have u0:=l.a 0;have u1:=l.a 1;have u2:=l.a 2;have u3:=l.a 3;simp at u0 u1 u2 u3;have ao:=(q.1.a z (λR U b=>by have:=cM.1 U;have b:R=i:=b;omega)).a Q (λR U b=>by have:=cM.1 U;have b:R=a:=b;omega);have ar:=(q.2.1.g z (λV aE b=>by have b:V=i:=b;have:=q.2.2.2.2.1;omega)).g Q (λV aE b=>by have b:V=a:=b;have:=q.2.2.2.2.2;omega);clear O M z Q l q af ag ai aj ak al am an ax ay az aA aB;refine UO (v:= .agg #[I J m,I J n,L (S ⟨f,0,N⟩) ln j,B o]) ?_ rfl ⟨f,j,rfl,ao,ar,aw⟩;clear ao ar;simp[results,results121,go_sem,u0,u1,u2,u3]
def SR(b e c j g k f d:Nat)(a)(q:a.cell? ⟨b,e+2,N⟩=S (L (S ⟨c,0,N⟩) g j))(r:a.cell? ⟨b,e+3,N⟩=S (B F))(s:a.frozen? ⟨b,e+3,N⟩=F)(t:b<a.heap.size)(u:c<a.heap.size)(l:¬c=b)(v:a.cell? ⟨c,k,N⟩=S (.int .u8 (f:Int)))(w:a.frozen? ⟨c,k,N⟩=F)(x:(k:Int)<g)(m:¬(d:Int)=0)(h:f<256)(i:d<256):
 Cr 122 #[P (S ⟨b,e,N⟩),.int J k,.int .u8 (d:Int)] a (.int J 0) λn=>n=(a.setCell ⟨c,k,N⟩ (.int .u8 ((f ^^^ d:Nat):Int))).setCell ⟨b,e+3,N⟩ (B T):=by
 have o:=@af _ (u8_xor_nat f d h i);clear h i;have y:¬b=c:=λp=>l p.symm;have z:((d:Int)==0)=F:=by rw[Uy];exact m
 go_enter func122,ntmps122;go_wp2;go_ret;exact⟨rfl,by rw[o]⟩
def SQ(f j m n g l:Nat)(h k c)(s:c.cell? ⟨f,j+2,N⟩=S (L (S ⟨m,0,N⟩) g n))(t:c.cell? ⟨f,j+3,N⟩=S (B h))(u:f<c.heap.size)(d:h=T\/k<0\/(g:Int)<=k\/l=0):
 Cr 122 #[P (S ⟨f,j,N⟩),.int J k,.int .u8 (l:Int)] c (.int J 8) λo=>ae aa c o:=by
 by_cases a:h=T
 .subst a;clear d;go_enter func122,ntmps122;go_wp2;go_ret;exact⟨rfl,ae.a _ _⟩
 have p:h=F:=by simpa using a
 subst p;by_cases i:k<0
 .clear d a;go_enter func122,ntmps122;go_wp2;go_ret;exact⟨rfl,ae.a _ _⟩
 obtain⟨b,rfl⟩:∃b:Nat,k=(b:Int):=⟨k.toNat,by omega⟩
 by_cases q:(g:Int)<=b
 .clear d a i;have i:¬(b:Int)<0:=by omega
  go_enter func122,ntmps122;go_wp2;go_ret;exact⟨rfl,ae.a _ _⟩
 .have r:l=0:=by obtain e|e|e|e:=d;exact(a e).elim;omega;omega;exact e
  subst r;clear d a i;have i:¬(b:Int)<0:=by omega
  have v:(b:Int)<g:=by omega
  clear q;go_enter func122,ntmps122;go_wp2;go_ret;exact⟨rfl,ae.a _ _⟩
def oX(a:Pk):List Value:=[I J (a.e:Int),I J (a.a:Int),a.b]
def kN(a:List Pk):List Value:=a.flatMap oX
def Pk.d(a:Pk):Nat×Nat×List Nat:=(a.e,a.a,a.l)
def Nh(a b c f d):(Instr.field 200 (.agg #[a,b,c,f]) 0).run prog d= .ok (.agg #[a,b,c]) d:=by
 have g:(prog.info? 58).map (λe=>e.size)=S 3:=by kernel_rfl
 obtain⟨e,h,i⟩:=UD.1 g;simp[Instr.field,Wk underlying200,Wk underlying58,part,asAgg,typeInfo,sizeOf,h,i]
def Er:(prog.info? 58).map (λa=>(a.zero,a.size,a.bytes))=S (S (.agg #[.int J 0,.int J 0,L N 0 0]),3,40):=by kernel_rfl
structure oH(g wr:World)(l c:List Pk)(j:Option Addr)(m:Nat):Prop where
 d:ae aa g wr
 f:RV wr 58 3 j c.length m (kN c)
 e:∀k,ag j k->g.heap.size<=k
 h:c.map Pk.d=l.map Pk.d
 b:∀a∈c,jw wr a.g a.l a.c/\g.heap.size<=a.g/\¬ag j a.g
 i:c.Pairwise λa n=>a.g≠n.g
def oH.j{q wr g m r e h a' A c'}(d:oH q wr r e h A)(s b)(C:b.d=s.d)(j:ae aa wr g)(t:jw g b.g b.l b.c)(D:wr.heap.size<=b.g)(E:RV m 58 3 a' (e.length+1) c' (kN e++oX b))(u:∀c,ag a' c->ag h c\/g.heap.size<=c)(n:ae (ag h) g m):
 oH q m (r++[s]) (e++[b]) a' c':=by
 have G:=t.b b.g (eN _ _);have v:¬ag h b.g:=λa=>by have:=d.f.b _ a;omega
 have w:∀c,c<g.heap.size->¬ag h c->¬ag a' c:=λc k H a=>by obtain a|a:=u c a;exact H a;omega
 refine⟨?_,?_,?_,?_,?_,?_⟩;exact(d.d.c j).g n (λl f a=>by have:=d.e l a;omega);have K:kN (e++[b])=kN e++oX b:=by simp[kN]
 rw[K,Uu];exact E;intro l f;obtain f|f:=u l f;exact d.e l f;exact UM (d.d.c j).size f;simp[d.h,C];intro o i;obtain i|i:=UP.1 i;obtain⟨x,M,y⟩:=d.b o i;have O:=Un (x.b o.g (eN _ _)) j.size;exact⟨(x.a j λ_ _ a=>a).a n (λc k a=>by have p:=cM.1 k;rw[p]at a;exact y a),M,w o.g O y⟩;rw[UY.1 i];exact⟨t.a n (λc k a=>by have p:=cM.1 k;rw[p]at a;exact v a),UM d.d.size D,w b.g G v⟩;rw[Wg];refine⟨d.i,WW _ _,λz Q U R=>?_⟩;rw[UY.1 R];have:=(d.b z Q).1.b z.g (eN _ _);omega
def NJ(c e h a i)(k:Int)(b:World)(m:b.cell? ⟨c,e+1,N⟩=S (L h a i))(n:c<b.heap.size):
 Cr 62 #[P (S ⟨c,e,N⟩),.int J k] b (B (decide (0<=k/\k<(a:Int)))) λj=>ae aa b j:=by
 by_cases f:0<=k;by_cases g:k<(a:Int)
 .rw[U4 (p:=0<=k/\k<(a:Int)) ⟨f,g⟩];go_enter func62,ntmps62;go_wp2;go_ret;exact⟨rfl,by repeat (first|exact ae.a _ _|apply ae.drew)⟩
 .rw[U7 (p:=0<=k/\k<(a:Int)) λd=>g d.2];have l:(a:Int)<=k:=by omega
  go_enter func62,ntmps62;go_wp2;go_ret;exact⟨rfl,by repeat (first|exact ae.a _ _|apply ae.drew)⟩
 .rw[U7 (p:=0<=k/\k<(a:Int)) λd=>f d.1];have l:k<0:=by omega
  go_enter func62,ntmps62;go_wp2;go_ret;exact⟨rfl,by repeat (first|exact ae.a _ _|apply ae.drew)⟩
def MR(b k t:Nat)(d e f g h i j l m n o p q r s u v w x y z A C D a)(K:a.cell? ⟨b,0,N⟩=S (.int J k))(M:b<a.heap.size):
 Cr 169 #[.agg #[(.int J t),d,e,f,g,h,i,j,l,m,n,o,p,q,r,s,u,v,w,x,y,z,A,C,D],P (S ⟨b,0,N⟩)] a (B (decide (t=k))) λE=>ae aa a E:=by
 go_enter func169,ntmps169;have G(_:=()):((t:Int)==(k:Int))=decide (t=k):=by
  by_cases c:t=k;subst c;simp;have H:¬(t:Int)=k:=by omega
  rw[U7 c,Uy];exact H
 go_wp2_with fail;rw[G];go_ret;exact⟨rfl,(ae.a aa a).b _⟩
def gD(a:Pl)(k:Nat):Prop:=ag a.wa k\/ag a.oa k\/k∈a.gs
structure py(f:World)(a:En)(b:Pl):Prop where
 sX:a.aO.length=4
 vH:RV f 76 4 b.wa a.aI.length b.wc (cH a.aI)
 us:RV f 56 1 b.oa a.aA.length b.oc (oU b.gs a.aA)
 gl:b.gs.length=a.aA.length
 uq:∀(d h:Nat)(e:Fr.ff),b.gs[d]?=S h->a.aA[d]?=S e->eB f h (Fr.bi e) 10
 wo:∀c,ag b.wa c->¬ag b.oa c
 gw:∀c,c∈b.gs->¬ag b.wa c/\¬ag b.oa c
 gn:b.gs.Nodup
 xW:∀g∈a.aI,dC g
 xV:a.aJ+a.aI.length<=65536
 vD:a.aT<=65536
 kn:∀(d:Nat)(g:Fr.cF),a.aO[d]?=S (S g)->a.aT+d<65536
 xU:∀e∈a.aA,dx e
def bO.n{c h t i j d e}(a:bO c h t i j d e):py c d e:=
 ⟨a.ft,a.jR,a.l8,a.gl,a.l6,a.wo,λf g=>⟨λb=>a.gw f g (Up (Ur b)),λb=>a.gw f g (Up (Up b))⟩,a.gn,a.lH,a.jn,a.lp,a.kn,a.l7⟩
def py.d{d e t f g h c}(a:py d h c)(l:aq d f (ik e g (h.cells c)) t)(m:g+24<=e.size)(i:¬gD c f):bO d e t f g h c where
 iP:=l
 lF:=m
 ft:=a.sX
 jR:=a.vH
 l8:=a.us
 gl:=a.gl
 l6:=a.uq
 wb:=λb=>i (Ur b)
 ob:=λb=>i (Up (Ur b))
 wo:=a.wo
 gw:=λk j=>by rintro (rfl|b|b);exact i (Up (Up j));exact(a.gw k j).1 b;exact(a.gw k j).2 b
 gn:=a.gn
 lH:=a.xW
 jn:=a.xV
 lp:=a.vD
 kn:=a.kn
 l7:=a.xU
def bO.j{e f t b g h d}(c:bO e f t b g h d):¬gD d b:=by rintro (a|a|a);exact c.wb a;exact c.ob a;exact c.gw b a (Ur rfl)
def py.a{g h w' i e}(a:py h i e)(k:ae g h w')(f:∀d,gD e d->¬g d):py w' i e where
 sX:=a.sX
 vH:=a.vH.a k λb c=>f b (Ur c)
 us:=a.us.a k λb c=>f b (Up (Ur c))
 gl:=a.gl
 uq:=λd b j c l=>(a.uq d b j c l).a k (f b (Up (Up (Uo c))))
 wo:=a.wo
 gw:=a.gw
 gn:=a.gn
 xW:=a.xW
 xV:=a.xV
 vD:=a.vD
 kn:=a.kn
 xU:=a.xU
def py.b{g e f}(c:py g e f):∀a,gD f a->a<g.heap.size:=by
 rintro a (b|b|b);exact c.vH.b a b;exact c.us.b a b;obtain⟨d,h,rfl⟩:=U3 b;have i:d<e.aA.length:=by have:=c.gl;omega
 exact(c.uq d f.gs[d] e.aA[d] (Um h) (Um i)).c
structure Sd where
 a:Nat
 e:En
 p:Pl
def pJ(a:Sd):List Value:=I J (a.a:Int)::a.e.cells a.p
def fY(a:List Sd):List Value:=a.flatMap pJ
structure Sp where
 b:Nat
 n:ay
 p:Np
 c:Option Addr
 f:Nat
 ss:List Sd
def sr(a:Sp):List Value:=[P (S ⟨a.b,0,N⟩),L a.c a.ss.length a.f]
def nR(a:List Sp):List Value:=a.flatMap sr
structure Nt where
 nb:Nat
 ty:TypeId
 d:List Ed
 l:Option Addr
 n:Nat
 aK:List Sp
 f:Option Addr
 e:Nat
 aS:List Pk
 ba:Option Addr
 bc:Nat
 aG:Nat->Prop
inductive LP where
 |ic|fP
 |dX (j:Nat)
inductive Pt where
 |fV|iB|gk|dY|eY|ep
 |cZ (i:Nat) (a:LP)
def Sp.d(b:Sp):LP->Nat->Prop
 | .ic,a=>iL b.b b.p a
 | .fP,a=>ag b.c a
 | .dX d,a=>∃c,b.ss[d]?=S c/\gD c.p a
def Nt.b(b:Nt):Pt->Nat->Prop
 | .fV,a=>a=b.nb
 | .iB,a=>ag b.l a
 | .gk,a=>ag b.f a
 | .dY,a=>ag b.ba a
 | .eY,a=>∃d∈b.aS,d.g=a
 | .ep,a=>b.aG a
 | .cZ e f,a=>∃c,b.aK[e]?=S c/\c.d f a
def Nt.c(b:Nt)(k:Nat):Prop:=∃a,a≠Pt.ep/\b.b a k
def Nt.cells(a:Nt):Array Value:= #[L a.l a.d.length a.n,L a.f a.aK.length a.e,L a.ba a.aS.length a.bc]
structure bn(c:World)(a:Nt):Prop where
 fq:aq c a.nb a.cells a.ty
 oy:RV c 30 3 a.l a.d.length a.n (cA a.d)
 pu:RV c 125 2 a.f a.aK.length a.e (nR a.aK)
 pt:RV c 200 4 a.ba a.aS.length a.bc (eZ a.aS)
 l5:∀e∈a.aS,jw c e.g e.l e.c
 oz:a.aS.Pairwise λe i=>e.g≠i.g
 kI:∀(d:Nat)(b:Sp),a.aK[d]?=S b->aY c b.b b.n b.p
 nH:∀(d:Nat)(b:Sp),a.aK[d]?=S b->RV c 181 25 b.c b.ss.length b.f (fY b.ss)
 j8:∀(d:Nat)(b:Sp),a.aK[d]?=S b->∀(g:Nat)(h:Sd),b.ss[g]?=S h->py c h.e h.p
 oA:∀f,a.aG f->f<c.heap.size
 fk:∀d g f,a.b d f->a.b g f->d=g
def bn.g{h e}(c:bn h e):∀d b,e.b d b->b<h.heap.size:=by
 intro d b a;cases d with
 |fV=>rw[show b=e.nb from a];exact c.fq.b
 |iB=>exact c.oy.b b a
 |gk=>exact c.pu.b b a
 |dY=>exact c.pt.b b a
 |eY=>obtain⟨i,j,rfl⟩:=a;exact(c.l5 i j).b i.g (eN _ _)
 |ep=>exact c.oA b a
 |cZ d k=>
  obtain⟨f,g,a⟩:=a;cases k with
  |ic=>exact(c.kI d f g).n b a
  |fP=>exact(c.nH d f g).b b a
  |dX l=>obtain⟨m,n,a⟩:=a;exact(c.j8 d f g l m n).b b a
def bn.e{b c}(d:bn b c){k}(a:c.c k):k<b.heap.size:=by obtain⟨e,_,a⟩:=a;exact d.g e k a
def bn.a{i j w' h}(c:bn j h)(k:ae i j w')(e:∀d,h.c d->¬i d):bn w' h where
 fq:=c.fq.c k (e _ ⟨.fV,by simp,rfl⟩)
 oy:=c.oy.a k λa b=>e a ⟨.iB,by simp,b⟩
 pu:=c.pu.a k λa b=>e a ⟨.gk,by simp,b⟩
 pt:=c.pt.a k λa b=>e a ⟨.dY,by simp,b⟩
 l5:=λl m=>(c.l5 l m).a k λa b=>e a ⟨.eY,by simp,l,m,(cM.1 b).symm⟩
 oz:=c.oz
 kI:=λd f g=>(c.kI d f g).b k λa b=>e a ⟨.cZ d .ic,by simp,f,g,b⟩
 nH:=λd f g=>(c.nH d f g).a k λa b=>e a ⟨.cZ d .fP,by simp,f,g,b⟩
 j8:=λd f g n o p=>(c.j8 d f g n o p).a k λa b=>e a ⟨.cZ d (.dX n),by simp,f,g,o,p,b⟩
 oA:=λa b=>Un (c.oA a b) k.size
 fk:=c.fk
def ya{N e:Nt}{z}(d:Pt->Prop)(k:∀b c a,N.b b a->N.b c a->b=c)(o:∀b a,N.b b a->a<z)(j:∀b,¬d b->∀a,e.b b a->N.b b a)(p:∀b,d b->∀a,e.b b a->(∃c,d c/\N.b c a)\/z<=a)(q:∀b c a,d b->d c->e.b b a->e.b c a->b=c):∀b c a,e.b b a->e.b c a->b=c:=by
 have l:∀b c a,d b->¬d c->e.b b a->e.b c a->False:=λb c a g f h i=>by have m:=j c f a i;obtain⟨r,s,n⟩|n:=p b g a h;exact f (k r c a n m▸s);have:=o c a m;omega
 intro b c a h i;by_cases g:d b;by_cases f:d c;exact q b c a g f h i;exact(l b c a g f h i).elim;by_cases f:d c;exact(l c b a f g i h).elim;exact k b c a (j b g a h) (j c f a i)
def Sp.e(a:Sp):Nat×Option Addr×Nat×List Nat:=(a.b,a.c,a.f,a.ss.map Sd.a)
structure du(k w':World)(c g:Nt):Prop where
 b:ae c.c k w'
 d:∀j,g.c j->c.c j\/k.heap.size<=j
 a:g.nb=c.nb
 o:g.ty=c.ty
 h:g.d=c.d
 m:g.l=c.l
 n:g.n=c.n
 e:g.f=c.f
 i:g.e=c.e
 f:g.aK.map Sp.e=c.aK.map Sp.e
def du.q(a b):du a a b b:=⟨ae.a _ _,λ_ c=>Ur c,rfl,rfl,rfl,rfl,rfl,rfl,rfl,rfl⟩
def du.g{a w'}(b)(k:ae aa a w'):du a w' b b:=⟨k.d λ_ _ c=>c.elim,λ_ d=>Ur d,rfl,rfl,rfl,rfl,rfl,rfl,rfl,rfl⟩
def du.c{d w1 e f g h}(a:du d w1 f g)(k:du w1 e g h):du d e f h:=
 ⟨a.b.g k.b (λc i j=>by
  obtain b|b:=a.d c j;exact b;omega),λc i=>by
  obtain b|b:=k.d c i;exact a.d c b;exact Up (UM a.b.size b),k.a.trans a.a,k.o.trans a.o,k.h.trans a.h,k.m.trans a.m,k.n.trans a.n,k.e.trans a.e,k.i.trans a.i,k.f.trans a.f⟩
def du.j{f w' d a}(g:du f w' d a){b:Nat}{c}(h:d.aK[b]?=S c):∃e,a.aK[b]?=S e/\e.e=c.e:=by
 have i:(a.aK.map Sp.e)[b]?=S c.e:=by rw[g.f,Uz,h];rfl
 grind
def du.p{c w' a b}(d:du c w' a b):b.aK.length=a.aK.length:=by have:=Vj List.length d.f;grind
def lL{h:Type}{d:List h}{b a e c}(f:(d.set b e)[a]?=S c):(a=b/\c=e)\/(a≠b/\d[a]?=S c):=by by_cases g:b=a;grind;rw[Vt g]at f;exact Up ⟨λi=>g i.symm,f⟩
def wg{d:Type}{b:List d}{a e}(f:b[a]?=S e)(c):(b.set a c)[a]?=S c:=by grind
def yH{c g:Type}(a:c->g)(b:List c)(d e f)(h:b[d]?=S f)(i:a e=a f):(b.set d e).map a=b.map a:=by apply Vc;intro j;grind
def Nq{f g:Type}(a:f->List g)(b:List f)(c d e)(h:b[c]?=S e)(i:a d=a e):(b.set c d).flatMap a=b.flatMap a:=by rw[List.flatMap_def,List.flatMap_def,yH a b c d e h i]
def uC{a b:Sp}(c:b.e=a.e):b.b=a.b/\b.c=a.c/\b.f=a.f/\b.ss.map Sd.a=a.ss.map Sd.a/\b.ss.length=a.ss.length:=by simp only[Sp.e,VT]at c;obtain⟨e,f,g,d⟩:=c;exact⟨e,f,g,d,by simpa using Vj List.length d⟩
def Nm{a b}(c:b.e=a.e):sr b=sr a:=by obtain⟨d,e,f,_,g⟩:=uC c;simp[sr,d,e,f,g]
def Nt.g(a:Nt)(c:Nat)(d:Sp)(e:Nat->Prop):Nt:= {a with aK:=a.aK.set c d,aG:=λb=>a.aG b\/e b}
def bn.s{y w' N}(l:bn y N){k q}(E:N.aK[k]?=S q)(f)(O:f.e=q.e)(A D)(m:ae D y w')(Q:∀a,D a->∃b,q.d b a)(W:aY w' f.b f.n f.p)(X:RV w' 181 25 f.c f.ss.length f.f (fY f.ss))(Y:∀(C:Nat)(u:Sd),f.ss[C]?=S u->py w' u.e u.p)(G:∀b a,f.d b a->(∃d,q.d d a)\/y.heap.size<=a)(Z:∀b d a,f.d b a->f.d d a->b=d)(R:∀a,A a->(∃d,q.d d a)/\∀b,¬f.d b a):
 bn w' (N.g k f A)/\du y w' N (N.g k f A):=by
 have v:∀b a,q.d b a->N.b (.cZ k b) a:=λb a m=>⟨q,E,m⟩
 have aa:∀a,D a->N.c a:=λa m=>by obtain⟨b,c⟩:=Q a m;exact⟨.cZ k b,by simp,v b a c⟩
 have s:∀(p:Pt)(a:Nat),N.b p a->(∀b,p≠ .cZ k b)->¬D a:=λp a x H e=>by obtain⟨b,c⟩:=Q a e;exact H b (l.fk _ _ a x (v b a c))
 have ab:∀j g,(N.aK.set k f)[j]?=S g->j≠k->N.aK[j]?=S g:=λj g c h=>by obtain⟨e,_⟩|⟨_,e⟩:=lL c;omega;exact e
 refine⟨⟨?_,?_,?_,?_,?_,l.oz,?_,?_,?_,?_,?_⟩,⟨(m.d λa _ e=>aa a e),?_,rfl,rfl,rfl,rfl,rfl,rfl,rfl,yH Sp.e N.aK k f q E O⟩⟩;have:=l.fq.c m (s .fV N.nb rfl (by simp));simpa [Nt.cells,Nt.g]using this;exact l.oy.a m (λn o=>s .iB n o (by simp));have:=l.pu.a m (λn o=>s .gk n o (by simp));simpa [Nt.g,nR,Nq sr N.aK k f q E (Nm O)]using this;exact l.pt.a m (λn o=>s .dY n o (by simp));exact λt U=>(l.l5 t U).a m (λn o=>s .eY n ⟨t,U,(cM.1 o).symm⟩ (by simp));intro j g c;obtain⟨e,rfl⟩|⟨e,h⟩:=lL c;exact W;exact(l.kI j g h).b m (λn o=>s (.cZ j .ic) n ⟨g,h,o⟩ λb t=>e (by cases t;rfl));intro j g c;obtain⟨e,rfl⟩|⟨e,h⟩:=lL c;exact X;exact(l.nH j g h).a m (λn o=>s (.cZ j .fP) n ⟨g,h,o⟩ λb t=>e (by cases t;rfl));intro j g c C u K;obtain⟨e,rfl⟩|⟨e,h⟩:=lL c;exact Y C u K;exact(l.j8 j g h C u K).a m (λn o=>s (.cZ j (.dX C)) n ⟨g,h,u,K,o⟩ λb t=>e (by cases t;rfl));rintro a (i|i);exact Un (l.oA a i) m.size;obtain⟨⟨d,r⟩,_⟩:=R a i;exact Un (l.g _ a (v d a r)) m.size;refine ya (N:=N) (z:=y.heap.size) (λp=>p= .ep\/∃b,p= .cZ k b) l.fk l.g ?_ ?_ ?_;intro p x a i;cases p with
 |ep=>exact(x (Ur rfl)).elim
 |cZ j b=>
  obtain⟨g,c,h⟩:=i;have H:j≠k:=λe=>x (Up ⟨b,by rw[e]⟩);exact⟨g,ab j g c H,h⟩
 |_=>exact i
 rintro p (rfl|⟨b,rfl⟩) a i;obtain i|i:=i;exact Ur ⟨.ep,Ur rfl,i⟩;obtain⟨⟨d,r⟩,_⟩:=R a i;exact Ur ⟨.cZ k d,Up ⟨d,rfl⟩,v d a r⟩;obtain⟨g,c,h⟩:=i;obtain⟨_,rfl⟩|⟨e,_⟩:=lL c;obtain⟨d,r⟩|w:=G b a h;exact Ur ⟨.cZ k d,Up ⟨d,rfl⟩,v d a r⟩;omega;omega;have no:∀b a,(N.g k f A).b .ep a->(N.g k f A).b (.cZ k b) a->False:=λb a c h=>by obtain⟨g,w,M⟩:=h;obtain⟨_,rfl⟩|⟨e,_⟩:=lL w;obtain c|c:=c;obtain⟨d,r⟩|V:=G b a M;have:=l.fk .ep (.cZ k d) a c (v d a r);cases this;have:=l.oA a c;omega;grind;exact e rfl
 rintro p ad a (rfl|⟨b,rfl⟩) (rfl|⟨d,rfl⟩) c h;rfl;grind;grind;obtain⟨g,w,M⟩:=c;obtain⟨af,V,ac⟩:=h;obtain⟨_,rfl⟩|⟨e,_⟩:=lL w;obtain⟨_,rfl⟩|⟨e,_⟩:=lL V;rw[Z b d a M ac];omega;grind;rintro a ⟨p,x,i⟩;cases p with
 |ep=>exact(x rfl).elim
 |cZ j b=>
  obtain⟨g,c,h⟩:=i;obtain⟨rfl,rfl⟩|⟨e,w⟩:=lL c;obtain⟨d,r⟩|w:=G b a h;exact Ur ⟨.cZ j d,by simp,v d a r⟩;omega;exact Ur ⟨.cZ j b,by simp,g,w,h⟩
 |fV=>exact Ur ⟨.fV,by simp,i⟩
 |iB=>exact Ur ⟨.iB,by simp,i⟩
 |gk=>exact Ur ⟨.gk,by simp,i⟩
 |dY=>exact Ur ⟨.dY,by simp,i⟩
 |eY=>exact Ur ⟨.eY,by simp,i⟩
end Go.Proofs.YtlfijfodklhplaaGreat
