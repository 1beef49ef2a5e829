import Derived.Test.YtlfijfodklhplaaGreatAl24
import Derived.Test.YtlfijfodklhplaaGreatAl18
import Derived.Deep.MidRow
set_option maxRecDepth 100000
set_option maxHeartbeats 4000000
set_option linter.all false
open Go.RowKit Go.Proofs.Tryz
open Go.Value renaming int->I,slice->L,pointer->P,bool->B
open Go.IntKind renaming i64->J
open Option renaming some->S,none->N
open Bool renaming true->T,false->F
namespace Go.Proofs.YtlfijfodklhplaaGreat
def Hp{a b c}(d:a[b]?=S c):fY a=fY (a.take b)++pJ c++fY (a.drop (b+1)):=by
 obtain⟨e,rfl⟩:=Ul.1 d;have f:a=a.take b++a[b]::a.drop (b+1):=by rw[<-VY e,Vd]
 rw[(Vj fY f)];simp only[fY,Wy,Vs,UJ]
def Sk{b:List Sd}{a d}(e:b[a]?=S d)(c):fY (b.set a c)=fY (b.take a)++pJ c++fY (b.drop (a+1)):=by rw[(Hp (wg e c)),List.take_set_of_le (UF a),List.drop_set_of_lt (Nat.lt_succ_self a)]
def Cd(b)(c:∀a∈b,a.e.aO.length=4):(fY b).length=b.length*25:=by
 induction b with
 |nil=>rfl
 |cons a d e=>
  have f:fY (a::d)=pJ a++fY d:=by simp[fY]
  rw[f,Uu,e λg h=>c g (WK _ h),Vg];have i:(pJ a).length=25:=by simp[pJ,m6 a.e a.p (c a (WX ..))]
  omega
def Q7(a b c d e f)(g:f=a.length)(h:c.length=b.length):ik (a++(e::b)++d).toArray (f+1) c=(a++(e::c)++d).toArray:=by
 subst g;unfold ik;have i:(a++e::b++d).drop (a.length+1+c.length)=d:=by rw[h,show a.length+1+b.length=(a++e::b).length by simp;omega,WB]
 grind
def ja{c a d e f g h}(k:RV c a d e f g h)(l:0<f):∃i j,e=S ⟨i,j,N⟩/\lz c i j a d h g:=by obtain⟨_,_,b⟩:=k;obtain⟨_,a,_⟩|b:=b;omega;exact b
def Nt.i(b:Nt)(c:Nat)(a:Sp)(d:Nat)(f:Sd)(g:En)(h:Pl)(i:Nat->Prop):Nt:=b.g c {a with ss:=a.ss.set d {f with e:=g,p:=h}} i
def bn.l{x G}(v:bn x G){q c b g}(s:G.aK[q]?=S b)(D:b.ss[c]?=S g):
 ∃i r Y,b.c=S ⟨i,r,N⟩/\i<x.heap.size/\x.cell? ⟨i,r+c*25,N⟩=S (.int J g.a)/\bO x Y 181 i (r+c*25+1) g.e g.p/\
  ∀H m j K,bO H Y 181 i (r+c*25+1) m j->ae (λa=>a=i\/gD g.p a) x H->(∀a,gD j a->gD g.p a\/x.heap.size<=a)->(∀a,K a->gD g.p a/\¬gD j a)->
   bn H (G.i q b c g m j K)/\du x H G (G.i q b c g m j K):=by
 have az:=(Ul.1 D).1;obtain⟨i,r,Q,t,w,y,W,Z⟩:=ja (v.nH q b s) (by omega);have aa:∀E∈b.ss,E.e.aO.length=4:=λE M=>by obtain⟨o,ao,rfl⟩:=U3 M;exact(v.j8 q b s o _ (Um ao)).sX
 have ab:=v.j8 q b s c g D;have ac:=Cd b.ss aa;have ad:(t++fY (b.ss.take c)).length=r+c*25:=by rw[Uu,Cd _ λE M=>aa E (Wr M),UK,W];omega
 have ap:∀k:Sd,t++fY (b.ss.set c k)++w=(t++fY (b.ss.take c))++(I J k.a::k.e.cells k.p)++(fY (b.ss.drop (c+1))++w):=λk=>by rw[Sk D];simp[pJ]
 have af:t++fY b.ss++w=(t++fY (b.ss.take c))++(I J g.a::g.e.cells g.p)++(fY (b.ss.drop (c+1))++w):=by rw[Hp D];simp[pJ]
 have z:∀f u a,b.d f a->b.d u a->f=u:=λf u a d h=>by have:=v.fk (.cZ q f) (.cZ q u) a ⟨b,s,d⟩ ⟨b,s,h⟩;grind
 have aq:∀(o:Nat)(k:Sd),b.ss[o]?=S k->¬gD k.p i:=λo k d h=>by have:=z (.dX o) .fP i ⟨k,d,h⟩ (by rw[show b.d .fP i=ag b.c i from rfl,Q];exact eN i r);cases this
 have ar:∀(m:En)(j:Pl),m.aO.length=4->ik (t++fY b.ss++w).toArray (r+c*25+1) (m.cells j)=(t++fY (b.ss.set c {g with e:=m,p:=j})++w).toArray:=λm j l=>by rw[ap,af];exact Q7 _ _ _ _ _ _ ad.symm (by rw[m6 m j l,m6 g.e g.p ab.sX])
 have au:r+c*25+1+24<=(t++fY b.ss++w).toArray.size:=by simp only[V4,Uu,W,ac];omega
 refine⟨i,r,(t++fY b.ss++w).toArray,Q,y.b,?_,ab.d ?_ au (aq c g D),?_⟩;rw[y.a,af,UN,UJ,Ut (by omega),<-ad,Ww];rfl;grind;intro H m j K R O ah av;have aw:({b with ss:=b.ss.set c {g with e:=m,p:=j}}:Sp).e=b.e:=by simp only[Sp.e];rw[yH Sd.a b.ss c {g with e:=m,p:=j} g D rfl]
 have A:∀a,gD g.p a->b.d (.dX c) a:=λa O=>⟨g,D,O⟩
 have ai:b.d .fP i:=by rw[show b.d .fP i=ag b.c i from rfl,Q];exact eN i r
 have aj:∀(f:LP)(a:Nat),b.d f a->f≠ .fP->f≠ .dX c->¬(a=i\/gD g.p a):=λf a d h n l=>by obtain l|l:=l;subst l;exact h (z _ _ _ d ai);exact n (z _ _ _ d (A a l))
 refine v.s s _ aw K (λa=>a=i\/gD g.p a) O ?_ ?_ ?_ ?_ ?_ ?_ ?_;rintro a (rfl|d);exact⟨.fP,ai⟩;exact⟨.dX c,A a d⟩;exact(v.kI q b s).b O (λa d=>aj .ic a d (by simp) (by simp));rw[UA,Q];have ak:(fY (b.ss.set c {g with e:=m,p:=j})).length=b.ss.length*25:=by rw[Cd,UA];intro E M;obtain d|d:=VK M;grind;rw[d];exact R.ft
 refine⟨ak,(v.nH q b s).2.1,Up ⟨i,r,rfl,t,w,?_,W,by rw[ak];rw[ac]at Z;exact Z⟩⟩;rw[<-ar m j R.ft];exact R.iP;intro o k d;obtain⟨_,rfl⟩|⟨C,h⟩:=lL d;exact R.n;exact(v.j8 q b s o k h).a O (λa n=>aj (.dX o) a ⟨k,h,n⟩ (by simp) λE=>C (by cases E;rfl));intro f a d;cases f with
 |ic=>exact Ur ⟨.ic,d⟩
 |fP=>exact Ur ⟨.fP,d⟩
 |dX o=>
  obtain⟨k,h,n⟩:=d;obtain⟨_,rfl⟩|⟨C,l⟩:=lL h;obtain U|U:=ah a n;exact Ur ⟨.dX c,A a U⟩;omega;exact Ur ⟨.dX o,k,l,n⟩
 have ax:∀f a,b.d f a->a<x.heap.size:=λf a d=>v.g (.cZ q f) a ⟨b,s,d⟩;have X:∀f a,f≠ .dX c->({b with ss:=b.ss.set c {g with e:=m,p:=j}}:Sp).d f a->b.d f a:=λf a C d=>by
  cases f with
  |ic=>exact d
  |fP=>exact d
  |dX o=>
   obtain⟨k,h,n⟩:=d;obtain⟨aA,_⟩|⟨_,l⟩:=lL h;grind;exact⟨k,l,n⟩
 have al:∀a,({b with ss:=b.ss.set c {g with e:=m,p:=j}}:Sp).d (.dX c) a->gD j a:=λa d=>by obtain⟨k,h,n⟩:=d;obtain⟨_,rfl⟩|⟨C,_⟩:=lL h;exact n;omega
 have am:∀f a,f≠ .dX c->({b with ss:=b.ss.set c {g with e:=m,p:=j}}:Sp).d f a->gD j a->False:=λf a C d h=>by have n:=X f a C d;obtain l|l:=ah a h;exact C (z _ _ _ n (A a l));have:=ax f a n;omega
 intro f u a d h;by_cases V:f= .dX c;by_cases y:u= .dX c;rw[V,y];subst V;exact(am u a y h (al a d)).elim;by_cases y:u= .dX c;subst y;exact(am f a V d (al a h)).elim;exact z f u a (X f a V d) (X u a y h);intro a d;obtain⟨h,n⟩:=av a d;refine⟨⟨.dX c,A a h⟩,λf l=>?_⟩;cases f with
 |ic=>have:=z _ .ic _ (A a h) l;cases this
 |fP=>have:=z _ .fP _ (A a h) l;cases this
 |dX o=>
  obtain⟨k,U,an⟩:=l;obtain⟨_,rfl⟩|⟨C,ay⟩:=lL U;exact n an;have:=z _ _ _ (A a h) (show b.d (.dX o) a from⟨k,ay,an⟩);grind
def Nt.j(a:Nt)(b:Nat)(c:Sp)(d:ay)(e:Np)(f:Nat->Prop):Nt:=a.g b {c with n:=d,p:=e} f
def bn.r{l w' m}(o:bn l m){g b}(j:m.aK[g]?=S b)(n' i r)(A:aY w' b.b n' i)(u:ae (iL b.b b.p) l w')(w:∀a,iL b.b i a->iL b.b b.p a\/l.heap.size<=a)(C:∀a,r a->iL b.b b.p a/\¬iL b.b i a):
 bn w' (m.j g b n' i r)/\du l w' m (m.j g b n' i r):=by
 have q:∀d h a,b.d d a->b.d h a->d=h:=λd h a c e=>by have:=o.fk (.cZ g d) (.cZ g h) a ⟨b,j,c⟩ ⟨b,j,e⟩;grind
 have D:∀d a,b.d d a->a<l.heap.size:=λd a c=>o.g (.cZ g d) a ⟨b,j,c⟩;have x:∀a,iL b.b b.p a->b.d .ic a:=λa c=>c;have s:∀(d:LP)(a:Nat),b.d d a->d≠ .ic->¬iL b.b b.p a:=λd a c e v=>e (q _ _ _ c (x a v));refine o.s j {b with n:=n',p:=i} rfl r (iL b.b b.p) u (λa c=>⟨.ic,c⟩) A ?_ ?_ ?_ ?_ ?_;exact(o.nH g b j).a u (λa c=>s .fP a c (by simp));exact λf y z=>(o.j8 g b j f y z).a u (λa c=>s (.dX f) a ⟨y,z,c⟩ (by simp));intro d a c;cases d with
 |ic=>exact(w a c).imp (λE=>⟨.ic,E⟩) id
 |fP=>exact Ur ⟨.fP,c⟩
 |dX f=>exact Ur ⟨.dX f,c⟩
 have t:∀d a,d≠ .ic->b.d d a->iL b.b i a->False:=λd a G c e=>by obtain k|k:=w a e;exact G (q _ _ _ c (x a k));have:=D d a c;omega
 intro d h a c e;cases d with
 |ic=>
  cases h with
  |ic=>rfl
  |fP=>exact(t .fP a (by simp) e c).elim
  |dX f=>exact(t (.dX f) a (by simp) e c).elim
 |fP=>
  cases h with
  |ic=>exact(t .fP a (by simp) c e).elim
  |fP=>rfl
  |dX f=>exact q .fP (.dX f) a c e
 |dX f=>
  cases h with
  |ic=>exact(t (.dX f) a (by simp) c e).elim
  |fP=>exact q (.dX f) .fP a c e
  |dX H=>exact q (.dX f) (.dX H) a c e
 intro a c;obtain⟨e,v⟩:=C a c;refine⟨⟨.ic,e⟩,λd k=>?_⟩;cases d with
 |ic=>exact v k
 |fP=>exact s .fP a k (by simp) e
 |dX f=>exact s (.dX f) a k (by simp) e
def bn.f{c a}(b:bn c a):mS c a.nb 2 a.aS a.ba a.bc:=
 ⟨b.fq.b,by rw[b.fq.a];rfl,b.fq.d _,b.pt,λd=>by have:=b.fk .dY .fV a.nb d rfl;cases this⟩
def bn.n{e w' N}(f:bn e N)(k:ae aa e w')(h)(i:∀a,h a->N.aG a\/(e.heap.size<=a/\a<w'.heap.size)):bn w' {N with aG:=h}:=by
 have b:=f.a k λ_ _ c=>c;refine⟨b.fq,b.oy,b.pu,b.pt,b.l5,b.oz,b.kI,b.nH,b.j8,?_,?_⟩;intro a d;obtain c|c:=i a d;exact Un (f.oA a c) k.size;exact c.2;refine ya (N:=N) (z:=e.heap.size) (λg=>g= .ep) f.fk f.g ?_ ?_ ?_;intro g j a d;cases g with
 |ep=>exact(j rfl).elim
 |cZ l m=>exact d
 |_=>exact d
 rintro g rfl a d;obtain c|c:=i a d;exact Ur ⟨.ep,rfl,c⟩;omega;grind
def BW{f:Nt}{g k}:({f with aG:=g}:Nt).c k↔f.c k:=by
 constructor;rintro⟨b,c,a⟩;cases b with
 |ep=>exact(c rfl).elim
 |fV=>exact⟨.fV,by simp,a⟩
 |iB=>exact⟨.iB,by simp,a⟩
 |gk=>exact⟨.gk,by simp,a⟩
 |dY=>exact⟨.dY,by simp,a⟩
 |eY=>exact⟨.eY,by simp,a⟩
 |cZ d e=>exact⟨.cZ d e,by simp,a⟩
 rintro⟨b,c,a⟩;cases b with
 |ep=>exact(c rfl).elim
 |fV=>exact⟨.fV,by simp,a⟩
 |iB=>exact⟨.iB,by simp,a⟩
 |gk=>exact⟨.gk,by simp,a⟩
 |dY=>exact⟨.dY,by simp,a⟩
 |eY=>exact⟨.eY,by simp,a⟩
 |cZ d e=>exact⟨.cZ d e,by simp,a⟩
def du.l{b w' c d}(a:du b w' c d)(f g):du b w' {c with aG:=f} {d with aG:=g}:=
 ⟨a.b.d λe _ h=>BW.2 h,λe i=>(a.d e (BW.1 i)).imp BW.2 id,a.a,a.o,a.h,a.m,a.n,a.e,a.i,a.f⟩
def Nt.h(a:Nt)(b:List Pk)(c:Option Addr)(d:Nat)(e:Nat->Prop):Nt:= {a with aS:=b,ba:=c,bc:=d,aG:=e}
def bn.p{v w' N}(f:bn v N)(m s x y)(U:mS w' N.nb 2 m s x)(u:qA v w' N.nb 2 N.ba s (L s m.length x))(D:∀c∈m,c∈N.aS\/(N.aG c.g/\jw v c.g c.l c.c))(V:m.Pairwise λc W=>c.g≠W.g)(w:∀a,y a->N.aG a/\∀c∈m,c.g≠a):
 bn w' (N.h m s x y)/\∀A C,du A v C N->(∀c∈m,c∈N.aS\/C.c c.g\/A.heap.size<=c.g)->du A w' C (N.h m s x y):=by
 have n:=u.a;have t:∀(g:Pt)(a:Nat),N.b g a->g≠ .fV->g≠ .dY->¬(a=N.nb\/ag N.ba a):=λg a p d l b=>by obtain b|b:=b;exact d (f.fk _ _ a p b);exact l (f.fk _ _ a p b)
 refine⟨⟨?_,?_,?_,U.c,?_,V,?_,?_,?_,?_,?_⟩,?_⟩;exact u.c N.cells N.ty f.fq;exact f.oy.a n (λk i=>t .iB k i (by simp) (by simp));exact f.pu.a n (λk i=>t .gk k i (by simp) (by simp));intro c o;obtain b|⟨b,E⟩:=D c o;exact(f.l5 c b).a n (λk i=>t .eY k ⟨c,b,(cM.1 i).symm⟩ (by simp) (by simp));exact E.a n (λk i=>by rw[cM.1 i];exact t .ep c.g b (by simp) (by simp));exact λj q r=>(f.kI j q r).b n (λk i=>t (.cZ j .ic) k ⟨q,r,i⟩ (by simp) (by simp));exact λj q r=>(f.nH j q r).a n (λk i=>t (.cZ j .fP) k ⟨q,r,i⟩ (by simp) (by simp));exact λj q r G H K=>(f.j8 j q r G H K).a n (λk i=>t (.cZ j (.dX G)) k ⟨q,r,H,K,i⟩ (by simp) (by simp));exact λa h=>Un (f.oA a (w a h).1) n.size;refine ya (N:=N) (z:=v.heap.size) (λg=>g= .ep\/g= .dY\/g= .eY) f.fk f.g ?_ ?_ ?_;intro g p a h;cases g with
 |ep=>exact(p (Ur rfl)).elim
 |dY=>exact(p (Up (Ur rfl))).elim
 |eY=>exact(p (Up (Up rfl))).elim
 |_=>exact h
 rintro g (rfl|rfl|rfl) a h;exact Ur ⟨.ep,Ur rfl,(w a h).1⟩;obtain b|b:=u.b a h;exact Ur ⟨.dY,Up (Ur rfl),b⟩;omega;obtain⟨c,o,rfl⟩:=h;obtain b|⟨b,_⟩:=D c o;exact Ur ⟨.eY,Up (Up rfl),c,b,rfl⟩;exact Ur ⟨.ep,Ur rfl,b⟩;have M:∀a,y a->(∃c∈m,c.g=a)->False:=λa d ⟨c,o,b⟩=>(w a d).2 c o b;have O:∀a,ag s a->N.aG a->False:=λa d l=>by obtain b|b:=u.b a d;have:=f.fk .dY .ep a b l;cases this;have:=f.oA a l;omega
 have Q:∀a,ag s a->(∃c∈m,c.g=a)->False:=λa d ⟨c,o,E⟩=>by subst E;obtain b|⟨b,_⟩:=D c o;obtain R|R:=u.b _ d;have:=f.fk .dY .eY _ R ⟨c,b,rfl⟩;cases this;have:=(f.l5 c b).b c.g (eN _ _);omega;grind
 rintro g aa a (rfl|rfl|rfl) (rfl|rfl|rfl) d l;rfl;exact(O a l (w a d).1).elim;exact(M a d l).elim;exact(O a d (w a l).1).elim;rfl;exact(Q a d l).elim;exact(M a l d).elim;exact(Q a l d).elim;rfl;intro A C e o;have X:∀a,(a=N.nb\/ag N.ba a)->N.c a:=λa b=>by obtain b|b:=b;exact⟨.fV,by simp,b⟩;exact⟨.dY,by simp,b⟩
 refine⟨e.b.g n λj ab b=>?_,?_,e.a,e.o,e.h,e.m,e.n,e.e,e.i,e.f⟩;obtain d|d:=e.d j (X j b);exact d;omega;rintro a ⟨g,p,h⟩;cases g with
 |ep=>exact(p rfl).elim
 |fV=>exact e.d a ⟨.fV,by simp,h⟩
 |iB=>exact e.d a ⟨.iB,by simp,h⟩
 |gk=>exact e.d a ⟨.gk,by simp,h⟩
 |dY=>
  obtain b|b:=u.b a h;exact e.d a ⟨.dY,by simp,b⟩;exact Up (UM e.b.size b)
 |eY=>
  obtain⟨c,Y,rfl⟩:=h;obtain b|b:=o c Y;exact e.d _ ⟨.eY,by simp,c,b,rfl⟩;exact b
 |cZ j Z=>exact e.d a ⟨.cZ j Z,by simp,h⟩
def pE{e:Type}{b:List e}{a x}(c:b[a]?=S x)(d):b.modify a d=b.set a (d x):=by apply Vc;intro f;rw[VE];by_cases g:a=f;subst g;rw[c,wg c];simp;grind
noncomputable def eK(a:List Nat):Option Fr.ff:=by classical exact if b:∃c,Is a c then b.choose else N
def uH{l}(a:∀b∈l,b<256):Is l (eK l):=by have c:=FF a;unfold eK;grind
structure AS where
 n:ay
 ss:List (Nat×En)
structure AP where
 f:Nat
 t:Nat
 l:List Nat
 sp:Bool
structure AN where
 g:List Ed
 bd:List AS
 fu:List AP
def Sd.b(a:Sd):Nat×En:=(a.a,a.e)
def Sp.a(a:Sp):AS:=⟨a.n,a.ss.map Sd.b⟩
def Pk.f(a:Pk):AP:=⟨a.e,a.a,a.l,a.sp⟩
def Nt.a(a:Nt):AN:=⟨a.d,a.aK.map Sp.a,a.aS.map Pk.f⟩
namespace AN
def a(b:AN)(e f:Nat)(g:En->En):AN:= {b with bd:=b.bd.modify e λc=> {c with ss:=c.ss.modify f λd=>(d.1,g d.2)}}
def b(a:AN)(d:Nat)(e:ay->ay):AN:= {a with bd:=a.bd.modify d λc=> {c with n:=e c.n}}
def e(a:AN)(b c:Nat):Option (Nat×En):=(a.bd[b]?).bind λd=>d.ss[c]?
def j(a:AN)(b:AP):AN:=if a.fu.length<300 then {a with fu:=a.fu++[b]}else a
def l(a:AN)(b t:Nat)(c:List Fr.ff):AN:=c.foldl (λa d=>a.j ⟨b,t,Fr.bi d,F⟩) a
def d(a:AN)(b c:Nat):AN:=match a.e b c with
 |none=>a
 |some e=>(a.a b c En.f).l b e.1 e.2.aA
end AN
noncomputable def En.m(a:En)(b:Fr.cF):En:=by classical exact if dC b/\a.aJ+a.aI.length<65536 then a.n b else a
namespace AN
noncomputable def o(c:AN)(b:Nat)(a:Nat×Fr.cF):AN:=(c.a b a.1 λd=>d.m a.2).d b a.1
def O(a:AN)(b:Nat):List (Nat×Fr.cF):=match a.bd[b]? with
 |none=>[]
 |some c=>c.n.aD
noncomputable def p(a:AN)(b:Nat)(c:List (Nat×Fr.cF)):AN:=c.foldl (λa d=>a.o b d) a
noncomputable def m(b:AN)(a:Nat):AN:=(b.b a λc=> {c with aD:=[]}).p a (b.O a)
noncomputable def D(b:AN)(a:Nat):AN:=(b.b a ay.b).m a
noncomputable def G(b:AN)(a c:Nat)(d:Fr.cF):AN:=(b.b a λe=>e.w c d).m a
noncomputable def n(a:AN)(b c:Nat)(d:List Fr.cF):AN:=d.foldl (λa e=>a.G b c e) a
def w(a:AN)(b k:Nat):Nat:=match a.bd[b]? with
 |none=>0
 |some c=>c.ss.findIdx λd=>d.1==k
def K(a:AN)(b c:Nat)(d:Option Fr.ff):List Fr.cF:=match a.e b c with
 |none=>[]
 |some e=>e.2.b d
noncomputable def M(c:AN)(a:AP):AN:=
 let b:=c.w a.t a.f
 ((c.a a.t b λd=>d.d (eK a.l)).d a.t b).n a.t b (c.K a.t b (eK a.l))
def f(a:AN)(k:Nat):AN:= {a with fu:=a.fu.eraseIdx k}
noncomputable def x(a:AN)(k:Nat):AN:=match a.fu[k]? with
 |none=>a
 |some b=>(a.f k).M b
def q(a:AN)(k:Nat):AN:=match a.fu[k]? with
 |none=>a
 |some b=>a.j b
def s(a:AN)(k c d:Nat):AN:=match a.fu[k]? with
 |none=>a
 |some b=>if b.sp=F/\c<b.l.length/\d≠0 then {a with fu:=a.fu.set k {b with l:=b.l.modify c λe=>e ^^^ d,sp:=T}}else a
def A(c:AN)(a b:Nat):AN:=(c.a a b En.o).d a b
def v(a:AN)(b:Nat)(c:Nat):AN:=(List.range c).foldl (λa d=>a.A b d) a
def y(a:AN)(b:Nat):AN:=a.v b (match a.bd[b]? with|none=>0|some c=>c.ss.length)
def u(a:AN)(b k:Nat):Bool:=match a.bd[b]? with
 |none=>F
 |some c=>match c.n.ai[a.w b k]? with
  |none=>F
  |some d=>d.2==1
def C(b:AN):List Ed:=b.g.filter λa=>b.u a.a.toNat a.b.toNat||b.u a.b.toNat a.a.toNat
end AN
def jH{a:Nt}{b:Nat}{c}(d:a.aK[b]?=S c):a.a.bd[b]?=S c.a:=by simp[Nt.a,d]
def vM{b:Nt}{c d e a}(f:b.aK[c]?=S e)(g:e.ss[d]?=S a):b.a.e c d=S (a.a,a.e):=by simp[AN.e,jH f,Sp.a,g,Sd.b]
def Ee{d:Nt}{e c a b}(h:d.aK[e]?=S a)(i:a.ss[c]?=S b)(f j k g)(l:g b.e=f):(d.i e a c b f j k).a=d.a.a e c g:=by
 have m:(a.ss.map Sd.b)[c]?=S (b.a,b.e):=by simp[i,Sd.b]
 simp only[Nt.a,Nt.i,Nt.g,AN.a];rw[pE (x:=a.a) (by simp[h]),Wl];simp only[Sp.a,Wl];rw[pE m];simp only[Sd.b,l]
def Ef{b:Nt}{c a}(f:b.aK[c]?=S a)(d g h e)(i:e a.n=d):(b.j c a d g h).a=b.a.b c e:=by simp only[Nt.a,Nt.j,Nt.g,AN.b];rw[pE (x:=a.a) (by simp[f]),Wl];simp only[Sp.a,i]
def AT(a:Nt)(b):({a with aG:=b}:Nt).a=a.a:=rfl
def Eb(a:Nt)(b c d e):(a.h (jo a.aS b) c d e).a=a.a.j b.f:=by unfold jo AN.j Nt.a Nt.h;grind
def OG(k t c f a d b g)(h:bO g k t c f a d)(u:(a.aA.length:Int)<1099511627000):
 Calls prog 111 #[P (S ⟨c,f,N⟩),mv b] g λl i=>∃v,l= .returned (.int J v)/\∃m,bO i k t c f (a.m b) m/\fG g i c d m:=by
 by_cases n:bJ (b.a:Int) (b.c:Int) (b.b:Int) b.d=T;have p:dC b:=by
  have o:=n;simp only[bJ,UV]at o;obtain⟨⟨r,y⟩,z,A,C,D,_⟩:=o;have s:b.a=1\/b.a=2\/b.a=3\/b.a=4\/b.a=5\/b.a=6\/b.a=7:=by omega
  refine⟨by omega,?_,?_,n⟩;have:bL (b.a:Int)<=9:=by obtain a|a|a|a|a|a|a:=s<;>rw[a]<;>decide
  omega;have:bM (b.a:Int)<=1000:=by obtain a|a|a|a|a|a|a:=s<;>rw[a]<;>decide
  omega
 by_cases q:a.aJ+a.aI.length<65536;refine(F2 k t c f a d b p g h q u).mono ?_;rintro l i ⟨rfl,m,o,r⟩;refine⟨_,rfl,m,?_,r⟩;unfold En.m;rw[UG ⟨p,q⟩];exact o;have w:a.aJ+a.aI.length=65536:=by have:=h.jn;omega
 refine(F0 k t c f a d b p g h w).mono ?_;rintro l i ⟨rfl,j⟩;refine⟨_,rfl,d,?_,fG.b c d j⟩;unfold En.m;rw[Us λe=>q e.2];exact h.a j λ_ _ e=>e;have x:bJ (b.a:Int) (b.c:Int) (b.b:Int) b.d=F:=by simpa using n
 refine(F1 c f _ _ _ _ x g).mono ?_;rintro l i ⟨rfl,j⟩;refine⟨_,rfl,d,?_,fG.b c d j⟩;unfold En.m;rw[Us λe=>n e.1.2.2.2];exact h.a j λ_ _ e=>e
def OE(m t a d e f h i j g n b)(c:bO b m t a d e f)(o:qf b h i j g)(w:Is g n)(x:(e.aA.length:Int)<1099511627000):
 Calls prog 116 #[P (S ⟨a,d,N⟩),L (S ⟨h,i,N⟩) g.length j] b λp k=>∃y l,p= .returned y/\sZ b k a l y (e.b n)/\bO k m t a d (e.d n) l/\fG b k a f l:=by
 cases n with
 |none=>
  refine(FY a d h i j g b o w).mono ?_;rintro p k ⟨rfl,z⟩;exact⟨_,f,rfl,⟨N,0,rfl,RV.d _ _ _,λq r=>(b8 q r).elim⟩,c.a z λ_ _ D=>D,fG.b a f z⟩
 |some E=>
  obtain⟨G,s,A⟩:=E;obtain⟨u,H⟩:=w;have v:=pC _ u;rw[H]at v;have C:(s:Int)<65536:=by have:=u.1;simp only at this;omega
  cases G with
  |false=>
   have K:A=Fr.dq:=by obtain⟨c,_⟩|⟨_,c⟩:=u.2;cases c;exact c
   subst K;refine(FW m t a d e f h i j s g b c o v C x).mono ?_;rintro p k ⟨rfl,l,M,O⟩;exact⟨_,l,rfl,⟨N,0,rfl,RV.d _ _ _,λq r=>(b8 q r).elim⟩,M,O⟩
  |true=>exact FX m t a d e f h i j s A g b c o v C x
def SP(d):∀a b,d[a]?=S b->(nR d)[a*2]?=S (P (S ⟨b.b,0,N⟩))/\(nR d)[a*2+1]?=S (L b.c b.ss.length b.f):=by
 induction d with
 |nil=>intro a b c;simp at c
 |cons e f h=>
  intro a b c;have i:nR (e::f)=sr e++nR f:=by simp[nR]
  have g:(sr e).length=2:=rfl;rw[i];cases a with
  |zero=>
   simp only[U8,VO]at c;subst c;exact⟨rfl,rfl⟩
  |succ a=>
   simp only[UH]at c;obtain⟨j,k⟩:=h a b c;refine⟨?_,?_⟩;rw[Ut (by omega),g,show (a+1)*2-2=a*2 by omega];exact j;rw[Ut (by omega),g,show (a+1)*2+1-2=a*2+1 by omega];exact k
def bn.d{b c}(h:bn b c){k a}(g:c.aK[k]?=S a):∃d e,c.f=S ⟨d,e,N⟩/\d<b.heap.size/\b.cell? ⟨d,e+k*2,N⟩=S (P (S ⟨a.b,0,N⟩))/\b.cell? ⟨d,e+k*2+1,N⟩=S (L a.c a.ss.length a.f):=by have o:=(Ul.1 g).1;obtain⟨i,j,l,f⟩:=ja h.pu (by omega);obtain⟨m,n⟩:=SP c.aK k a g;exact⟨i,j,l,f.b,f.a _ _ m,by rw[UI];exact f.a _ _ n⟩
def bn.x{b a}(c:bn b a):b.cell? ⟨a.nb,0,N⟩=S (L a.l a.d.length a.n):=by rw[c.fq.a];rfl
def bn.i{b a}(c:bn b a):b.cell? ⟨a.nb,1,N⟩=S (L a.f a.aK.length a.e):=by rw[c.fq.a];rfl
def bn.c{b a}(c:bn b a):b.cell? ⟨a.nb,2,N⟩=S (L a.ba a.aS.length a.bc):=by rw[c.fq.a];rfl
def eB.e{b a c d}(e:eB b a d c):jw b a d c:=by obtain⟨f,g,h⟩:=e;exact⟨by simp,by omega,Up ⟨a,0,rfl,[],f,by simpa using g,rfl,by simp;omega⟩⟩
def KX(a b)(c:a.length<=300):(jo a b).length<=300:=by unfold jo;split;simp;omega;exact c
def uO{c d b}(a:b∈jo c d):b∈c\/b=d:=by unfold jo at a;split at a;obtain a|a:=UP.1 a;exact Ur a;exact Up (UY.1 a);exact Ur a
def Ex{c a}(d:c.Pairwise λa b=>a.g≠b.g)(e:∀b∈c,b.g≠a.g):(jo c a).Pairwise (λa b=>a.g≠b.g):=by unfold jo;split;rw[Wg];exact⟨d,WW _ _,λf g i h=>by rw[UY.1 h];exact e f g⟩;exact d
structure nV(q wr:World)(j:Nt)(k r:Nat)(h:Sd)(l:Nat)(i:Nt):Prop where
 a:bn wr i
 d:i.a=(j.a.a k r En.f).l k h.a (h.e.aA.take l)
 c:du q wr j i
 b:i.aG=λm=>j.aG m\/ag h.p.oa m\/m∈h.p.gs.drop l
 f:i.aS.length<=300
 g:RV wr 56 1 h.p.oa h.e.aA.length h.p.oc (oU h.p.gs h.e.aA)
 e:∀(n o:Nat)(p:Fr.ff),l<=n->h.p.gs[n]?=S o->h.e.aA[n]?=S p->eB wr o (Fr.bi p) 10
def nV.m{i wr f g k b j c e}(l:nV i wr f k b c j g)(m:f.aK[k]?=S e)(n:e.ss[b]?=S c):∃a d,g.aK[k]?=S a/\a.ss[b]?=S d/\a.c=e.c/\d.a=c.a:=by
 obtain⟨a,o,p⟩:=l.c.j m;obtain⟨_,q,_,r,u⟩:=uC p;have h:(a.ss.map Sd.a)[b]?=S c.a:=by rw[r];simp[n]
 rw[Uz]at h;obtain⟨d,s,t⟩:=UD.1 h;exact⟨a,d,o,s,q,t⟩
def nV.j{e wr w1 f d k g h i}(a:nV e wr f k g i h d)(c:ae aa wr w1):nV e w1 f k g i h d:=
 ⟨a.a.a c λ_ _ b=>b,a.d,a.c.c (du.g d c),a.b,a.f,a.g.a c λ_ _ b=>b,λj l m n o p=>(a.e j l m n o p).a c λb=>b⟩
def pM{d:Type}{a:List d}{b c}(e:a[b]?=S c):a.take (b+1)=a.take b++[c]:=by rw[Vz,e];rfl
def nV.l{n wr q h e k z i c}(d:nV n wr h k z c i e)(A:py n c.e c.p)(C:∀b,b∈c.p.gs->h.c b/\¬h.aG b){f l}(r:c.p.gs[i]?=S f)(D:c.e.aA[i]?=S l)(o s)(O:mS q e.nb 2 (jo e.aS ⟨k,c.a,Fr.bi l,f,10,F⟩) o s)(t:qA wr q e.nb 2 e.ba o (L o (jo e.aS ⟨k,c.a,Fr.bi l,f,10,F⟩).length s)):
 ∃Q,nV n q h k z c (i+1) Q:=by
 have u:=Uo r;have v:c.p.gs.drop i=f::c.p.gs.drop (i+1):=by obtain⟨R,a⟩:=Ul.1 r;rw[VY R,a]
 have U:f∈c.p.gs.drop i:=by rw[v];exact WX ..
 have E:e.aG f:=by rw[d.b];exact Up (Up U)
 have V:f∉c.p.gs.drop (i+1):=by have:=A.gn.sublist (List.drop_sublist i c.p.gs);rw[v]at this;exact(Xm.1 this).1
 have G:∀j∈e.aS,¬e.aG j.g:=λj w a=>by have:=d.a.fk .eY .ep j.g ⟨j,w,rfl⟩ a;cases this
 have W:=d.e i f l (UF _) r D;have H:∀b,e.aG b->¬(b=e.nb\/ag e.ba b):=λb g a=>by obtain a|a:=a;have:=d.a.fk .ep .fV b g a;cases this;have:=d.a.fk .ep .dY b g a;cases this
 obtain⟨X,Y⟩:=d.a.p (jo e.aS ⟨k,c.a,Fr.bi l,f,10,F⟩) o s (λb=>h.aG b\/ag c.p.oa b\/b∈c.p.gs.drop (i+1)) O t
  (λx m=>by obtain a|rfl:=uO m;exact Ur a;exact Up ⟨E,W.e⟩)
  (Ex d.a.oz λj w a=>G j w (a▸E))
  (λb g=>by
   have K:e.aG b:=by rw[d.b];obtain a|a|a:=g;exact Ur a;exact Up (Ur a);exact Up (Up (by rw[v];exact WK _ a))
   refine⟨K,λx m a=>?_⟩;obtain Z|rfl:=uO m;exact G x Z (a▸K);subst a;obtain a|a|a:=g;exact(C _ u).2 a;exact(A.gw _ u).2 a;exact V a)
 refine⟨_,X,?_,?_,rfl,KX _ _ d.f,?_,?_⟩;rw[Eb,d.d,pM D];simp[AN.l,V5,Pk.f];exact Y n h d.c λx m=>by obtain a|rfl:=uO m;exact Ur a;exact Up (Ur (C f u).1)
 exact d.g.a t.a (λb g=>H b (by rw[d.b];exact Up (Ur g)));intro p M aa ac y ab;refine(d.e p M aa (by omega) y ab).a t.a (H M ?_);rw[d.b];refine Up (Up ?_);obtain⟨ad,a⟩:=Ul.1 y;exact Uo (i:=p-i) (by rw[VC,show i+(p-i)=p by omega];exact y)
def nV.h{f wr a b k d e g}(c:nV f wr a k d e e.e.aA.length b)(h:a.aK[k]?=S g)(i:g.ss[d]?=S e):
 bn wr {b with aG:=a.aG}/\({b with aG:=a.aG}:Nt).a=a.a.d k d/\du f wr a {b with aG:=a.aG}:=by
 refine⟨c.a.n (ae.a aa wr) a.aG (λl j=>Ur (by rw[c.b];exact Ur j)),?_,?_⟩;rw[AT,c.d,Vu,AN.d,vM h i];have:=c.c.l a.aG a.aG;exact this
def nV.n{i w1 g k f b e}(u:bn i g)(m:g.aK[k]?=S e)(q:e.ss[f]?=S b)(z:g.aS.length<=300){j n v}(A:e.c=S ⟨j,n,N⟩)(C:bO w1 v 181 j (n+f*25+1) b.e.f {b.p with oa:=N,oc:=0,gs:=[]})(r:ae (ap j) i w1)(D:∀o s l t,bO o v 181 j (n+f*25+1) s l->ae (λk=>k=j\/gD b.p k) i o->(∀k,gD l k->gD b.p k\/i.heap.size<=k)->(∀k,t k->gD b.p k/\¬gD l k)->bn o (g.i k e f b s l t)/\du i o g (g.i k e f b s l t)):
 ∃E,nV i w1 g k f b 0 E:=by
 have p:=u.j8 k e m f b q;have w:∀a,gD b.p a->a≠j:=λa h c=>by subst c;have:=u.fk (.cZ k (.dX f)) (.cZ k .fP) a ⟨e,m,b,q,h⟩ ⟨e,m,by show ag e.c a;rw[A];exact eN a n⟩;cases this
 obtain⟨G,H⟩:=D w1 b.e.f {b.p with oa:=N,oc:=0,gs:=[]} (λa=>ag b.p.oa a\/a∈b.p.gs) C (r.d λ_ _ c=>Ur c)
  (λa h=>by obtain c|c|c:=h;exact Ur (Ur c);exact(b8 a c).elim;cases c)
  (λa h=>by obtain c|c:=h;refine⟨Up (Ur c),?_⟩;rintro (d|d|d);exact p.wo a d c;exact b8 a d;cases d;refine⟨Up (Up c),?_⟩;rintro (d|d|d);exact(p.gw a c).1 d;exact b8 a d;cases d)
 refine⟨_,G,?_,H,rfl,z,p.us.a r λa h=>w a (Up (Ur h)),λK x M _ y O=>(p.uq K x M y O).a r (w x (Up (Up (Uo y))))⟩;rw[Ee m q _ _ _ En.f rfl];rfl
def nV.i{e wr l m k n b a}(o:nV e wr l k n a b m)(p:py e a.e a.p)(q:b<a.e.aA.length):∃f g c d,a.p.gs[b]?=S f/\a.e.aA[b]?=S g/\a.p.oa=S ⟨c,d,N⟩/\c<wr.heap.size/\wr.cell? ⟨c,d+b,N⟩=S (L (S ⟨f,0,N⟩) (Fr.bi g).length 10):=by have h:a.p.gs[b]?=S (a.p.gs[b]'(by rw[p.gl];exact q)):=Um _;have i:a.e.aA[b]?=S a.e.aA[b]:=Um _;obtain⟨c,d,r,j⟩:=ja o.g (by omega);refine⟨_,_,c,d,h,i,r,j.b,j.a b _ ?_⟩;rw[oU,Wd,h,i];simp only[oO,lB]
def A5(a)(k e:Nat)(m d g)(j:bn g a)(l:a.aK[k]?=S m)(n:m.ss[e]?=S d)(ax:(a.aS.length:Int)<=300)(a9:(a.aK.length:Int)<2000)(ba:(m.ss.length:Int)<2000)(Q:(d.e.aA.length:Int)<1000000):
 Cr 112 #[P (S ⟨a.nb,0,N⟩),.int J k,.int J e] g (.tuple #[]) λR=>∃v,bn R v/\v.a=a.a.d k e/\du g R a v/\v.aG=a.aG:=by
 obtain⟨r,C,U,w,ay,az,V,W⟩:=j.l l n;obtain⟨bb,bc,X,aA,aB,Y⟩:=j.d l;have aD:=(Ul.1 l).1;have aE:=(Ul.1 n).1;have D:=j.i;have Z:=j.fq.b;have ab:=j.j8 k m l e d n;have ac:∀h,h∈d.p.gs->a.c h/\¬a.aG h:=λh x=>by
  have ad:a.b (.cZ k (.dX e)) h:=⟨m,l,d,n,Up (Up x)⟩
  exact⟨⟨_,by simp,ad⟩,λs=>by have:=j.fk _ _ h ad (show a.b .ep h from s);cases this⟩
 rw[X]at D;rw[w]at Y;have t(_:=()):bn g a/\a.aK[k]?=S m/\m.ss[e]?=S d/\a.aS.length<=300/\py g d.e d.p/\(∀h,h∈d.p.gs->a.c h/\¬a.aG h):=⟨j,l,n,by omega,ab,ac⟩
 have aF:=@af _ Q;have E(_:=()):∀f,ae aa g f->_:=λf G=>FZ U 181 r (C+e*25+1) d.e d.p f (V.a G λ_ _ s=>s);have ag(_:=()):∀f,bO f U 181 r (C+e*25+1) d.e.f {d.p with oa:=N,oc:=0,gs:=[]}->ae (ap r) g f->∃b,nV g f a k e d 0 b:=λf aG aH=>nV.n j l n (by omega) w aG aH W;have y(_:=()):∀b wr c,nV g wr a k e d c b->b.nb=a.nb:=λb wr c z=>z.c.a;have aI(_:=()):∀b wr c,nV g wr a k e d c b->wr.cell? ⟨r,C+e*25,N⟩=S (I J d.a)/\r<wr.heap.size:=λb wr c z=>by obtain⟨bd,be,aJ,aK,aL,aM⟩:=z.m l n;obtain⟨bf,bg,_,ai,aN,aO,_⟩:=z.a.l aJ aK;rw[aL,w]at ai;cases ai;exact⟨by rw[<-aM];exact aO,aN⟩
 have bh:(k:Int)<a.aK.length:=by omega
 have bi:(e:Int)<m.ss.length:=by omega
 have bj:(k:Int)<2000:=by omega
 have bk:(e:Int)<2000:=by omega
 obtain⟨aP,H⟩:=ah a.nb;obtain⟨p,K⟩:=ah d.e.aA.length;have o:=@aC _ _ H K;rw[<-K]at E;rw[<-H]at D Z|-;clear j l n ax V W ab ac aD aE az w X Q H K;go_enter func112,ntmps112;go_wp2_with fail;refine Uq (E () _ (ae.a aa g)) ?_;rintro aQ f ⟨rfl,aj,ak⟩;have aR:=@af _ (ag () f aj ak);clear E ag aj ak aB Y D ay aA Z;go_wp2_with fail;go_loopw [24] (λM wr=>∃(c:Nat)(b:Nt),c<=p/\M= .int J c/\nV g wr a k e d c b) λM _=>p-(intOf M).toNat;case atStart=>
  obtain⟨b,i⟩:=aR;exact⟨0,b,by omega,rfl,i⟩
 case round=>
  obtain⟨c,b,O,rfl,i⟩:=hrel;have q:=@aC _ _ i O;obtain⟨aS,aT⟩:=aI () b wr c i;have aU:aP<wr.heap.size:=by rw[o.1,<-y () b wr c i];exact i.a.fq.b
  by_cases A:c<p
  .have al:=@af _ A;have aV:(c:Int)<p:=by omega
   have aW:(c:Int)<1000000:=by have:=aF;rw[<-o.2]at this;omega
   have bl:=@af _ aW;obtain⟨aX,am,bm,bo,an,ao,aY,aZ,aq⟩:=i.i t.2.2.2.2.1 (by rw[<-o.2];exact A);have ar:=@aC _ _ an ao;have u(_:=()):∀f,ae aa wr f->_:=λf G=>Ey b.nb 2 b.aS b.ba b.bc ⟨k,d.a,Fr.bi am,aX,10,F⟩ f ((q.1.a.a G λ_ _ s=>s).f) (by have:=q.1.f;omega);simp only[Pk.b]at u;rw[y () b wr c i,<-o.1]at u;obtain⟨bp,au⟩:=ah ((Fr.bi am).length);rw[<-au]at u aq;clear O A i an ao au;rw[aY];go_wp2_with fail;go_still_tail 11,(by kernel_rfl)
   go_wp2_with fail;refine Uq (u () _ ((ae.a aa wr).drew)) ?_;rintro aQ bq ⟨rfl,a0,a1,x,av⟩;have a2:=@af _ ((q.1.j ((ae.a aa wr).drew)).l t.2.2.2.2.1 t.2.2.2.2.2 ar.1 ar.2 a0 a1 (by rw[y () b wr c q.1,<-o.1];exact x) (by rw[y () b wr c q.1,<-o.1];exact av));clear u x av aq aZ aS aT aU;go_wp2;obtain⟨a3,a4⟩:=a2;exact⟨⟨c+1,a3,by have:=al;omega,by go_num,a4⟩,by have:=al;simp[intOf];omega⟩
  .have aw:c=p:=by omega
   have a5:=@af _ aw;have aV:¬((c:Int)<p):=by omega
   clear O A i aw;go_wp2;go_end0;obtain⟨a6,a7,a8⟩:=nV.h (by have:=q.1;rw[a5,o.2]at this;exact this) t.2.1 t.2.2.1;exact⟨rfl,_,a6,a7,a8,rfl⟩
def SB:(prog.info? 181).map (·.size)=S 25:=by kernel_rfl
def MT(b k t:Nat)(c)(d:c.length=24)(a)(e:a.cell? ⟨b,0,N⟩=S (.int J k))(f:b<a.heap.size):
 Cr 169 #[.agg (.int J t::c).toArray,P (S ⟨b,0,N⟩)] a (B (decide (t=k))) λg=>ae aa a g:=
 match c,d with
 |[v1,v2,v3,v4,v5,v6,v7,v8,v9,v10,v11,v12,v13,v14,v15,v16,v17,v18,v19,v20,v21,v22,v23,v24],_=>MR b k t v1 v2 v3 v4 v5 v6 v7 v8 v9 v10 v11 v12 v13 v14 v15 v16 v17 v18 v19 v20 v21 v22 v23 v24 a e f
def vI(d:World)(e f:Nat)(g:List Nat):Prop:=∀(a b:Nat),g[a]?=S b->∃c:List Value,c.length=24/\d.rangeAt e (f+a*25) (.int J (b:Int)::c)
def vI.a{c b w' a d e}(f:vI b a d e)(k:ae c b w')(g:a<b.heap.size)(h:¬c a):vI w' a d e:=λi j l=>by obtain⟨m,n,o⟩:=f i j l;exact⟨m,n,λp q r=>(k.f a _ g h).trans (o p q r)⟩
def Sx(i k j m Q d)(c:Nat)(e)(u:vI e j m d)(v:j<e.heap.size)(w:(d.length:Int)<1000)(x:d[c]?=S k)(y:∀a,a<c->d[a]?≠S k)(z:e.cell? ⟨i,0,N⟩=S (.int J k))(A:i<e.heap.size):
 Cr 168 #[L (S ⟨j,m,N⟩) d.length Q,.func (.func 169) #[] #[P (S ⟨i,0,N⟩)]] e (.int J c) λR=>ae aa e R:=by
 have b:=@zr _ _ _ _ _ _ _ u v w x y z A;clear u v w x y z A;go_enter func168,ntmps168;go_wp2_with fail;go_loopw [8] (λr wr=>∃a:Nat,a<=c/\r= .int J a/\ae aa e wr) λr _=>d.length-(intOf r).toNat;case atStart=>exact⟨0,by omega,rfl,ae.a _ _⟩
 case round=>
  obtain⟨a,C,rfl,n⟩:=hrel;have D:=(Ul.1 b.2.2.2.1).1;have h:=@cf _ _ _ n C D;obtain⟨f,s⟩:∃f,d[a]?=S f:=⟨_,Um (by omega)⟩
  have E:=@af _ s;obtain⟨g,G,U⟩:∃g:List Value,(Unit->g.length=24)/\(Unit->wr.rangeAt j (m+a*25) (I J f::g)):=by obtain⟨g,o,V⟩:=b.1.a n b.2.1 id a f s;exact⟨g,λ_=>o,λ_=>V⟩
  have X:=Un b.2.1 n.size;have Y:(a:Int)<d.length:=by omega
  have Z:(a:Int)<1000:=by have:=b.2.2.1;omega
  have H(_:=()):∀t,ae aa wr t->_:=λt K=>MT i k f g (G ()) t ((h.1.c K).f i 0 b.2.2.2.2.2.2 id |>.trans b.2.2.2.2.2.1) (Un b.2.2.2.2.2.2 (h.1.c K).size);clear n C D s;go_wp2_with (refine wpList_load_mid rfl 181 _ rfl j (m+a*25) rfl (I J f::g) _ (U ()) underlying181 rfl (SB.trans (Vj S (Vj Nat.succ (G ()).symm))) ?_);refine Uq (H () _ (ae.a aa wr)) ?_;rintro ab ac ⟨rfl,M⟩;have O:=@af _ (h.1.c M);clear M H;by_cases p:f=k
  .rw[U4 p];have q(_:=()):a=c:=by obtain l|l:=Xt a c;exact(b.2.2.2.2.1 a l (by rw[E,p])).elim;have:=h.2.1;omega
   go_wp2;go_ret;exact⟨by rw[<-q];rfl,O⟩
  .rw[U7 p];have q(_:=()):a<c:=by
    obtain l|l:=Xt a c;exact l;have W:a=c:=by have:=h.2.1;omega
    have o:=b.2.2.2.1;rw[<-W,E]at o;exact(p (Wn o)).elim
   go_wp2;exact⟨⟨a+1,by have:=q;omega,by go_num,O⟩,by have:=q;have:=h.2.2;simp[intOf];omega⟩
def bn.u{f g}(n:bn f g){k:Nat}{e}(o:g.aK[k]?=S e){h b}(p:e.c=S ⟨h,b,N⟩):vI f h b (e.ss.map Sd.a):=by
 intro i t j;rw[Uz]at j;obtain⟨c,q,rfl⟩:=UD.1 j;obtain⟨u,v,w,l,_,r,m,_⟩:=n.l o q;rw[p]at l;cases l;refine⟨c.e.cells c.p,m6 c.e c.p m.ft,λa s d=>?_⟩;cases a with
 |zero=>simp only[U8,VO]at d;subst d;exact r
 |succ a=>
  rw[UH]at d;have:=m.b a s d;rw[show b+i*25+1+a=b+i*25+(a+1)by omega]at this;exact this
def Fc(g i k d h j b)(e:Nat)(a)(l:a.cell? ⟨g,i+1,N⟩=S (L (S ⟨d,h,N⟩) b.length j))(y:g<a.heap.size)(m:vI a d h b)(n:d<a.heap.size)(o:(b.length:Int)<1000)(p:b[e]?=S k)(q:∀r,r<e->b[r]?≠S k):
 Cr 115 #[P (S ⟨g,i,N⟩),.int J k] a (.int J e) λv=>ae aa a v:=by
 have s(_:=()):∀c f,ae aa a c->c.cell? ⟨f,0,N⟩=S (I J k)->f<c.heap.size->_:=λc f t l w=>Sx f k d h j b e c (m.a t n id) (Un n t.size) o p q l w;clear m p q o;go_enter func115,ntmps115;go_wp2_with fail;refine Uq (s () _ a.heap.size ((ae.a aa a).b _) (by simp) (by simp)) ?_;rintro z A ⟨rfl,u⟩;have x:=@af _ (((ae.a aa a).b _).c u);clear u s;go_wp2;go_ret;exact⟨rfl,x⟩
def km{g:Type}{b:List g}{d k e f}(c:(b.modify d e)[k]?=S f):∃a,b[k]?=S a/\f=if d=k then e a else a:=by
 rw[VE]at c;cases h:b[k]? with
 |none=>rw[h]at c;simp at c
 |some a=>
  grind
def yM{d h:Type}(a:d->h)(b:List d)(e f)(i:∀c,a (f c)=a c):(b.modify e f).map a=b.map a:=by
 apply Vc;intro g;rw[Uz,Uz,VE];cases b[g]? with
 |none=>simp
 |some c=>by_cases j:e=g<;>simp[j,i]
def yN{g:Type}(b:List g)(a c d):(b.modify a c).modify a d=b.modify a (λe=>d (c e)):=by
 apply Vc;intro f;rw[VE,VE,VE];cases b[f]? with
 |none=>simp
 |some e=>by_cases h:a=f<;>simp[h]
def AN.h(a:AN):List (List Nat):=a.bd.map λb=>b.ss.map λc=>c.1
def D5(S:List (List Nat))(a:AP):Prop:=(∀c∈a.l,c<256)/\0<a.l.length/\a.l.length<1000/\∃b,S[a.t]?=some b/\a.f∈b
def Kd(S:List (List Nat)):Prop:=∀(a:Nat)(b:List Nat)(c:Nat),S[a]?=some b->c∈b->∃d,S[c]?=some d/\a∈d
def lE(b:En):Prop:=∀a,S a∈b.aO->dC a
structure dw(i:AN)(m:Nat):Prop where
 d:i.bd.length<=1000
 a:∀(j:Nat)(h:AS),i.bd[j]?=S h->lg h.n/\h.n.ai.length=h.ss.length/\h.n.an.length<=m
 c:∀(j:Nat)(h:AS),i.bd[j]?=S h->∀(l:Nat)(k:Nat×En),h.ss[l]?=S k->k.2.aA=[]
 f:∀(j:Nat)(h:AS),i.bd[j]?=S h->∀(l:Nat)(k:Nat×En),h.ss[l]?=S k->lE k.2
 b:i.fu.length<=300
 e:∀n∈i.fu,D5 i.h n
 g:Kd i.h
def uZ(a:AN)(b c d):(a.a b c d).h=a.h:=
 yM _ _ _ _ λe=>yM _ _ _ _ λf=>rfl
def Ht(a:AN)(b c):(a.b b c).h=a.h:=yM _ _ _ _ λd=>rfl
def qj(a:AN)(b):(a.j b).bd=a.bd/\(a.j b).g=a.g:=by unfold AN.j;split<;>exact⟨rfl,rfl⟩
def zd(a:AN)(b):(a.j b).h=a.h:=by unfold AN.h;rw[(qj a b).1]
def Gb{b:AN}{c a}(d:a∈(b.j c).fu):a∈b.fu\/a=c:=by unfold AN.j at d;grind
def Eo{a d}(b:dw a d){c}(e:D5 a.h c):dw (a.j c) d:=by refine⟨?_,?_,?_,?_,?_,?_,?_⟩;rw[(qj a c).1];exact b.d;rw[(qj a c).1];exact b.a;rw[(qj a c).1];exact b.c;rw[(qj a c).1];exact b.f;unfold AN.j;split;simp;omega;exact b.b;intro f g;rw[zd];obtain h|rfl:=Gb g;exact b.e f h;exact e;rw[zd];exact b.g
def Su(b t c):∀a:AN,(a.l b t c).h=a.h:=by
 induction c with
 |nil=>intro a;rfl
 |cons f d e=>
  intro a;show ((a.j _).l b t d).h=_;rw[e,zd]
def KB{e}(f t c):∀b,dw b e->(∃g,b.h[t]?=S g/\f∈g)->(∀a∈c,dx a)->dw (b.l f t c) e:=by
 induction c with
 |nil=>intro b d _ _;exact d
 |cons a n k=>
  intro b d h i;have j:=lB a;have o:ee a=10\/ee a=5:=by unfold ee;split<;>simp
  refine k _ (Eo d ⟨qo a (i a (WX ..)),?_,?_,h⟩) (by rw[zd];exact h) λl m=>i l (WK _ m);simp only[j];omega;simp only[j];omega
def Ci{a:AN}{b c d}(f:a.e b c=S d):∃e,a.bd[b]?=S e/\e.ss[c]?=S d:=by unfold AN.e at f;grind
def Pd(c:AN)(a b d e):(c.a a b d).a a b e=c.a a b (λf=>e (d f)):=by unfold AN.a;simp only[yN]
def Sz{d:AN}{a b c}(f:d.e a b=S c)(e):(d.a a b e).e a b=S (c.1,e c.2):=by obtain⟨i,g,h⟩:=Ci f;unfold AN.e AN.a;simp[g,h]
def KC{m n}(a:dw m n)(p q k)(r:∀h,(k h).aA=[])(s:∀h,lE h->lE (k h)):dw (m.a p q k) n:=by refine⟨?_,?_,?_,?_,a.b,?_,?_⟩;simpa [AN.a]using a.d;intro b o g;obtain⟨c,d,rfl⟩:=km g;obtain⟨t,u,v⟩:=a.a b c d;grind;intro b o g f l e;obtain⟨c,d,rfl⟩:=km g;split at e;obtain⟨i,j,rfl⟩:=km e;split;exact r _;exact a.c b c d f i j;exact a.c b c d f l e;intro b o g f l e;obtain⟨c,d,rfl⟩:=km g;split at e;obtain⟨i,j,rfl⟩:=km e;split;exact s _ (a.f b c d f i j);exact a.f b c d f i j;exact a.f b c d f l e;rw[uZ];exact a.e;rw[uZ];exact a.g
def yh{d:AN}{a b e}(f:d.e a b=S e)(c):(d.a a b c).d a b=(d.a a b λg=>(c g).f).l a e.1 (c e.2).aA:=by unfold AN.d;rw[Sz f c];simp only[Pd]
def AU{f g}(h:dw f g){b d a}(i:f.e b d=S a)(e)(j:∀c,lE c->lE (e c))(k:∀l∈(e a.2).aA,dx l):dw ((f.a b d e).d b d) g:=by rw[yh i e];refine KB b a.1 _ _ (KC h b d _ (λc=>rfl) λc m=>j c m) ?_ k;rw[uZ];obtain⟨n,o,p⟩:=Ci i;exact h.g b (n.ss.map λa=>a.1) a.1 (by simp[AN.h,o]) (Vb.2 ⟨a,Uo p,rfl⟩)
def Sv(a:AN)(b c d):((a.a b c d).d b c).h=a.h:=by unfold AN.d;split;exact uZ ..;rw[Su,uZ,uZ]
def AW{k m l}(a:dw k m)(q:m<=l)(n j)(r:∀b,k.bd[n]?=S b->lg (j b.n)/\(j b.n).ai.length=b.n.ai.length/\(j b.n).an.length<=l):dw (k.b n j) l:=by refine⟨?_,?_,?_,?_,a.b,?_,?_⟩;simpa [AN.b]using a.d;intro c b g;obtain⟨d,e,rfl⟩:=km g;obtain⟨o,p,s⟩:=a.a c d e;split;grind;exact⟨o,p,by omega⟩;intro c b g h i f;obtain⟨d,e,rfl⟩:=km g;split at f;exact a.c c d e h i f;exact a.c c d e h i f;intro c b g h i f;obtain⟨d,e,rfl⟩:=km g;split at f;exact a.f c d e h i f;exact a.f c d e h i f;rw[Ht];exact a.e;rw[Ht];exact a.g
def Ou{a}(b:lE a)(c):lE (a.m c):=by unfold En.m;split;exact b;exact b
def Ot{a}(b:lE a):lE a.o:=b
def Bs{c}(d:lE c){q}(n:∀f,q=S f->dx f):lE (c.d q)/\∀a∈c.b q,dC a:=by
 cases q with
 |none=>exact⟨d,λa g=>by cases g⟩
 |some f=>
  have o:=n f rfl;obtain⟨p,h,i⟩:=f;cases p with
  |false=>
   refine⟨?_,λa g=>by cases g⟩;show lE (c.h h);unfold En.h;split;exact d;exact d
  |true=>
   have g:dC i:=by obtain⟨_,k,r,s,t⟩|⟨k,_⟩:=o.2;exact⟨k,r,s,t⟩;cases k
   have l:lE (c.a h i):=by unfold En.a;split;split;intro a b;obtain e|e:=VK b;exact d a e;grind;exact d;exact d
   have u:∀(j:List (Option Fr.cF)),(∀a,S a∈j->dC a)->∀a∈En.dU j,dC a:=by
    intro j;induction j with
    |nil=>intro _ a b;cases b
    |cons v w x=>
     intro y a b;cases v with
     |none=>cases b
     |some z=>
      obtain rfl|e:=UZ.1 b;grind;grind
   refine⟨?_,u _ l⟩;show lE ((c.a h i).g.p);have m:lE (c.a h i).g:=by intro a b;obtain e|e:=UP.1 b;exact l a (WJ e);grind
   unfold En.p;split;exact m;exact m
def bn.o{b a}(c:bn b a){k}(d:a.aG k):¬a.c k:=by rintro⟨e,f,g⟩;exact f (c.fk e .ep k g d)
def TT(a:Nt)(b c d e f g):(a.i b c d e f g λ_=>False).aG=a.aG:=by funext h;simp[Nt.i,Nt.g]
def TU(a:Nt)(b c d e):(a.j b c d e λ_=>False).aG=a.aG:=by funext f;simp[Nt.j,Nt.g]
def Ge{e w' c d f}(g:fG e w' c d f)(l:¬gD f c):(∀a,gD f a->gD d a\/e.heap.size<=a)/\ae (λa=>a=c\/gD d a) e w':=by
 have h:∀a,ma c d a->a=c\/gD d a:=by rintro a (b|b|b);grind;exact Up (Ur b);exact Up (Up (Ur b))
 refine⟨?_,g.c.d λa _ b=>h a b⟩;intro a j;have i:ma c f a->gD d a\/e.heap.size<=a:=λk=>by obtain b|b:=g.d a k;obtain b|b:=h a b;grind;grind;grind
 obtain b|b|b:=j;exact i (Up (Ur b));exact i (Up (Up b));obtain b|b:=g.e a b;exact Ur (Up (Up b));omega
def Ch(a:En)(k):(a.r k).aA.length<=a.aA.length+4:=by simp only[En.r,Uu,uF,U5,UK];omega
def TH(a:En)(b):(a.m b).aA.length<=a.aA.length+4:=by unfold En.m;split;exact Ch (a.w b) a.c;omega
def TB(a:En):a.o.aA.length<=a.aA.length+4:=Ch a 0
def bn.b{a:Nt}:a.a.fu.length=a.aS.length/\a.a.bd.length=a.aK.length:=by simp[Nt.a]
def bn.m{l d}(C:bn l d){k f a b}(m:d.aK[k]?=S a)(u:a.ss[f]?=S b):
 ∃g q v,a.c=S ⟨g,q,N⟩/\g<l.heap.size/\l.cell? ⟨g,q+f*25,N⟩=S (.int J b.a)/\bO l v 181 g (q+f*25+1) b.e b.p/\
  ∀w n h o,ae aa l w->bO n v 181 g (q+f*25+1) h o->fG w n g b.p o->
   ∃i s x,bn n i/\(∀r,r b.e=h->i.a=d.a.a k f r)/\du l n d i/\i.aG=d.aG/\(∀r∈h.aA,dx r)/\i.aK[k]?=S s/\s.ss[f]?=S x/\x.e=h/\s.ss.length=a.ss.length/\i.aK.length=d.aK.length/\i.aS=d.aS/\ae (λc=>c<l.heap.size) w n/\(∀c,i.c c->d.c c\/gD o c):=by
 obtain⟨g,q,v,H,K,M,O,Q⟩:=C.l m u;refine⟨g,q,v,H,K,M,O,λw n h o D A R=>?_⟩;have ai:=(C.j8 k a m f b u).b;obtain⟨U,E⟩:=Ge R A.j;obtain⟨V,W⟩:=Q n h o (λ_=>False) A ((D.d λ_ _ t=>t.elim).c E) (λc j=>(U c j).imp id λt=>UM D.size t) λc t=>t.elim;refine⟨_, {a with ss:=a.ss.set f {b with e:=h,p:=o}}, {b with e:=h,p:=o},V,λr X=>Ee m u _ _ _ r X,W,TT ..,A.l7,wg m _,wg u _,rfl,by simp,by simp[Nt.i,Nt.g],rfl,E.d ?_,?_⟩;grind;rintro c ⟨Y,Z,j⟩;cases Y with
 |ep=>exact(Z rfl).elim
 |fV=>exact Ur ⟨.fV,by simp,j⟩
 |iB=>exact Ur ⟨.iB,by simp,j⟩
 |gk=>exact Ur ⟨.gk,by simp,j⟩
 |dY=>exact Ur ⟨.dY,by simp,j⟩
 |eY=>exact Ur ⟨.eY,by simp,j⟩
 |cZ y G=>
  obtain⟨s,ab,z⟩:=j;obtain⟨rfl,rfl⟩|⟨_,ac⟩:=lL ab;cases G with
  |ic=>exact Ur ⟨.cZ y .ic,by simp,a,m,z⟩
  |fP=>exact Ur ⟨.cZ y .fP,by simp,a,m,z⟩
  |dX ad=>
   obtain⟨x,af,ag⟩:=z;obtain⟨rfl,rfl⟩|⟨_,ah⟩:=lL af;grind;exact Ur ⟨.cZ y (.dX ad),by simp,a,m,x,ah,ag⟩
  exact Ur ⟨.cZ y G,by simp,s,ac,z⟩
structure sV(l wr:World)(i:Nt)(k:Nat)(g:Sp)(m n:Nat)(h:Nt):Prop where
 c:bn wr h
 e:h.a=(i.a.b k λo=> {o with aD:=[]}).p k (g.n.aD.take n)
 a:du l wr i h
 d:h.aG=λj=>i.aG j\/ag g.p.sa j
 b:dw h.a m
 f:RV wr 197 5 g.p.sa g.n.aD.length g.p.sc (lK g.n.aD)
def sV.i{f wr c d k g h a}(i:sV f wr c k a g h d)(j:c.aK[k]?=S a){e}(n:e<a.ss.length):∃b l,d.aK[k]?=S b/\b.ss[e]?=S l/\b.c=a.c/\b.f=a.f/\b.ss.length=a.ss.length:=by obtain⟨b,o,m⟩:=i.a.j j;obtain⟨_,p,q,_,r⟩:=uC m;simp_all
def sV.h{i wr j f l d e k m g h}(a:sV i wr l k h m g d){b}(t:h.n.aD[g]?=S b){n o}(u:d.aK[k]?=S n)(v:n.ss[b.1]?=S o){c}(p:c.a=d.a.a k b.1 λq=>q.m b.2)(w:du wr j d c)(x:c.aG=d.aG)(y:∀z∈(o.e.m b.2).aA,dx z)(A:bn f e)(r:e.a=c.a.d k b.1)(C:du j f c e)(D:e.aG=c.aG):sV i f l k h m (g+1) e:=by have s:=w.c C;refine⟨A,?_,a.a.c s,(D.trans x).trans a.d,?_,a.f.a s.b λH E=>a.c.o (by rw[a.d];exact Up E)⟩;rw[r,p,a.e,pM t];simp only[AN.p,V5,WE,Xw,AN.o];rw[r,p];exact AU a.b (vM u v) _ (λq G=>Ou G _) y
def sV.g{e wr a b k f d}(c:sV e wr a k d f d.n.aD.length b)(g:a.aK[k]?=S d):
 bn wr {b with aG:=a.aG}/\({b with aG:=a.aG}:Nt).a=a.a.m k/\du e wr a {b with aG:=a.aG}/\dw ({b with aG:=a.aG}:Nt).a f:=by
 refine⟨c.c.n (ae.a aa wr) a.aG (λi h=>Ur (by rw[c.d];exact Ur h)),?_,c.a.l a.aG a.aG,c.b⟩;rw[AT,c.e,Vu,AN.m,AN.O,jH g];rfl
def Ox(e):∀a d,e[a]?=S d->∀b,b<5->(lK e)[a*5+b]?=(uJ d)[b]?:=by
 induction e with
 |nil=>intro a d c;simp at c
 |cons f g h=>
  intro a d c b i;have j:lK (f::g)=uJ f++lK g:=by simp[lK]
  have k:(uJ f).length=5:=rfl;rw[j];cases a with
  |zero=>
   simp only[U8,VO]at c;subst c;rw[Ux (by omega)];simp
  |succ a=>
   simp only[UH]at c;rw[Ut (by omega),k,show (a+1)*5+b-5=a*5+b by omega];exact h a d c b i
def OA{c h i j g}(l:RV c 197 5 h i j (lK g)){k d}(m:g[k]?=S d)(o:k<i):
 ∃a b,h=S ⟨a,b,N⟩/\a<c.heap.size/\c.cell? ⟨a,b+k*5,N⟩=S (.int J d.1)/\c.cell? ⟨a,b+k*5+1,N⟩=S (.int J d.2.a)/\c.cell? ⟨a,b+k*5+2,N⟩=S (.int J d.2.c)/\c.cell? ⟨a,b+k*5+3,N⟩=S (.int J d.2.b)/\c.cell? ⟨a,b+k*5+4,N⟩=S (B d.2.d):=by
 obtain⟨a,b,n,e⟩:=ja l (by omega);have f:=Ox g k d m;refine⟨a,b,n,e.b,e.a _ _ (f 0 (by omega)),?_,?_,?_,?_⟩;rw[UI];exact e.a _ _ (f 1 (by omega));rw[UI];exact e.a _ _ (f 2 (by omega));rw[UI];exact e.a _ _ (f 3 (by omega));rw[UI];exact e.a _ _ (f 4 (by omega))
def sV.j{g f k i b}(j:bn g f)(h:f.aK[k]?=S b)(l:dw f.a i):∃o,sV g (g.setCell ⟨b.b,11,N⟩ (L N 0 0)) f k b i 0 o:=by
 have d:=j.kI k b h;obtain⟨p,m,z⟩:=d.v;obtain⟨q,r⟩:=j.r h {b.n with aD:=[]} {b.p with sa:=N,sc:=0} (ag b.p.sa) p (m.d λe _ a=>Ur a)
  (by rintro e (a|a|a|a);exact Ur (Ur a);exact Ur (Up (Ur a));exact Ur (Up (Up (Ur a)));exact(b8 e a).elim)
  (by intro e a;refine⟨Up (Up (Up a)),?_⟩;rintro (c|c|c|c);subst c;exact d.f a;exact d.l e c a;exact d.m e c a;exact b8 e c)
 have n:=Ef h {b.n with aD:=[]} {b.p with sa:=N,sc:=0} (ag b.p.sa) (λs=> {s with aD:=[]}) rfl;refine⟨_,q,by rw[n];rfl,r,rfl,?_,?_⟩;rw[n];refine AW l (UF _) k _ λt u=>?_;obtain⟨v,A,w⟩:=l.a k t u;exact⟨Hq v,rfl,w⟩;exact d.j.a m λx y a=>d.f ((show x=b.b from a)▸y)
def GW(c)(k:Nat)(a aj l)(q:bn l c)(y:c.aK[k]?=S a)(ak:dw c.a aj)(D:(a.n.aD.length:Int)<1000000000000):
 Cr 64 #[P (S ⟨c.nb,0,N⟩),.int J k] l (.tuple #[]) λaP=>∃E,bn aP E/\E.a=c.a.m k/\du l aP c E/\E.aG=c.aG/\dw E.a aj:=by
 obtain⟨aQ,aR,ar,bk,au,G⟩:=q.d y;have bl:=(Ul.1 y).1;have av:=q.i;have aS:=q.fq.b;have bm:c.aK.length<=1000:=by have:=ak.d;simpa [Nt.a]using this
 rw[ar]at av;have z:=@lP _ _ _ _ _ q y ak D ar;have aw(_:=()):∀m,ae aa l m->_:=λm ax=>PZ a.b a.n a.p m ((q.kI k a y).b ax λ_ _ r=>r);have aT:=@af _ (sV.j q y ak);have bY:(k:Int)<c.aK.length:=by omega
 have bZ:(k:Int)<2000:=by omega
 obtain⟨bo,ay⟩:=ah c.nb;obtain⟨A,az⟩:=ah a.n.aD.length;have H:=@aC _ _ ay az;rw[<-az]at aw;rw[<-ay]at av aS|-;clear q y ak D bl ar ay az bm;go_enter func64,ntmps64;go_wp2_with fail;refine Uq (aw () _ (ae.a aa l)) ?_;rintro aU m ⟨rfl,rfl⟩;obtain⟨b0,aV⟩:=ah (l.setCell ⟨a.b,11,N⟩ (L N 0 0));rw[<-aV]at aT|-;clear aw av bk aS au G aV;go_wp2_with fail;go_loopw [19] (λaA wr=>∃(d:Nat)(h:Nt),d<=A/\aA= .int J d/\sV l wr c k a aj d h) λaA _=>A-(intOf aA).toNat;case atStart=>
  obtain⟨h,e⟩:=aT;exact⟨0,h,by omega,rfl,e⟩
 case round=>
  obtain⟨d,h,aB,rfl,e⟩:=hrel;have K:=@aC _ _ e aB;by_cases M:d<A
  .have aW:=@af _ M;have bp:(d:Int)<A:=by omega
   have b1:(d:Int)<1000000000000:=by have:=z.2.2.2.1;rw[<-H.2]at this;omega
   obtain⟨f,al⟩:∃f,a.n.aD[d]?=S f:=⟨_,Um (by rw[<-H.2];exact M)⟩
   have bq:=@af _ al;obtain⟨aD,aE,br⟩:=z.2.2.1.a k a.a (jH z.2.1);have aX:f.1<a.ss.length:=by
    have aF:=aD.b.b f (Uo al);have O:a.n.ai.length=a.ss.length:=by simpa [Sp.a]using aE
    have bs:a.a.n.ai.length=a.n.ai.length:=rfl;omega
   have aY:(a.ss.length:Int)<1000:=by
    have O:a.n.ai.length=a.ss.length:=by simpa [Sp.a]using aE
    have:=aD.a.a.a;have bs:a.a.n.ai.length=a.n.ai.length:=rfl;omega
   obtain⟨am,i,Q,an,bt,bu,D⟩:=e.i z.2.1 aX;obtain⟨bv,bw,bx,aZ,bz,bA,a0,a1⟩:=e.c.m Q an;obtain⟨bB,bC,a2,a3,au,G⟩:=e.c.d Q;have bD:S (⟨aQ,aR,N⟩:Addr)=S ⟨bB,bC,N⟩:=by rw[<-z.2.2.2.2,<-e.a.e];exact a2
   cases bD;obtain⟨b2,b3,a4,bE,a5,a6,a7,a8,a9⟩:=OA e.f al (by rw[<-H.2];exact M);rw[aZ]at G;have C:=@gA _ _ _ _ Q an aY D;have ao(_:=()):∀m,ae aa wr m->_:=λm ax=>OG bx 181 bv (bw+f.1*25+1) i.e i.p f.2 m (a0.a ax λ_ _ r=>r) (by have:=e.b.c k am.a (jH Q) f.1 i.b (by simp[Sp.a,an]);have O:i.e.aA=[]:=this;rw[O];simp);have bF:(f.1:Int)<am.ss.length:=by omega
   have bG:(f.1:Int)<1000:=by omega
   simp only[mv]at ao;obtain⟨n,bH⟩:=f;obtain⟨s,t,u,v⟩:=bH;simp only at a5 a6 a7 a8 a9 ao bF bG;have aG:=@af _ a1;clear aB M e al aX aD aE br bA a0 a1 a2 au Q an bt aZ bu D aY;rw[a4];go_wp2_with fail;obtain⟨g,ap⟩:=ah (wr.alloc (Obj.cells #[I J n,I J s,I J t,I J u,B v] 197));have aH:ae aa wr g:=by rw[ap];exact(ae.a aa wr).b _
   have o:aq g wr.heap.size #[I J n,I J s,I J t,I J u,B v] 197:=by rw[ap];exact aq.e _ _ _
   rw[<-ap];have bI:=(aH.f aQ (aR+k*2+1) a3 id).trans G;obtain⟨w,aI⟩:=ah wr.heap.size;rw[<-aI]at o|-;have ba:g.cell? ⟨w,0,N⟩=S (I J n):=by rw[o.a];rfl
   have bJ:g.cell? ⟨w,1,N⟩=S (I J s):=by rw[o.a];rfl
   have bK:g.cell? ⟨w,2,N⟩=S (I J t):=by rw[o.a];rfl
   have bL:g.cell? ⟨w,3,N⟩=S (I J u):=by rw[o.a];rfl
   have bM:g.cell? ⟨w,4,N⟩=S (B v):=by rw[o.a];rfl
   have R:=@cf _ _ _ aI aH o.b;clear ap aH o G a5 a6 a7 a8 a9 bE a3 bz aI a4;go_still_tail 10,(by kernel_rfl)
   go_wp2_with fail;refine Uq (ao () g.drew (R.2.1.drew)) ?_;rintro aU j ⟨b4,rfl,bb,aJ,aK⟩;obtain⟨b,p,x,aL⟩:∃b p x,Unit->bn j b/\b.a=h.a.a k n (λr=>r.m ⟨s,t,u,v⟩)/\du wr j h b/\b.aG=h.aG/\(∀bN∈(i.e.m ⟨s,t,u,v⟩).aA,dx bN)/\b.aK[k]?=S p/\p.ss[n]?=S x/\x.e=i.e.m ⟨s,t,u,v⟩/\p.ss.length=am.ss.length/\b.aK.length=h.aK.length/\b.aS=h.aS:=by obtain⟨b,p,x,U,V,W,X,Y,Z,ab,ac,ad,ag,ai,bc,bO⟩:=aG () g.drew j _ bb R.2.1.drew aJ aK;exact⟨b,p,x,λ_=>⟨U,V _ rfl,W,X,Y,Z,ab,ac,ad,ag,ai⟩⟩
   have bd:j.cell? ⟨w,0,N⟩=S (I J n):=by obtain⟨b,p,x,U,V,W,X,Y,Z,ab,ac,ad,ag,ai,bc,bO⟩:=aG () g.drew j _ bb R.2.1.drew aJ aK;exact(bc.f w 0 R.2.2 (by rw[R.1];exact Nat.lt_irrefl _)).trans ba
   have bP:=UL j _ bd;have aM(_:=()):∀aN,ae aa j aN->_:=λaN bQ=>by obtain⟨U,V,W,X,Y,Z,ab,ac,ad,ag,ai⟩:=aL ();have aO:=K.1.b;refine A5 b k n p x aN (U.a bQ λ_ _ r=>r) Z ab ?_ ?_ ?_ ?_;rw[ai];have:=aO.b;rw[bn.b.1]at this;omega;rw[ag];have:=aO.d;rw[bn.b.2]at this;omega;rw[ad,C.2.2.2];have:=C.2.2.1;omega;rw[ac];have aF:=TH i.e ⟨s,t,u,v⟩;have O:i.e.aA=[]:=aO.c k am.a (jH C.1) n i.b (by have:=C.2.1;simp[Sp.a,this]);rw[O]at aF;simp only[VD]at aF;omega
   have be:b.nb=bo:=by rw[H.1,(aL ()).2.2.1.a,K.1.a.a]
   rw[be]at aM;clear aG ao aJ aK ba bJ bK bL bM bI be;go_wp2_with fail;refine Uq (aM () j (ae.a aa j)) ?_;rintro aU bR ⟨rfl,bf,bg,bh,bi,bj⟩;have bS(_:=()):sV l bR c k a aj (d+1) bf:=by obtain⟨U,V,W,X,Y,Z,ab,ac,ad,ag,ai⟩:=aL ();exact K.1.h bq C.1 C.2.1 V W X Y bg bh bi bj
   clear aM bd bP bg bh bi bj;go_wp2;exact⟨⟨d+1,bf,by have:=aW;omega,by go_num,bS⟩,by have:=aW;simp[intOf];omega⟩
  .have bT(_:=()):d=A:=by have:=K.2;omega
   have bp:¬((d:Int)<A):=by omega
   clear aB M e;go_wp2;go_end0;obtain⟨bU,bV,bW,bX⟩:=sV.g (by have:=K.1;rw[bT,H.2]at this;exact this) z.2.1;exact⟨rfl,_,bU,bV,bW,rfl,bX⟩
def bn.v{h b}(q:bn h b){k a}(i:b.aK[k]?=S a):
 aY h a.b a.n a.p/\∀l e f j,ae aa h l->aY e a.b f j->pq l e a.b a.p j->
  ∃c m,bn e c/\(∀o,o a.n=f->c.a=b.a.b k o)/\du h e b c/\c.aG=b.aG/\c.aK[k]?=S m/\m.n=f/\m.ss=a.ss/\m.c=a.c/\c.aK.length=b.aK.length/\c.aS=b.aS/\ae (λg=>g<h.heap.size) l e:=by
 refine⟨q.kI k a i,λl e f j s t r=>?_⟩;obtain⟨u,v⟩:=q.r i f j (λ_=>False) t ((s.d λ_ _ d=>d.elim).c r.a) (λg w=>(r.b g w).imp id λd=>UM s.size d) λg d=>d.elim;exact⟨_, {a with n:=f,p:=j},u,λo x=>Ef i _ _ _ o x,v,TU ..,wg i _,rfl,rfl,rfl,by simp[Nt.j,Nt.g],rfl,r.a.d λg _ d=>((q.kI k a i).n) g d⟩
def bn.j{b a}(c:bn b a)(k):Cr 62 #[P (S ⟨a.nb,0,N⟩),.int J k] b (B (decide (0<=k/\k<(a.aK.length:Int)))) λd=>ae aa b d:=
 NJ a.nb 0 a.f a.aK.length a.e k b (by rw[Ve];exact c.i) c.fq.b
def AN.c(a:AN):List ay:=a.bd.map AS.n
def jb(b:AN):Prop:=∀(c:Nat)(a:ay),b.c[c]?=S a->a.aD=[]
def tv(a:AN)(b c d):(a.a b c d).c=a.c:=yM _ _ _ _ λe=>rfl
def uR(a:AN)(b c):(a.b b c).c=a.c.modify b c:=by
 apply Vc;intro d;simp only[AN.c,AN.b,Uz,VE];cases a.bd[d]? with
 |none=>simp
 |some f=>by_cases e:b=d<;>simp[e]
def PV(b t c):∀a:AN,(a.l b t c).c=a.c:=by
 induction c with
 |nil=>intro a;rfl
 |cons f d e=>
  intro a;show ((a.j _).l b t d).c=_;rw[e];unfold AN.c;rw[(qj a _).1]
def uQ(a:AN)(b c):(a.d b c).c=a.c:=by unfold AN.d;split;rfl;rw[PV,tv]
def BL(b c):∀a:AN,(a.p b c).c=a.c:=by
 induction c with
 |nil=>intro a;rfl
 |cons d e f=>
  intro a;show ((a.o b d).p b e).c=_;rw[f];unfold AN.o;rw[uQ,tv]
def KV(d:AN)(k)(e:∀a b,a≠k->d.c[a]?=S b->b.aD=[]):jb (d.m k):=by intro a b c;unfold AN.m at c;rw[BL,uR]at c;obtain⟨f,g,rfl⟩:=km c;split;rfl;rename_i h;exact e a f (λi=>h i.symm) g
def Eu(a k c)(d:jb a):jb ((a.b k c).m k):=by refine KV _ k λe j f b=>?_;rw[uR]at b;obtain⟨g,h,rfl⟩:=km b;rw[Us λi=>f i.symm];exact d e g h
def jb.a{b:Nt}(c:jb b.a){k:Nat}{a}(d:b.aK[k]?=S a):a.n.aD=[]:=c k a.n (by simp[AN.c,Nt.a,d,Sp.a])
def KF{b c}(d:dw b c)(k):dw (b.b k ay.b) c:=by refine AW d (UF _) k _ λa e=>?_;obtain⟨f,h,g⟩:=d.a k a e;exact⟨In _ f,(uE a.n).c,by rw[(uE a.n).d];exact g⟩
def PA(a)(k:Nat)(d p i)(q:bn i a)(j:a.aK[k]?=S d)(u:dw a.a p)(v:jb a.a):
 Cr 31 #[P (S ⟨a.nb,0,N⟩),.int J k] i (.int J 0) λw=>∃b,bn w b/\b.a=a.a.D k/\du i w a b/\b.aG=a.aG/\dw b.a p/\jb b.a:=by
 have O:=(Ul.1 j).1;have aq:(k:Int)<a.aK.length:=by omega
 have x:=@af _ (q.j (k:Int));have e:=@gA _ _ _ _ q j u v;have y(_:=()):∀c,ae aa i c->∃g l,c.cell? ⟨a.nb,1,N⟩=S (L (S ⟨g,l,N⟩) a.aK.length a.e)/\a.nb<c.heap.size/\g<c.heap.size/\c.cell? ⟨g,l+k*2,N⟩=S (P (S ⟨d.b,0,N⟩))/\d.b<c.heap.size:=λc m=>by have f:=q.a m λ_ _ n=>n;obtain⟨g,l,Q,z,A,ar⟩:=f.d j;have s:=f.i;rw[Q]at s;exact⟨g,l,s,f.fq.b,z,A,(f.kI k d j).a.b⟩
 obtain⟨R,t⟩:=ah a.nb;have U:=@af _ t;rw[<-t]at x y|-;clear q j u v O t;go_enter func31,ntmps31;go_wp2_with fail;refine Uq x ?_;rintro C c ⟨rfl,m⟩;obtain⟨g,l,s,au,z,A,av⟩:=y () c m;go_wp2_with fail;obtain⟨V,W⟩:=e.1.v e.2.1;have D:=e.2.2.2.a e.2.1;refine Uq (Cw d.b d.n d.p c (V.b ((@af _ m) ()) λ_ _ n=>n) ((e.2.2.1.a k d.a (jH e.2.1)).1).a.a (by rw[D];simp)) ?_;rintro C r ⟨rfl,X,Y,Z⟩;obtain⟨E,ab,G,ac,H,ad,ag,ai,aw,ax,ay,az,aA⟩:=W c r _ X ((@af _ m) ()) Y Z.g;have o:=@gA _ _ _ _ G (ac _ rfl) H ad;have K(_:=()):∀h,ae aa r h->_:=λh aj=>GW E k ab p h (G.a aj λ_ _ n=>n) ag (by rw[o.2.1];exact KF e.2.2.1 k) (by rw[ai];have f:=(uE d.n).g;rw[D]at f;simp only[VD]at f;omega)
 have ak:E.nb=R:=by rw[H.a,U]
 rw[ak]at K;go_wp2_with fail;refine Uq (K () r (ae.a aa r)) ?_;rintro C h ⟨rfl,b,al,M,am,an,ao⟩;have ap(_:=()):bn h b/\b.a=a.a.D k/\du i h a b/\b.aG=a.aG/\dw b.a p/\jb b.a:=
  ⟨al,by rw[M,o.2.1];rfl,o.2.2.1.c am,an.trans o.2.2.2,ao,by rw[M,o.2.1];exact Eu _ k _ e.2.2.2⟩
 go_wp2;go_ret;exact⟨rfl,b,ap⟩
def s7{a:Nt}{k:Nat}{b}(c:a.aS[k]?=S b):a.a.fu[k]?=S b.f:=by simp[Nt.a,c]
def AV{b c}(a:dw b c)(k):dw (b.f k) c:=
 ⟨a.d,a.a,a.c,a.f,by have:=a.b;have:=List.length_eraseIdx_le b.fu k;show (b.fu.eraseIdx k).length<=300;omega,λd e=>a.e d (Vx e),a.g⟩
def bn.q{h w' a}(d:bn h a){k b}(o:a.aS[k]?=S b)(s:mS w' a.nb 2 (a.aS.eraseIdx k) a.ba a.bc)(p:qA h w' a.nb 2 a.ba a.ba (L a.ba (a.aS.length-1) a.bc)):
 bn w' (a.h (a.aS.eraseIdx k) a.ba a.bc a.aG)/\du h w' a (a.h (a.aS.eraseIdx k) a.ba a.bc a.aG)/\(a.h (a.aS.eraseIdx k) a.ba a.bc a.aG).a=a.a.f k/\jw w' b.g b.l b.c/\¬(a.h (a.aS.eraseIdx k) a.ba a.bc a.aG).c b.g:=by
 have t:(a.aS.eraseIdx k).length=a.aS.length-1:=by rw[List.length_eraseIdx,UG (Ul.1 o).1]
 rw[<-t]at p;obtain⟨u,v⟩:=d.p (a.aS.eraseIdx k) a.ba a.bc a.aG s p (λe f=>Ur (Vx f)) (d.oz.sublist (List.eraseIdx_sublist ..))
  (λr l=>⟨l,λe f c=>by have:=d.fk .ep .eY r l ⟨e,Vx f,c⟩;cases this⟩)
 have w:=v h a (du.q h a) λe f=>Ur (Vx f);have m:=Uo o;refine⟨u,w,?_,?_,?_⟩;simp only[Nt.a,Nt.h,AN.f,Vo,Vm,XR,List.map_drop];refine(d.l5 b m).a p.a λr l c=>?_;rw[cM.1 l]at c;obtain c|c:=c;have:=d.fk .eY .fV b.g ⟨b,m,rfl⟩ c;cases this;have:=d.fk .eY .dY b.g ⟨b,m,rfl⟩ c;cases this;rintro⟨x,y,g⟩;have i:∀n,a.b n b.g->n= .eY:=λn j=>d.fk n .eY b.g j ⟨b,m,rfl⟩;cases x with
 |ep=>exact y rfl
 |fV=>have:=i .fV g;cases this
 |iB=>have:=i .iB g;cases this
 |gk=>have:=i .gk g;cases this
 |dY=>have:=i .dY g;cases this
 |cZ z A=>have:=i (.cZ z A) g;cases this
 |eY=>
  obtain⟨e,f,c⟩:=g;have q:=d.oz;have C:a.aS=a.aS.take k++b::a.aS.drop (k+1):=by obtain⟨D,E⟩:=Ul.1 o;rw[<-E,<-VY D,Vd]
  rw[C,Wg,WD]at q;have G:e∈a.aS.take k++a.aS.drop (k+1):=by have:a.aS.eraseIdx k=a.aS.take k++a.aS.drop (k+1):=Vo ..;rw[<-this];exact f
  obtain j|j:=UP.1 G;exact q.2.2 e j b (WX ..) c;exact q.2.1.1 e j c.symm
def Pb(a k b)(c:bn b a)(f:¬(0<=k/\k<(a.aS.length:Int))):
 Cr 68 #[P (S ⟨a.nb,0,N⟩),.int J k] b (.int J 7) λh=>ae aa b h:=by
 have d(_:=()):∀e,_:=λe=>rY a.ba a.aS.length a.bc k e;rw[U7 f]at d;have j:=c.c;have l:=c.fq.b;generalize a.nb=nb at *;clear c f;go_enter func68,ntmps68;go_wp2_with fail;refine Uq (d () _) ?_;rintro m e ⟨rfl,g⟩;have i:=@af _ g;clear g d;go_wp2;go_ret;exact⟨rfl,i⟩
def Pc(a)(k:Nat)(u h d)(e:bn d a)(g:a.aS[k]?=S u)(i:dw a.a h):
 Cr 68 #[P (S ⟨a.nb,0,N⟩),.int J k] d (.int J 0) λv=>∃b,bn v b/\b.a=a.a.f k/\du d v a b/\b.aG=a.aG/\dw b.a h:=by
 have A:=(Ul.1 g).1;have w:(a.aS.length:Int)<=300:=by have:=i.b;rw[bn.b.1]at this;omega
 have j(_:=()):∀c,_:=λc=>rY a.ba a.aS.length a.bc (k:Int) c;rw[U4 (p:=0<=(k:Int)/\(k:Int)<a.aS.length) ⟨by omega,by omega⟩]at j;have l:=@cf _ _ _ e g i;have m(_:=()):∀c,ae aa d c->_:=λc f=>Ez a.nb 2 a.aS a.ba a.bc k u c ((e.a f λ_ _ n=>n).f) g w;have x:=e.c;have o:=e.fq.b;obtain⟨O,q⟩:=ah a.nb;have C:=@af _ q;rw[<-q]at m x o|-;clear e g i A w q;go_enter func68,ntmps68;go_wp2_with fail;refine Uq (j () _) ?_;rintro D c ⟨rfl,f⟩;have r:=@af _ f;have E:=Un o f.size;clear f j x o;go_wp2_with fail;refine Uq (m () c r) ?_;rintro D y ⟨rfl,s,t⟩;have G(_:=()):∃b,bn y b/\b.a=a.a.f k/\du d y a b/\b.aG=a.aG/\dw b.a h:=by have H:=l.1.a r λ_ _ n=>n;rw[C]at s t;obtain⟨K,M,z,_,_⟩:=H.q l.2.1 s t;exact⟨_,K,z,(du.g a r).c M,rfl,by rw[z];exact AV l.2.2 k⟩
 clear s t m E;go_wp2;go_ret;exact⟨rfl,G⟩
def OU(a k b)(c:bn b a)(f:¬(0<=k/\k<(a.aS.length:Int))):
 Cr 69 #[P (S ⟨a.nb,0,N⟩),.int J k] b (.int J 7) λh=>ae aa b h:=by
 have d(_:=()):∀e,_:=λe=>rY a.ba a.aS.length a.bc k e;rw[U7 f]at d;have j:=c.c;have l:=c.fq.b;generalize a.nb=nb at *;clear c f;go_enter func69,ntmps69;go_wp2_with fail;refine Uq (d () _) ?_;rintro m e ⟨rfl,g⟩;have i:=@af _ g;clear g d;go_wp2;go_ret;exact⟨rfl,i⟩
def bn.w{e w1 j a}(f:bn e a)(o:ae aa e w1)(b)(p:jw w1 b.g b.l b.c)(q:e.heap.size<=b.g)(g k)(r:mS j a.nb 2 (jo a.aS b) g k)(s:qA w1 j a.nb 2 a.ba g (L g (jo a.aS b).length k)):
 ∃l,bn j l/\l.a=a.a.j b.f/\du e j a l/\l.aG=a.aG:=by
 have t:=p.b b.g (eN _ _);have u:=f.n o (λc=>a.aG c\/c=b.g) λc h=>by obtain d|d:=h;exact Ur d;rw[d];exact Up ⟨q,t⟩
 have v:∀m∈a.aS,m.g≠b.g:=λm w d=>by have:=(f.l5 m w).b m.g (eN _ _);omega
 obtain⟨x,y⟩:=u.p (jo a.aS b) g k a.aG r s
  (λn i=>by obtain d|rfl:=uO i;exact Ur d;exact Up ⟨Up rfl,p⟩)
  (Ex f.oz v)
  (λc h=>⟨Ur h,λn i d=>by obtain z|rfl:=uO i;have:=f.fk .ep .eY c h ⟨n,z,d⟩;cases this;have:=f.oA c h;omega⟩)
 have A:du e w1 a {a with aG:=λc=>a.aG c\/c=b.g}:=(du.g a o).l a.aG _;refine⟨_,x,?_,y e a A λn i=>?_,rfl⟩;exact Eb {a with aG:=λc=>a.aG c\/c=b.g} b g k a.aG;obtain d|rfl:=uO i;exact Ur d;exact Up (Up q)
def bn.h{b:Nt}{e k:Nat}{a}(f:dw b.a e)(g:b.aS[k]?=S a):0<a.l.length/\(a.l.length:Int)<1000/\(∀h∈a.l,h<256):=by obtain⟨c,d,i,_⟩:=f.e a.f (Uo (s7 g));have j:a.f.l=a.l:=rfl;rw[j]at c d i;exact⟨d,by omega,c⟩
def OV(a)(k:Nat)(e D h)(i:bn h a)(j:a.aS[k]?=S e)(t:dw a.a D):
 Cr 69 #[P (S ⟨a.nb,0,N⟩),.int J k] h (.int J 0) λu=>∃c,bn u c/\c.a=a.a.q k/\du h u a c/\c.aG=a.aG/\dw c.a D:=by
 have ao:=(Ul.1 j).1;have U:(a.aS.length:Int)<=300:=by have:=t.b;rw[bn.b.1]at this;omega
 have aK:(k:Int)<1000:=by omega
 have aL:(k:Int)<a.aS.length:=by omega
 have E(_:=()):∀b,_:=λb=>rY a.ba a.aS.length a.bc (k:Int) b;rw[U4 (p:=0<=(k:Int)/\(k:Int)<a.aS.length) ⟨by omega,by omega⟩]at E;have v:=@cf _ _ _ i j t;have G(_:=()):∀b,ae aa h b->∃d f,a.ba=S ⟨d,f,N⟩/\d<b.heap.size/\a.nb<b.heap.size/\b.cell? ⟨a.nb,2,N⟩=S (L (S ⟨d,f,N⟩) a.aS.length a.bc)/\b.cell? ⟨d,f+k*4,N⟩=S (I J e.e)/\b.cell? ⟨d,f+k*4+1,N⟩=S (I J e.a)/\b.cell? ⟨d,f+k*4+2,N⟩=S e.b/\b.cell? ⟨d,f+k*4+3,N⟩=S (B e.sp):=λb g=>by have H:=i.a g λ_ _ w=>w;obtain⟨d,f,V,ap,aq,ar,au,av⟩:=H.f.b k e j;exact⟨d,f,V,ap,H.fq.b,by rw[<-V];exact H.c,aq,ar,au,av⟩
 have z(_:=()):∀b,ae aa h b->_:=λb g=>Ku e b ((i.l5 e (Uo j)).a g λ_ _ w=>w) (bn.h t j).1 (bn.h t j).2.1;have A(_:=()):∀(b:World)(W:Pk),ae aa h b->_:=λb W g=>Ey a.nb 2 a.aS a.ba a.bc W b ((i.a g λ_ _ w=>w).f) U;have X:=i.c;have Y:=i.fq.b;obtain⟨K,M⟩:=ah a.nb;have aw:=@af _ M;rw[<-M]at G A X Y|-;clear i j t ao U M;go_enter func69,ntmps69;go_wp2_with fail;refine Uq (E () _) ?_;rintro Z b ⟨rfl,g⟩;have x:=@af _ g;obtain⟨d,f,ax,ay,az,aA,ab,ac,O,ad⟩:=G () b g;obtain⟨n,o,q,aB,aC,r⟩:=e;simp only[Pk.b,so]at ab ac O ad z A;generalize ag:q.length=xln at O z;have aD:=@af _ ag;clear g E X Y G ax ag;go_wp2_with fail;have ai(_:=()):∀(s:World)(l m:Nat),ae aa b.drew s->Cr 120 #[P (S ⟨K,2,N⟩),.agg #[I J n,I J o,L (S ⟨l,0,N⟩) xln m,B r]] s (.tuple #[]) λu=>∃y C,mS u K 2 (jo a.aS ⟨n,o,q,l,m,r⟩) y C/\qA s u K 2 a.ba y (L y (jo a.aS ⟨n,o,q,l,m,r⟩).length C):=λs l m aE=>by have:=A () s ⟨n,o,q,l,m,r⟩ (x.drew.c aE);simp only[aD ()]at this;exact this
 clear A;go_region_with (first|(go_at_call 121;refine(z () _ (by first|exact x.drew|exact x)).mono ?_;rintro Z s ⟨l,m,rfl,aj,ak,al⟩)|(go_at_call 120;refine(ai () _ _ _ (by assumption)).mono ?_;rintro Z am ⟨rfl,y,C,Q,R⟩));have aF(_:=()):∃c,bn am c/\c.a=a.a.q k/\du h am a c/\c.aG=a.aG/\dw c.a D:=by
  rw[aw]at Q R;obtain⟨c,aG,an,aH,aI⟩:=v.1.w (x.drew.c ak) ⟨n,o,q,l,m,r⟩ aj (UM x.drew.size al) y C Q R;have aJ:c.a=a.a.q k:=by rw[an,AN.q,s7 v.2.1];rfl
  refine⟨c,aG,aJ,aH,aI,?_⟩;rw[an];exact Eo v.2.2 (v.2.2.e (⟨n,o,q,aB,aC,r⟩:Pk).f (Uo (s7 v.2.1)))
 clear Q R ai z aj ak al aA ab ac O ad ay az;go_wp2;go_ret;exact⟨rfl,aF⟩
def O9(g)(k:Nat)(d aI e)(A:bn e g)(n:g.aK[k]?=S d)(K:dw g.a aI):
 Calls prog 38 #[P (S ⟨g.nb,0,N⟩),.int J k] e λM ad=>∃f h,M= .returned (.tuple #[oS d.n f h,.int J 0])/\RV ad 3 1 f d.n.ai.length h (gT (d.n.ai.map (·.2)))/\ae aa e ad/\∀i,ag f i->e.heap.size<=i:=by
 have aJ:=(Ul.1 n).1;have a2:(k:Int)<2000:=by have:=K.d;rw[bn.b.2]at this;omega
 have a3:(k:Int)<g.aK.length:=by omega
 have C(_:=()):∀a,ae aa e a->_:=λa j=>(A.a j λ_ _ l=>l).j (k:Int);rw[U4 (p:=0<=(k:Int)/\(k:Int)<g.aK.length) ⟨by omega,by omega⟩]at C;have O(_:=()):∀a,ae aa e a->∃o y,a.cell? ⟨g.nb,1,N⟩=S (L (S ⟨o,y,N⟩) g.aK.length g.e)/\g.nb<a.heap.size/\o<a.heap.size/\a.cell? ⟨o,y+k*2,N⟩=S (P (S ⟨d.b,0,N⟩))/\d.b<a.heap.size:=λa j=>by have q:=A.a j λ_ _ l=>l;obtain⟨o,y,aK,Q,R,a4⟩:=q.d n;have D:=q.i;rw[aK]at D;exact⟨o,y,D,q.fq.b,Q,R,(q.kI k d n).a.b⟩
 have ai(_:=()):∀a,ae aa e a->_:=λa j=>PR d.b d.n d.p a ((A.kI k d n).b j λ_ _ l=>l) (by have q:=(K.a k d.a (jH n)).1.a.a.a;exact q)
 obtain⟨a5,aj⟩:=ah g.nb;rw[<-aj]at C O|-;clear A n K aJ aj;go_enter func38,ntmps38;go_wp2_with fail;obtain⟨U,E⟩:=ah (e.alloc (.cells #[I J 0,I J 0,I J 0,B F,I J 0,L N 0 0] 50));have V:ae aa e U:=by rw[E];exact(ae.a aa e).b _
 have ak:aq U e.heap.size #[I J 0,I J 0,I J 0,B F,I J 0,L N 0 0] 50:=by rw[E];exact aq.e _ _ _
 rw[<-E];refine Uq (C () U V) ?_;rintro M a ⟨rfl,j⟩;have al:=ak.c j id;have W:=V.c j;obtain⟨o,y,D,aL,Q,R,aM⟩:=O () a W;have X:=@af _ W;obtain⟨b,Y⟩:=ah e.heap.size;rw[<-Y]at al|-;have G:=@aC _ _ al Y;clear C O j V W ak E Y;go_wp2_with fail;refine Uq (ai () a X) ?_;rintro M Z ⟨f,h,rfl,am,ab,an⟩;have c:=G.1.c ab id;have aN:=@lP _ _ _ _ _ am (X.c ab) an (G.1.b) (G.2);have ao:=c.a 0;have ar:=c.a 1;have au:=c.a 2;have av:=c.a 3;have aw:=c.a 4;have ax:=c.a 5;have aO:=c.d 0;have aP:=c.d 1;have aQ:=c.d 2;have aR:=c.d 3;have aS:=c.d 4;have aT:=c.d 5;have aU:=c.b;have aV:=@af _ c;simp only[V4,UN,U8,UH]at ao ar au av aw ax;obtain⟨aW,aX⟩:=ah (oS d.n f h);obtain⟨r,s,t,u,w,x,ac⟩:∃(r s t:Nat)(u:Bool)(w x:Nat),oS d.n f h= .agg #[.int J r,.int J s,.int J t,B u,.int J w,L f x h]:=⟨_,_,_,_,_,_,rfl⟩
 have aY:=@af _ ac;rw[ac];clear am ab an c ai D R aM aL Q G aX aW ac;go_wp2;obtain⟨ay,H⟩:=ah ((((((Z.setCell ⟨b,0,N⟩ (I J r)).setCell ⟨b,1,N⟩ (I J s)).setCell ⟨b,2,N⟩ (I J t)).setCell ⟨b,3,N⟩ (B u)).setCell ⟨b,4,N⟩ (I J w)).setCell ⟨b,5,N⟩ (L f x h));have m:aq ay b #[I J r,I J s,I J t,B u,I J w,L f x h] 50:=by have:=(((((aV.f 0 (I J r)).f 1 (I J s)).f 2 (I J t)).f 3 (B u)).f 4 (I J w)).f 5 (L f x h);rw[<-H]at this;exact this
 have az(_:=()):ae (ap b) Z ay:=by rw[H];exact((((((ae.a (ap b) Z).e (p:=⟨b,0,N⟩) (λ_=>rfl) _).e (p:=⟨b,1,N⟩) (λ_=>rfl) _).e (p:=⟨b,2,N⟩) (λ_=>rfl) _).e (p:=⟨b,3,N⟩) (λ_=>rfl) _).e (p:=⟨b,4,N⟩) (λ_=>rfl) _).e (p:=⟨b,5,N⟩) (λ_=>rfl) _
 rw[<-H];have aA:=m.a 0;have aB:=m.a 1;have aD:=m.a 2;have aE:=m.a 3;have aF:=m.a 4;have aG:=m.a 5;simp only[V4,UN,U8,UH]at aA aB aD aE aF aG;clear ao ar au av aw ax aO aP aQ aR aS aT aU H m;refine UO (v:= .tuple #[.agg #[I J r,I J s,I J t,B u,I J w,L f x h],I J 0]) (by simp[results,results38,go_sem,aA,aB,aD,aE,aF,aG]) rfl ?_;obtain⟨aZ,a0,aH,a6,a1⟩:=aN;refine⟨f,h,by rw[aY],aZ.a az λi z l=>?_,?_,λi z=>UM X.size (aH i z)⟩;have:=aH i z;rw[show i=b from l]at this;omega;exact a0.g az λi z l=>by rw[show i=b from l,a1]at z;omega
structure uv(h wr:World)(g:Nt)(k:Nat)(i j:Nat)(f:Nt):Prop where
 c:bn wr f
 d:f.a=g.a.v k j
 a:du h wr g f
 e:f.aG=g.aG
 b:dw f.a i
def uv.g{e wr c d k f g b}(h:uv e wr c k f g d)(i:c.aK[k]?=S b){j}(r:j<b.ss.length):∃a l,d.aK[k]?=S a/\a.ss[j]?=S l/\a.c=b.c/\a.f=b.f/\a.ss.length=b.ss.length:=by obtain⟨a,m,n⟩:=h.a.j i;obtain⟨_,o,p,_,q⟩:=uC n;exact⟨a,_,m,Um (by omega),o,p,q⟩
def uv.f{g wr h f i b a c k j d}(e:uv g wr i k j d b){l m}(p:b.aK[k]?=S l)(q:l.ss[d]?=S m)(n:a.a=b.a.a k d En.o)(r:du wr h b a)(s:a.aG=b.aG)(t:∀u∈m.e.o.aA,dx u)(v:bn f c)(o:c.a=a.a.d k d)(w:du h f a c)(x:c.aG=a.aG):uv g f i k j (d+1) c:=by refine⟨v,?_,e.a.c (r.c w),(x.trans s).trans e.e,?_⟩;rw[o,n,e.d];simp only[AN.v,Wt,V5,WE,Xw,AN.A];rw[o,n];exact AU e.b (vM p q) _ (λz y=>Ot y) t
def Gx(k)(b:AN)(a):(b.v k a).c=b.c:=by
 induction a with
 |zero=>rfl
 |succ a c=>
  have:b.v k (a+1)=(b.v k a).A k a:=by simp only[AN.v,Wt,V5,WE,Xw]
  rw[this,AN.A,uQ,tv,c]
def Pu(a)(k:Nat)(d z q)(M:bn q a)(A:a.aK[k]?=S d)(O:dw a.a z)(aI:jb a.a):
 Cr 66 #[P (S ⟨a.nb,0,N⟩),.int J k] q (.int J 0) λaJ=>∃u,bn aJ u/\u.a=a.a.y k/\du q aJ a u/\u.aG=a.aG/\dw u.a z/\jb u.a:=by
 have a5:=(Ul.1 A).1;have bq:(k:Int)<2000:=by have:=O.d;rw[bn.b.2]at this;omega
 have br:(k:Int)<a.aK.length:=by omega
 obtain⟨aK,aL,a6⟩:=O.a k d.a (jH A);have aM:(d.ss.length:Int)<1000:=by
  have Q:d.n.ai.length=d.ss.length:=by simpa [Sp.a]using aL
  have:=aK.a.a.a;have bs:d.a.n.ai.length=d.n.ai.length:=rfl;omega
 have R:=@af _ (M.j (k:Int));rw[U4 (p:=0<=(k:Int)/\(k:Int)<a.aK.length) ⟨by omega,by omega⟩]at R;have m:=@lP _ _ _ _ _ M A O aI aM;have an(_:=()):∀(c:World)(b:Nt),bn c b->a.nb=b.nb->a.f=b.f->a.e=b.e->a.aK.length=b.aK.length->(∃i,b.aK[k]?=S i/\i.e=d.e)->∃l o,a.f=S ⟨l,o,N⟩/\c.cell? ⟨a.nb,1,N⟩=S (L (S ⟨l,o,N⟩) a.aK.length a.e)/\a.nb<c.heap.size/\l<c.heap.size/\c.cell? ⟨l,o+k*2+1,N⟩=S (L d.c d.ss.length d.f):=λc b f U ao ap aq ⟨i,ar,a7⟩=>by obtain⟨l,o,V,C,bt,r⟩:=f.d ar;have v:=f.i;obtain⟨_,a8,a9,_,ba⟩:=uC a7;rw[V]at v;rw[a8,a9,ba]at r;exact⟨l,o,ao.trans V,by rw[U,ap,aq];exact v,by rw[U];exact f.fq.b,C,r⟩
 obtain⟨l,o,V,_⟩:=an () q a M rfl rfl rfl rfl ⟨d,A,rfl⟩;have W(_:=()):∀(c:World)(b:Nt),bn c b->a.nb=b.nb->a.f=b.f->a.e=b.e->a.aK.length=b.aK.length->(∃i,b.aK[k]?=S i/\i.e=d.e)->c.cell? ⟨a.nb,1,N⟩=S (L (S ⟨l,o,N⟩) a.aK.length a.e)/\a.nb<c.heap.size/\l<c.heap.size/\c.cell? ⟨l,o+k*2+1,N⟩=S (L d.c d.ss.length d.f):=λc b f U ao ap aq ar=>by obtain⟨bu,bv,s,w⟩:=an () c b f U ao ap aq ar;rw[V]at s;cases s;exact w
 obtain⟨aN,au⟩:=ah a.nb;have av:=@af _ au;obtain⟨D,aw⟩:=ah d.ss.length;have ax:=@af _ aw;rw[<-au]at R W|-;rw[<-aw]at W;clear M A O aI a5 au aw aK aL a6 aM an;go_enter func66,ntmps66;go_wp2_with fail;refine Uq R ?_;rintro aO c ⟨rfl,E⟩;have aP(_:=()):uv q c a k z 0 a:=⟨m.1.a E λ_ _ G=>G,rfl,du.g a E,rfl,m.2.2.1⟩
 obtain⟨v,ay,C,r⟩:=W () c a aP.c av rfl rfl rfl ⟨d,m.2.1,rfl⟩;clear R E;go_wp2_with fail;go_loopw [19] (λaz wr=>∃(e:Nat)(b:Nt),e<=D/\az= .int J e/\uv q wr a k z e b) λaz _=>D-(intOf az).toNat;case atStart=>exact⟨0,a,by omega,rfl,aP⟩
 case round=>
  obtain⟨e,b,aA,rfl,g⟩:=hrel;have H:=@aC _ _ g aA;have aB:b.nb=aN:=by rw[av];exact g.a.a
  clear v ay C r;obtain⟨v,ay,C,r⟩:=W () wr b g.c aB.symm g.a.e.symm g.a.i.symm g.a.p.symm (g.a.j m.2.1);by_cases X:e<D
  .have aQ:=@af _ X;have bb:(e:Int)<D:=by omega
   have bw:(e:Int)<1000:=by have:=m.2.2.2.2;rw[<-ax]at this;omega
   obtain⟨i,n,Y,Z,aR,bc,aS⟩:=g.g m.2.1 (j:=e) (by rw[<-ax];exact X);obtain⟨bd,be,bf,aD,bg,bh,aT,aU⟩:=g.c.m Y Z;rw[aR]at aD;have K:=@cf _ _ _ Y Z aS;have aV(_:=()):∀c,ae aa wr c->_:=λc E=>F3 bf 181 bd (be+e*25+1) n.e n.p c (aT.a E λ_ _ G=>G) (by have:=g.b.c k i.a (jH Y) e n.b (by simp[Sp.a,Z]);have Q:n.e.aA=[]:=this;rw[Q];simp);have aW:=@af _ aU;rw[aD]at r;clear aA X g bh aT aU Y Z aR aD bc aS aB;go_wp2_with fail;refine Uq (aV () wr (ae.a aa wr)) ?_;rintro aO x ⟨rfl,bi,aX,aY⟩;obtain⟨h,t,y,aE⟩:∃h t y,Unit->bn x h/\h.a=b.a.a k e En.o/\du wr x b h/\h.aG=b.aG/\(∀bj∈n.e.o.aA,dx bj)/\h.aK[k]?=S t/\t.ss[e]?=S y/\y.e=n.e.o/\t.ss.length=i.ss.length/\h.aK.length=b.aK.length/\h.aS=b.aS:=by obtain⟨h,t,y,s,w,ab,ac,ad,ag,ai,aj,ak,al,am,bx,bz⟩:=aW () wr x _ bi (ae.a aa wr) aX aY;exact⟨h,t,y,λ_=>⟨s,w _ rfl,ab,ac,ad,ag,ai,aj,ak,al,am⟩⟩
   have aF(_:=()):∀aG,ae aa x aG->_:=λaG bk=>by obtain⟨s,w,ab,ac,ad,ag,ai,aj,ak,al,am⟩:=aE ();have aH:=H.1.b;refine A5 h k e t y aG (s.a bk λ_ _ G=>G) ag ai ?_ ?_ ?_ ?_;rw[am];have:=aH.b;rw[bn.b.1]at this;omega;rw[al];have:=aH.d;rw[bn.b.2]at this;omega;rw[ak,K.2.2];have:=m.2.2.2.2;omega;rw[aj];have f:=TB n.e;have Q:n.e.aA=[]:=aH.c k i.a (jH K.1) e n.b (by have:=K.2.1;simp[Sp.a,this]);rw[Q]at f;simp only[VD]at f;omega
   have aZ:h.nb=aN:=by rw[av,(aE ()).2.2.1.a,H.1.a.a]
   rw[aZ]at aF;clear aW aV aX aY v r aZ ay C bg;go_wp2_with fail;refine Uq (aF () x (ae.a aa x)) ?_;rintro aO bl ⟨rfl,a0,a1,a2,a3,a4⟩;have bm(_:=()):uv q bl a k z (e+1) a0:=by obtain⟨s,w,ab,ac,ad,ag,ai,aj,ak,al,am⟩:=aE ();exact H.1.f K.1 K.2.1 w ab ac ad a1 a2 a3 a4
   clear aF a1 a2 a3 a4;go_wp2;exact⟨⟨e+1,a0,by have:=aQ;omega,by go_num,bm⟩,by have:=aQ;simp[intOf];omega⟩
  .have bo(_:=()):e=d.ss.length:=by have:=H.2;rw[<-ax];omega
   have bb:¬((e:Int)<D):=by omega
   clear aA X g aB;go_wp2;go_ret;have f:=H.1;have bp:b.a=a.a.y k:=by rw[f.d,AN.y,jH m.2.1,bo];simp[Sp.a]
   exact⟨rfl,b,f.c,bp,f.a,f.e,f.b,by rw[f.d];unfold jb;rw[Gx];exact m.2.2.2.1⟩
def bn.D{n c}(b:bn n c)(j)(p:∀a,j a->c.aG a\/(¬c.c a/\a<n.heap.size)):bn n {c with aG:=j}:=by
 refine⟨b.fq,b.oy,b.pu,b.pt,b.l5,b.oz,b.kI,b.nH,b.j8,?_,?_⟩;intro a s;obtain e|e:=p a s;exact b.oA a e;exact e.2;have q:∀f a,f≠Pt.ep->({c with aG:=j}:Nt).b f a->j a->False:=λf a o g h=>by
  have k:c.b f a:=by
   cases f with
   |ep=>exact(o rfl).elim
   |cZ d r=>exact g
   |_=>exact g
  obtain e|e:=p a h;exact o (b.fk f .ep a k e);exact e.1 ⟨f,o,k⟩
 intro d i a l m;by_cases g:d= .ep;by_cases h:i= .ep;rw[g,h];subst g;exact(q i a h m l).elim;by_cases h:i= .ep;subst h;exact(q d a g l m).elim;have k:c.b d a:=by
  cases d with
  |ep=>exact(g rfl).elim
  |cZ d r=>exact l
  |_=>exact l
 have t:c.b i a:=by
  cases i with
  |ep=>exact(h rfl).elim
  |cZ d r=>exact m
  |_=>exact m
 exact b.fk d i a k t
def jw.Z{c d e a}(h:jw c d a e)(i:∀j∈a,j<256)(n:(a.length:Int)<1000):qf c d 0 e a:=by obtain⟨o,k,l⟩:=h;obtain⟨b,_⟩|⟨p,q,b,f⟩:=l;cases b;cases b;refine⟨λg m=>?_,f.b,k,by omega,i⟩;have:=f.a g (bv a[g]) (by simp[m]);exact this
def wu{a}(e:dC a):1<=a.a/\a.a<=7/\a.c<=10/\(cy a).c:=by
 have c:=e.2.2.2;simp only[bJ,UV]at c;obtain⟨⟨g,h⟩,i,j,_⟩:=c;have f:a.a=1\/a.a=2\/a.a=3\/a.a=4\/a.a=5\/a.a=6\/a.a=7:=by omega
 have d:a.c<=10:=by
  have:bL (a.a:Int)<=9:=by obtain b|b|b|b|b|b|b:=f<;>rw[b]<;>decide
  omega
 refine⟨by omega,by omega,d,?_⟩;unfold cy;split<;>simp[bV.c];exact d
def Fh(c:List Nat)(k)(b:k∈c):∃d:Nat,c[d]?=S k/\∀a:Nat,a<d->c[a]?≠S k:=by
 induction c with
 |nil=>cases b
 |cons f g h=>
  by_cases e:f=k;subst e;exact⟨0,rfl,λa i=>by omega⟩;have j:k∈g:=by obtain b|b:=UZ.1 b;grind;exact b
  obtain⟨d,l,m⟩:=h j;refine⟨d+1,l,λa i=>?_⟩;cases a with
  |zero=>intro n;exact e (Wn n)
  |succ a=>exact m a (by omega)
def Ni(c:List (Nat×En))(k):∀a,(c.map λb=>b.1)[a]?=S k->(∀d,d<a->(c.map λb=>b.1)[d]?≠S k)->c.findIdx (λb=>b.1==k)=a:=by
 induction c with
 |nil=>intro a g;simp at g
 |cons e m h=>
  intro a i f;rw[List.findIdx_cons];cases a with
  |zero=>
   grind
  |succ a=>
   have j:e.1≠k:=by have:=f 0 (by omega);simpa using this
   have l:=h a (by simpa using i) (λd n=>by have:=f (d+1) (by omega);simpa using this);have:(e.1==k)=F:=by simpa using j
   simp[this,l]
def Ik{c:Nt}{d k b a}(g:c.aK[d]?=S a)(h:(a.ss.map Sd.a)[b]?=S k)(i:∀e,e<b->(a.ss.map Sd.a)[e]?≠S k):c.a.w d k=b:=by
 unfold AN.w;rw[jH g];have f:a.a.ss.map (λj=>j.1)=a.ss.map Sd.a:=by simp[Sp.a,Sd.b,Wu]
 exact Ni _ k b (by rw[f];exact h) (by rw[f];exact i)
structure sE(n wr:World)(l:Nt)(o:AN)(t p:Nat)(j:List Fr.cF)(ta:Option Addr)(tc xb:Nat)(bx:Array Value)(q m:Nat)(i:Nt):Prop where
 b:bn wr i
 h:i.a=o.n t p (j.take m)
 c:du n wr l i
 e:i.aG=λk=>l.aG k\/ag ta k\/k=xb
 a:dw i.a (q+m)
 d:jb i.a
 g:RV wr 76 4 ta j.length tc (cH j)
 f:aq wr xb bx 200
def sE.l{e wr c d f t g h i j k l m n b}(o:sE e wr c f t g l m h i n j k d)(p:c.aK[t]?=S b):∃a,d.aK[t]?=S a/\a.b=b.b/\a.c=b.c/\a.ss.length=b.ss.length:=by obtain⟨a,r,q⟩:=o.c.j p;obtain⟨s,u,v,_,w⟩:=uC q;grind
def sE.j{o wr p h q e b c r t i s f j g k l u v}(a:sE o wr q r t i k l s f u j g e)(z:k[g]?=S v)(w:b.a=e.a.b t λA=>A.w i v)(C:du wr p e b)(D:b.aG=e.aG)(E:bn h c)(x:c.a=b.a.m t)(G:du p h b c)(H:c.aG=b.aG)(K:dw c.a (j+g+1)):sE o h q r t i k l s f u j (g+1) c:=by have m:=C.c G;have y:∀d,(ag l d\/d=f)->¬e.c d:=λd n=>a.b.o (by rw[a.e];exact Up n);refine⟨E,?_,a.c.c m,(H.trans D).trans a.e,K,?_,a.g.a m.b λd n=>y d (Ur n),a.f.c m.b (y f (Up rfl))⟩;rw[x,w,a.h,pM z];simp only[AN.n,V5,WE,Xw,AN.G];rw[x,w];exact Eu _ t _ a.d
def KE{b c}(f:dw b c)(t d e)(h:dC e)(n:c<4999)(i:∀a,b.bd[t]?=S a->d<a.ss.length):dw (b.b t λj=>j.w d e) (c+1):=by refine AW f (by omega) t _ λa g=>?_;obtain⟨k,o,p⟩:=f.a t a g;have q:=i a g;obtain⟨l,m,r,_⟩:=Cn a.n d e k (by omega) (wu h).2.2.2 (by omega);exact⟨l,m,by omega⟩
def FE(a:En)(c):(a.d c).aA.length<=a.aA.length+4:=by
 cases c with
 |none=>exact XE _ _
 |some e=>
  obtain⟨f,b,d⟩:=e;cases f with
  |false=>
   show (a.h b).aA.length<=_;unfold En.h;split;exact Ch (a.u _) _;omega
  |true=>
   show ((a.a b d).g.p).aA.length<=_;have g:=FJ a b d;unfold En.p;split;simp[g];grind
def sE.m{z i l w5 d e f k t h r xb tc A q s g m ta bx}(Q:dw d.a A)(R:jb d.a)(U:du z i d e)(u:bn i e)(n:e.a=d.a.f k)(ap:e.aG=d.aG)(C:e.aK[t]?=S s)(D:s.ss[h]?=S g)(V:∀o,q=S o->dx o)(W:ae aa i l)(X:fG l w5 r g.p m)(Y:¬gD m r)(Z:∀o∈(g.e.d q).aA,dx o)(E:RV w5 76 4 ta (g.e.b q).length tc (cH (g.e.b q)))(ab:∀a,ag ta a->l.heap.size<=a/\¬lZ r m a)(ac:bn w5 f)(v:f.a=e.a.a t h λb=>b.d q)(ad:du i w5 e f)(ar:f.aG=e.aG)(af:ae (λa=>a<i.heap.size) l w5)(G:∀a,f.c a->e.c a\/gD m a)(ah:xb=i.heap.size)(H:aq l xb bx 200):
 bn w5 {f with aG:=λa=>d.aG a\/ag ta a\/a=xb}/\aq w5 xb bx 200/\
  ∀p j,bn p j->j.a=f.a.d t h->du w5 p {f with aG:=λa=>d.aG a\/ag ta a\/a=xb} j->(j.aG=λa=>d.aG a\/ag ta a\/a=xb)->
   sE z p d (((d.a.f k).a t h λb=>b.d q).d t h) t h (g.e.b q) ta tc xb bx A 0 j:=by
 have w:=H.c af (by rw[ah];exact Nat.lt_irrefl _);have ai:∀a,(ag ta a\/a=xb)->¬f.c a/\a<w5.heap.size:=λa c=>by
  constructor;intro K;obtain c|c:=c;obtain⟨au,aj⟩:=ab a c;obtain b|b:=G a K;have:=u.e b;have:=W.size;omega;exact aj (by obtain b|b|b:=b;exact Up (Ur b);exact Up (Up (Ur b));exact Up (Up (Up b)))
  obtain b|b:=G a K;have:=u.e b;omega;obtain b|b:=((Ge X Y).1) a b;have:=((u.j8 t s C h g D).b) a b;omega;have:=H.b;omega;obtain c|c:=c;exact E.b a c;rw[c];exact w.b
 have M:=ac.D (λa=>d.aG a\/ag ta a\/a=xb) λa c=>by obtain c|c:=c;grind;exact Up (ai a c)
 refine⟨M,w,λp j ak x y al=>?_⟩;have am:du i w5 e {f with aG:=λa=>d.aG a\/ag ta a\/a=xb}:=ad.l e.aG _;have O:∀a,(ag ta a\/a=xb)->¬({f with aG:=λa=>d.aG a\/ag ta a\/a=xb}:Nt).c a:=λa c=>M.o (Up c);have an:(d.a.f k).e t h=S (g.a,g.e):=by rw[<-n];exact vM C D
 refine⟨ak,?_,U.c (am.c y),al,?_,?_,E.a y.b λa c=>O a (Ur c),w.c y.b (O xb (Up rfl))⟩;rw[x,v,n];rfl;rw[x,v,n];exact AU (AV Q k) an _ (λb ao=>(Bs ao V).1) Z;rw[x,v,n];unfold jb;rw[uQ,tv];exact R
def sE.i{e wr a b f t g h i j d k l}(c:sE e wr a f t g d k h i l j d.length b):
 bn wr {b with aG:=a.aG}/\({b with aG:=a.aG}:Nt).a=f.n t g d/\du e wr a {b with aG:=a.aG}:=by
 refine⟨c.b.n (ae.a aa wr) a.aG (λn m=>Ur (by rw[c.e];exact Ur m)),?_,c.c.l a.aG a.aG⟩;rw[AT,c.h,Vu]
def Pm{c h i j g}(l:RV c 76 4 h i j (cH g)){k d}(m:g[k]?=S d)(o:k<i):
 ∃a b,h=S ⟨a,b,N⟩/\a<c.heap.size/\c.cell? ⟨a,b+k*4,N⟩=S (.int J d.a)/\c.cell? ⟨a,b+k*4+1,N⟩=S (.int J d.c)/\c.cell? ⟨a,b+k*4+2,N⟩=S (.int J d.b)/\c.cell? ⟨a,b+k*4+3,N⟩=S (B d.d):=by
 obtain⟨a,b,n,e⟩:=ja l (by omega);have f:=yJ g k d m;refine⟨a,b,n,e.b,e.a _ _ (f 0 (by omega)),?_,?_,?_⟩;rw[UI];exact e.a _ _ (f 1 (by omega));rw[UI];exact e.a _ _ (f 2 (by omega));rw[UI];exact e.a _ _ (f 3 (by omega))
def OY(a k b)(d:bn b a)(g:¬(0<=k/\k<(a.aS.length:Int))):
 Cr 65 #[P (S ⟨a.nb,0,N⟩),.int J k] b (.int J 7) λe=>ae aa b e:=by
 have f(_:=()):∀c,_:=λc=>rY a.ba a.aS.length a.bc k c;have h:=d.c;go_enter func65,ntmps65;go_wp2_with fail;refine Uq (f () _) ?_;rintro i c ⟨rfl,j⟩;go_wp2;go_ret;simp_all
def OZ(a)(k:Nat)(d ak al)(aW:bn al a)(bi:a.aS[k]?=S d)(bD:dw a.a ak)(ck:jb a.a)(cl:ak<4900):
 Cr 65 #[P (S ⟨a.nb,0,N⟩),.int J k] al (.int J 0) λcm=>∃aH,bn cm aH/\aH.a=a.a.x k/\du al cm a aH/\aH.aG=a.aG/\dw aH.a (ak+4)/\jb aH.a:=by
 have cU:=(Ul.1 bi).1;have am:(a.aS.length:Int)<=300:=by have:=bD.b;rw[bn.b.1]at this;omega
 have bE(_:=()):∀Q,_:=λQ=>rY a.ba a.aS.length a.bc (k:Int) Q;rw[U4 (p:=0<=(k:Int)/\(k:Int)<a.aS.length) ⟨by omega,by omega⟩]at bE;have t:=@lP _ _ _ _ _ aW bi bD ck cl;have bF(_:=()):∀Q,ae aa al Q->_:=λQ aX=>Ez a.nb 2 a.aS a.ba a.bc k d Q ((aW.a aX λ_ _ h=>h).f) bi am;have cn:=aW.c;have an:=aW.fq.b;obtain⟨aI,bG⟩:=ah a.nb;have bj:=@af _ bG;rw[<-bG]at bF cn an|-;clear aW bi bD cU am bG ck cl;go_enter func65,ntmps65;go_wp2_with fail;refine Uq (bE () _) ?_;rintro aJ Q ⟨rfl,aX⟩;have bH:=@af _ aX;have cV:aI<Q.heap.size:=Un an aX.size;clear aX bE cn an;go_wp2_with fail;refine Uq (bF () Q bH) ?_;rintro aJ v ⟨rfl,aK,bI⟩;obtain⟨r,m⟩:∃r,Unit->bn v r/\du al v a r/\r.a=a.a.f k/\jw v d.g d.l d.c/\¬r.c d.g/\r.aG=a.aG/\r.nb=a.nb/\r.aK=a.aK:=by have g:=t.1.a bH λ_ _ h=>h;rw[bj]at aK bI;obtain⟨bJ,bK,bL,cW,cX⟩:=g.q t.2.1 aK bI;exact⟨_,λ_=>⟨bJ,(du.g a bH).c bK,bL,cW,cX,rfl,rfl,rfl⟩⟩
 have cY:=t.2.2.1.e d.f (Uo (s7 t.2.1));obtain⟨co,cZ,cp,cq,bk,cr⟩:=cY;obtain⟨c,aZ,cs⟩:∃c,a.aK[d.a]?=S c/\cq=c.ss.map Sd.a:=by have h:(d.f).t=d.a:=rfl;rw[h]at bk;simp only[AN.h,Nt.a,Wj,Uz]at bk;obtain⟨c,g,Y⟩:=UD.1 bk;exact⟨c,g,by rw[<-Y];simp[Sp.a,Sd.b,Wu]⟩
 obtain⟨b,a0,bl⟩:=Fh cq d.e cr;rw[cs]at a0 bl;have aL:r.aK[d.a]?=S c:=by rw[(m ()).2.2.2.2.2.2.2];exact aZ
 obtain⟨Z,a1,bM,u,ao,z⟩:=(m ()).1.d aL;have R:=(m ()).1.i;rw[bM,(m ()).2.2.2.2.2.2.1,<-bj]at R;have ct:b<c.ss.length:=by have:=(Ul.1 a0).1;simpa using this
 obtain⟨n,bm⟩:∃n,c.ss[b]?=S n:=⟨_,Um ct⟩
 obtain⟨bo,bN,c0,bO,ab,cu,cv,a2⟩:=(m ()).1.m aL bm;have A:=t.2.2.1.a d.a c.a (jH aZ);have bP:(c.ss.length:Int)<1000:=by
  have Y:c.n.ai.length=c.ss.length:=by simpa [Sp.a]using A.2.1
  have:=A.1.a.a.a;have a3:c.a.n.ai.length=c.n.ai.length:=rfl;omega
 have cw:(r.aK.length:Int)<2000:=by have g:=t.2.2.1.d;rw[bn.b.2]at g;rw[(m ()).2.2.2.2.2.2.2];omega
 have c1:(d.a:Int)<r.aK.length:=by have:=(Ul.1 aL).1;omega
 have c2:(d.a:Int)<2000:=by omega
 have c3:=@af _ bM;have i(_:=()):a.aK[d.a]?=S c/\r.aK[d.a]?=S c/\(c.ss.map Sd.a)[b]?=S d.e/\(∀o:Nat,o<b->(c.ss.map Sd.a)[o]?≠S d.e)/\c.ss[b]?=S n/\(c.ss.length:Int)<1000/\(r.aK.length:Int)<2000/\(∀c4∈d.l,c4<256)/\(d.l.length:Int)<1000:=⟨aZ,aL,a0,bl,bm,bP,cw,co,by have h:d.f.l=d.l:=rfl;rw[h]at cp;omega⟩
 rw[bO]at z;have bQ(_:=()):∀f,ae aa v f->_:=λf w=>Fc Z (a1+d.a*2) d.e bo bN c.f (c.ss.map Sd.a) b f (by rw[UX];exact(w.f Z _ u id).trans z) (Un u w.size) (((m ()).1.u aL bO).a w ab id) (Un ab w.size) (by rw[UX];exact bP) a0 bl;have bp(_:=()):∀f,ae aa v f->_:=λf w=>OE c0 181 bo (bN+b*25+1) n.e n.p d.g 0 d.c d.l (eK d.l) f (cv.a w λ_ _ h=>h) (jw.Z ((m ()).2.2.2.1.a w λ_ _ h=>h) i.2.2.2.2.2.2.2.1 i.2.2.2.2.2.2.2.2) (uH i.2.2.2.2.2.2.2.1) (by have Y:n.e.aA=[]:=t.2.2.1.c d.a c.a (jH aZ) b n.b (by simp[Sp.a,bm]);rw[Y];simp)
 have a4:=@af _ a2;have bR(_:=()):∀f,ae aa v f->f.cell? ⟨aI,1,N⟩=S (L (S ⟨Z,a1,N⟩) r.aK.length r.e)/\aI<f.heap.size/\Z<f.heap.size/\f.cell? ⟨Z,a1+d.a*2+1,N⟩=S (L (S ⟨bo,bN,N⟩) c.ss.length c.f)/\bo<f.heap.size:=λf w=>by have cx:=UL v _ R;exact⟨(w.f aI _ cx id).trans R,Un cx w.size,Un u w.size,(w.f Z _ u id).trans z,Un ab w.size⟩
 have dG:(b:Int)<c.ss.length:=by omega
 have dH:(b:Int)<1000:=by omega
 have c5:=UL v _ R;obtain⟨a5,e,aM,bS,bT,bU⟩:=d;simp only[Pk.b]at bQ bp bR c1 c2 ao z cu|-;generalize cy:aM.length=xln at bp;have dI:=@af _ cy;clear bF aK bI co cZ cp bk cr cs a0 bl bM cv a2 A bP cw cu ao bO ct bm aZ aL cV z cy;go_wp2_with fail;obtain⟨bx,bV⟩:∃bx:Array Value,bx= #[I J a5,I J e,L (S ⟨bS,0,N⟩) xln bT,B bU]:=⟨_,rfl⟩
 have c6:=@af _ bV;obtain⟨aN,bq⟩:=ah (v.alloc (Obj.cells #[I J a5,I J e,L (S ⟨bS,0,N⟩) xln bT,B bU] 200));have bW:ae aa v aN:=by rw[bq];exact(ae.a aa v).b _
 have am:aq aN v.heap.size bx 200:=by rw[bq,bV];exact aq.e _ _ _
 rw[<-bq];obtain⟨xb,bX⟩:=ah v.heap.size;rw[<-bX]at am|-;have br:=@cf _ _ _ bX bW am;have a6(_:=()):∀f,aq f xb bx 200->f.cell? ⟨xb,0,N⟩=S (I J a5)/\f.cell? ⟨xb,1,N⟩=S (I J e)/\f.cell? ⟨xb,2,N⟩=S (L (S ⟨bS,0,N⟩) xln bT)/\xb<f.heap.size:=λf aK=>by refine⟨?_,?_,?_,aK.b⟩<;>rw[aK.a,c6]<;>rfl
 obtain⟨D,E,G,H⟩:=a6 () aN am;clear R u ab c5;obtain⟨R,an,u,z,ab⟩:=bR () aN bW;clear bq bW am bX bV;go_still_tail 8,(by kernel_rfl)
 go_wp2_with fail;refine Uq (bQ () aN.drew (br.2.1.drew)) ?_;rintro aJ f ⟨rfl,bY⟩;have ap:=@aC _ _ (br.2.1.drew.c bY) (br.2.2.c ((ae.a aa aN).drew.c bY) id);clear D E G H R an u z ab bQ bY;obtain⟨D,E,G,H⟩:=a6 () f ap.2;obtain⟨R,an,u,z,ab⟩:=bR () f ap.1;go_wp2_with fail;go_still_tail 10,(by kernel_rfl)
 go_wp2_with fail;refine Uq (bp () f.drew (ap.1.drew)) ?_;rintro aJ ac ⟨bs,c7,rfl,⟨ta,tc,rfl,bZ,cz⟩,b0,b1⟩;obtain⟨q,a7⟩:=ah (eK aM);obtain⟨x,ar,aO,a8⟩:∃(x:Nt)(ar:Sp)(aO:Sd),Unit->bn ac {x with aG:=λs=>a.aG s\/ag ta s\/s=xb}/\aq ac xb bx 200/\(∀U ad,bn U ad->ad.a=x.a.d e b->du ac U {x with aG:=λs=>a.aG s\/ag ta s\/s=xb} ad->(ad.aG=λs=>a.aG s\/ag ta s\/s=xb)->sE al U a (((a.a.f k).a e b λh=>h.d q).d e b) e b (n.e.b q) ta tc xb bx ak 0 ad)/\x.aK[e]?=S ar/\ar.ss[b]?=S aO/\aO.e=n.e.d q/\ar.ss.length=c.ss.length/\x.aK.length=r.aK.length/\x.aS=r.aS/\x.nb=a.nb:=by
  obtain⟨x,ar,aO,ai,au,aP,aQ,aj,av,bt,a9,bu,b2,cA,c8,c9⟩:=a4 () f.drew ac _ c7 ap.1.drew b0 b1;have b3:∀aw,q=S aw->dx aw:=λaw b4=>by have g:=uH (l:=aM) i.2.2.2.2.2.2.2.1;rw[<-a7,b4]at g;exact g.1
  rw[<-a7]at au aj a9 bZ;have b5:=sE.m (xb:=xb) (bx:=bx) (tc:=tc) (ta:=ta) (q:=q) t.2.2.1 t.2.2.2.1 (m ()).2.1 (m ()).1 (m ()).2.2.1 (m ()).2.2.2.2.2.1 i.2.1 i.2.2.2.2.1 b3 ap.1.drew b1 b0.j aj bZ cz ai (au _ rfl) aP aQ c8 c9 br.1 ap.2;exact⟨x,ar,aO,λ_=>⟨b5.1,b5.2.1,b5.2.2,av,bt,a9,bu,b2,cA,aP.a.trans (m ()).2.1.a⟩⟩
 rw[<-a7];have b6:=@af _ a7;obtain⟨cB,ax⟩:=ah ({x with aG:=λs=>a.aG s\/ag ta s\/s=xb}:Nt);have b7:=@af _ ax;have b8(_:=()):∀U,ae aa ac U->_:=λU da=>by obtain⟨ai,au,aP,aQ,aj,av,bt,a9,bu,b2⟩:=a8 ();rw[<-ax]at ai;refine A5 cB e b ar aO U (ai.a da λ_ _ h=>h) (by rw[ax];exact aQ) aj ?_ ?_ ?_ ?_;rw[ax];show (x.aS.length:Int)<=300;rw[bu];have g:=AV t.2.2.1 k;rw[<-(m ()).2.2.1]at g;have:=g.b;rw[bn.b.1]at this;omega;rw[ax];show (x.aK.length:Int)<2000;rw[a9];exact i.2.2.2.2.2.2.1;rw[bt];have:=i.2.2.2.2.2.1;omega;rw[av];have Y:n.e.aA=[]:=t.2.2.1.c e c.a (jH i.1) b n.b (by have:=i.2.2.2.2.1;simp[Sp.a,this]);have a3:=FE n.e q;rw[Y]at a3;simp only[VD]at a3;omega
 have cC:cB.nb=aI:=by rw[ax,bj];exact(a8 ()).2.2.2.2.2.2.2.2.2
 rw[cC]at b8;clear D E G H R an u z ab a4 b0 b1 bZ cz cC a7 bp ax;obtain⟨D,E,G,H⟩:=a6 () ac (a8 ()).2.1;go_wp2_with fail;refine Uq (b8 () ac (ae.a aa ac)) ?_;rintro aJ U ⟨rfl,ad,ba,bb,bc,bd⟩;have cD:=@af _ ((a8 ()).2.2.1 U ad ba (by rw[bb,b7];rfl) (by rw[<-b7];exact bc) (by rw[bd,b7]));obtain⟨cE,b9⟩:=ah (((a.a.f k).a e b λh=>h.d q).d e b);obtain⟨y,aR⟩:=ah (n.e.b q);rw[<-b9,<-aR]at cD;have ay(_:=()):cE=((a.a.f k).a e b λh=>h.d q).d e b/\y=n.e.b q/\y.length<=4/\∀V∈y,dC V:=by
  have g:=uH (l:=aM) i.2.2.2.2.2.2.2.1;have b3:∀aw,q=S aw->dx aw:=λaw b4=>by rw[<-b6,b4]at g;exact g.1
  have db:=t.2.2.1.f e c.a (jH i.1) b n.b (by have:=i.2.2.2.2.1;simp[Sp.a,this]);refine⟨b9,aR,?_,by rw[aR];exact(Bs db b3).2⟩;rw[aR];exact Cs n.e q ((m ()).1.j8 e c i.2.1 b n i.2.2.2.2.1).sX
 rw[<-aR];clear D E G H b8 ba bb bc bd b9 aR a8 ap;go_wp2_with fail;go_loopw [55] (λbs wr=>∃(o:Nat)(aS:Nt),o<=y.length/\bs= .int J o/\sE al wr a cE e b y ta tc xb bx ak o aS) λbs _=>y.length-(intOf bs).toNat;case atStart=>exact⟨0,ad,by omega,rfl,cD⟩
 case round=>
  obtain⟨o,aS,ca,rfl,C⟩:=hrel;have K:=@aC _ _ C ca;obtain⟨D,E,G,H⟩:=a6 () wr C.f;obtain⟨j,az,be,cF,cb⟩:=C.l i.1;obtain⟨dc,dd,cc,u,ao,z⟩:=C.b.d az;have de:S (⟨Z,a1,N⟩:Addr)=S ⟨dc,dd,N⟩:=by rw[<-c3,(m ()).2.1.e,<-C.c.e];exact cc
  cases de;rw[be]at ao;by_cases bf:o<y.length
  .have cd(_:=()):o<y.length:=bf;have df:(o:Int)<y.length:=by omega
   have dJ:(o:Int)<1000:=by have:=ay.2.2.1;omega
   obtain⟨V,bv⟩:∃V,y[o]?=S V:=⟨_,Um bf⟩
   obtain⟨dK,dL,ce,dg,cG,bw,bz,cH⟩:=Pm C.g bv bf;have bg:=ay.2.2.2 V (Uo bv);have M(_:=()):y[o]?=S V/\dC V/\aS.aK[e]?=S j/\j.b=c.b/\j.ss.length=c.ss.length:=⟨bv,bg,az,be,cb⟩
   obtain⟨cI,a2⟩:=C.b.v az;have A:=C.a.a e j.a (jH az);have cg:b<c.ss.length:=(Ul.1 i.2.2.2.2.1).1;have bh(_:=()):∀ch,ae aa wr ch->_:=λch aT=>P1 j.b j.n j.p b V ch (cI.b aT λ_ _ h=>h) A.1.a (by
    have Y:j.n.ai.length=j.ss.length:=by simpa [Sp.a]using A.2.1
    omega) (wu bg).1 (wu bg).2.1 (wu bg).2.2.1 (by
    have a3:=A.2.2;have cJ:j.a.n.an.length=j.n.an.length:=rfl;have:=t.2.2.2.2;have:=ay.2.2.1;omega) (by rw[C.d.a az];simp)
   rw[be]at bh;have a4:=@af _ a2;simp only[mv]at bh;obtain⟨aA,aB,aD,aE⟩:=V;simp only at cG bw bz cH bh;have dh:=C.g.2.1;clear ca bf C az be cF cb cc z bv bg cI a2 A cg dh;have di:=@af _ ce;rw[ce];go_wp2_with fail;obtain⟨W,bA⟩:=ah (wr.alloc (Obj.cells #[I J aA,I J aB,I J aD,B aE] 76));have aT:ae aa wr W:=by rw[bA];exact(ae.a aa wr).b _
   have aF:aq W wr.heap.size #[I J aA,I J aB,I J aD,B aE] 76:=by rw[bA];exact aq.e _ _ _
   rw[<-bA];obtain⟨bB,cK⟩:=ah wr.heap.size;rw[<-cK]at aF|-;have dj:W.cell? ⟨bB,0,N⟩=S (I J aA):=by rw[aF.a];rfl
   have dk:W.cell? ⟨bB,1,N⟩=S (I J aB):=by rw[aF.a];rfl
   have dl:W.cell? ⟨bB,2,N⟩=S (I J aD):=by rw[aF.a];rfl
   have dm:W.cell? ⟨bB,3,N⟩=S (B aE):=by rw[aF.a];rfl
   have dn:=aF.b;have dp:=(aT.f Z (a1+e*2) u id).trans ao;have dq:=Un u aT.size;have cL:=@af _ aT;clear bA aT aF cK cG bw bz cH dg ao u D E G H ce;go_still_tail 6,(by kernel_rfl)
   go_wp2_with fail;refine Uq (bh () W.drew (cL.drew)) ?_;rintro aJ X ⟨rfl,ci,cM,cN⟩;obtain⟨O,aU,aV⟩:∃(O:Nt)(aU:Sp),Unit->bn X O/\O.a=aS.a.b e (λdr=>dr.w b ⟨aA,aB,aD,aE⟩)/\du wr X aS O/\O.aG=aS.aG/\O.aK[e]?=S aU/\aU.n=j.n.w b ⟨aA,aB,aD,aE⟩:=by
    have ds:aY X j.b (j.n.w b ⟨aA,aB,aD,aE⟩) ci:=by rw[M.2.2.2.1];exact cM
    have dt:pq W.drew X j.b j.p ci:=by rw[M.2.2.2.1];exact cN
    obtain⟨O,aU,ai,au,aP,aQ,aj,av,bt,a9,bu,b2,cA⟩:=a4 () W.drew X _ ci (cL.drew) ds dt;exact⟨O,aU,λ_=>⟨ai,au _ rfl,aP,aQ,aj,av⟩⟩
   have cO:ak+o<4999:=by have:=t.2.2.2.2;have:=ay.2.2.1;have:=cd;omega
   have cj(_:=()):∀bC,ae aa X bC->_:=λbC dv=>by
    obtain⟨ai,au,aP,aQ,aj,av⟩:=aV ();have A:=K.1.a.a e j.a (jH M.2.2.1);have cg:=(Ul.1 i.2.2.2.2.1).1;refine GW O e aU (ak+o+1) bC (ai.a dv λ_ _ h=>h) aj ?_ ?_;rw[au];refine KE K.1.a e b _ M.2.1 cO λdM cP=>?_;rw[jH M.2.2.1]at cP;cases cP;show b<(j.ss.map Sd.b).length;rw[UX,M.2.2.2.2];exact cg;rw[av];have Y:j.n.ai.length=j.ss.length:=by simpa [Sp.a]using A.2.1
    have a3:=A.2.2;have cJ:j.a.n.an.length=j.n.an.length:=rfl;have dN:=M.2.2.2.2;obtain⟨_,_,_,cQ⟩:=Cn j.n b ⟨aA,aB,aD,aE⟩ A.1 (by omega) (wu M.2.1).2.2.2 (by omega);rw[K.1.d.a M.2.2.1]at cQ;simp only[VD]at cQ;omega
   have cR:O.nb=aI:=by rw[bj,(aV ()).2.2.1.a,K.1.c.a]
   rw[cR]at cj;have cS:=K.1.f.c (aV ()).2.2.1.b (K.1.b.o (by rw[K.1.e];exact Up (Up rfl)));obtain⟨D,E,G,H⟩:=a6 () X cS;clear cR cS a4 bh cM cN dj dk dl dm dn dp dq cO;go_wp2_with fail;refine Uq (cj () X (ae.a aa X)) ?_;rintro aJ bC ⟨rfl,dy,ba,bb,bc,bd,cT⟩;have dz:=@af _ (K.1.j M.1 (aV ()).2.1 (aV ()).2.2.1 (aV ()).2.2.2.1 ba bb bc bd cT);clear cj ba bb bc bd cT D E G H;go_wp2;exact⟨⟨o+1,dy,by have:=cd;omega,by go_num,by have:=dz;rw[di]at this;exact this⟩,by have:=cd;simp[intOf];omega⟩
  .have dA(_:=()):o=y.length:=by have:=K.2;omega
   have df:¬((o:Int)<y.length):=by omega
   clear ca bf C az be cF cb cc z ao u D E G H;go_wp2;go_ret;have g:=K.1;rw[dA]at g;obtain⟨bJ,bK,bL⟩:=g.i;have cJ:=ay.2.2.1;refine⟨rfl,_,bJ,?_,bL,rfl,⟨g.a.d,λdB s dD=>?_,g.a.c,g.a.f,g.a.b,g.a.e,g.a.g⟩,g.d⟩;rw[bK,AN.x,s7 t.2.1,ay.1,ay.2.1];have bw:(a.a.f k).w e a5=b:=by rw[<-(m ()).2.2.1];exact Ik i.2.1 i.2.2.1 i.2.2.2.1
   have bz:(a.a.f k).K e b (eK aM)=n.e.b q:=by rw[<-(m ()).2.2.1,AN.K,vM i.2.1 i.2.2.2.2.1,b6]
   show _=(a.a.f k).M ⟨a5,e,aM,bU⟩;unfold AN.M;simp only[bw,bz,b6 ()];obtain⟨dE,dF,dO⟩:=g.a.a dB s dD;exact⟨dE,dF,by omega⟩
end Go.Proofs.YtlfijfodklhplaaGreat
