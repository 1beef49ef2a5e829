import Derived.Test.YtlfijfodklhplaaGreatAl02
import Derived.Test.YtlfijfodklhplaaGreatAl03
import Derived.Test.YtlfijfodklhplaaGreatAl04
import Derived.Laws.BytesString
import Derived.Laws.IdiomStrings
set_option maxRecDepth 100000
set_option maxHeartbeats 1000000
set_option linter.all false
open Go.RowKit Go.Proofs.Tryz
open Go.Value renaming int->I,slice->L,pointer->P,bool->B
open Go.IntKind renaming i64->J
open Option renaming some->S,none->N
open Bool renaming true->T,false->F
namespace Go.Proofs.YtlfijfodklhplaaGreat
def nQ(a k:Nat):Nat:=if k%3=0 then a%256 else if k%3=1 then a/256%256 else 201
def wI(a k:Nat)(i:(a:Int)<4611686018427387904)(j:(k:Int)<4611686018427387904)(d):
 Cr 47 #[.int J a,.int J k] d (.int .u8 ((nQ a k:Nat):Int)) λf=>d=f:=by
 have g:k%3=0\/k%3=1\/k%3=2:=by omega
 obtain b|b|b:=g
 .have c:Hid (IntKind.u8.wrap (a:Int)=((nQ a k:Nat):Int)):=by show IntKind.u8.wrap (a:Int)=_;rw[Wf,nQ,UG b];omega
  have e:(((k:Int)%3)==0)=T:=by rw[V9];omega
  clear b;go_enter func47,ntmps47;go_wp2;go_ret;exact⟨rn c.out,rfl⟩
 .have c:Hid (IntKind.u8.wrap ((a:Int)/256)=((nQ a k:Nat):Int)):=by show IntKind.u8.wrap ((a:Int)/256)=_;rw[Wf,nQ,Us (by omega),UG b];omega
  have e:(((k:Int)%3)==0)=F:=by rw[Uy];omega
  have h:(((k:Int)%3)==1)=T:=by rw[V9];omega
  clear b;go_enter func47,ntmps47;go_wp2;go_ret;exact⟨rn c.out,rfl⟩
 .have c:Hid ((201:Int)=((nQ a k:Nat):Int)):=by show (201:Int)=_;rw[nQ,Us (by omega),Us (by omega)];rfl
  have e:(((k:Int)%3)==0)=F:=by rw[Uy];omega
  have h:(((k:Int)%3)==1)=F:=by rw[Uy];omega
  clear b;go_enter func47,ntmps47;go_wp2;go_ret;exact⟨rn c.out,rfl⟩
def lA(a:List Nat):ByteArray:=(a.map (λb:Nat=>(b:Int))).foldl (λc d=>c.push (UInt8.ofNat d.toNat)) ByteArray.empty
def EE(b:List Nat)(a:ByteArray):((b.map (λc:Nat=>(c:Int))).foldl (λa d=>a.push (UInt8.ofNat d.toNat)) a).data.toList=a.data.toList++b.map UInt8.ofNat:=by
 induction b generalizing a with
 |nil=>simp
 |cons c f e=>simp only[WV,WE];rw[e];simp[ByteArray.push]
def EF(a):(lA a).toList=a.map UInt8.ofNat:=by rw[ByteArray.toList_eq,lA,EE];rfl
def P5{a c:List Nat}(d:∀b∈a,b<256)(f:∀b∈c,b<256)(g:a.map UInt8.ofNat=c.map UInt8.ofNat):a=c:=by
 have e:∀a:List Nat,(∀b∈a,b<256)->(a.map UInt8.ofNat).map UInt8.toNat=a:=λa d=>by
  rw[Wj];conv=>rhs;rw[<-List.map_id a]
  refine Xk λb h=>?_;simp only[Function.comp,id,UInt8.toNat_ofNat'];have:=d b h;omega
 rw[<-e a d,<-e c f,g]
def yf(a b)(d:∀c∈a,c<256)(e:∀c∈b,c<256):((lA a).toList==(lA b).toList)=decide (a=b):=by rw[EF,EF,WG,V9,UV];exact⟨P5 d e,λf=>by rw[f]⟩
def mM(b c d e a)(f:fE b c d a):(convert 56 9 (L (S ⟨c,d,N⟩) a.length e)).run prog b= .ok (.string (lA a)) b:=by rw[run_convert_bytes_string b 56 9 5 (S ⟨c,d,N⟩) a.length e underlying56 underlying5 underlying9];refine run_bytesToString b ⟨c,d,N⟩ a.length e (a.map (λg:Nat=>(g:Int))) ?_;have:=run_loadCells_list (P:=prog) b ⟨c,d,N⟩ (a.map bv) (EL f);rw[UX]at this;rw[this,Wj];rfl
def ES(a):(convert 56 9 (L N 0 0)).run prog a= .ok (.string (lA [])) a:=by rw[run_convert_bytes_string a 56 9 5 N 0 0 underlying56 underlying5 underlying9];rfl
def s8(a:Nat):ByteArray:=(⟨#[48,49,50,51,52,53,54,55,56,57]⟩:ByteArray).extract (a%10) (a%10+1)
def Md(a):(s8 a).size<=1:=by unfold s8;rw[ByteArray.size_extract];omega
def tB:Nat->ByteArray->Nat->ByteArray
 |0,a,_=>a
 |c+1,a,b=>if b/10=0 then a++s8 b else tB c (a++s8 b) (b/10)
def GR:∀b c d a,a<b->a<c->tB b d a=tB c d a
 |0,_,_,_,e,_=>by omega
 |_+1,0,_,_,_,e=>by omega
 |b+1,c+1,d,a,f,g=>by simp only[tB];split;rfl;exact GR b c _ _ (by omega) (by omega)
def kM(b:ByteArray)(a:Nat):ByteArray:=tB (a+1) b a
def QE{b a}(c:a/10=0):kM b a=b++s8 a:=by unfold kM tB;rw[UG c]
def QF{b a}(c:¬a/10=0):kM b a=kM (b++s8 a) (a/10):=by unfold kM;rw[tB,Us c];exact GR _ _ _ _ (by omega) (by omega)
def GS(b:Nat)(i)(j:(b:Int)<1099511627776):
 Cr 100 #[.int J b] i (.string (kM ⟨#[80]⟩ b)) λo=>o=i:=by
 have k:=@af _ j;clear j;go_enter func100,ntmps100;go_wp2_with fail;go_loop [0,3] (λg p=>∃(a:Nat)(c:ByteArray),a<=b/\g= .int J a/\p= .string c/\kM c a=kM ⟨#[80]⟩ b/\c.size+a<=b+1) λg _=>(intOf g).toNat;case atStart=>exact⟨b,⟨#[80]⟩,UF _,rfl,rfl,rfl,by simp[ByteArray.size];omega⟩
 case round=>
  obtain⟨a,c,l,rfl,rfl,m,n⟩:=hrel;have s:(0:Int)<=(a:Int):=by omega
  have d(_:=()):(a:Int)<1099511627776/\a<=b/\kM c a=kM ⟨#[80]⟩ b/\c.size+a<=b+1:=⟨by have:=k;omega,l,m,n⟩
  have f(_:=()):wrap64 ((a:Int)/10)=((a/10:Nat):Int):=by have:=d;unfold wrap64;omega
  clear l m n;go_wp2_with fail;all_goals try (exfalso;rename_i e;have q:=d;have r:=k;omega)
  .have e:(wrap64 ((a:Int)/10)==0)=T:=by assumption
   rw[f]at e;have h:a/10=0:=by simp at e;omega
   go_ret;refine⟨?_,rfl⟩;rw[<-d.2.2.1,QE h];rfl
  have e:(wrap64 ((a:Int)/10)==0)=F:=by assumption
  rw[f]at e;have h:¬a/10=0:=by simp at e;omega
  refine⟨⟨a/10,c++s8 a,by have:=d;omega,by rw[f],rfl,?_,?_⟩,?_⟩;rw[<-QF h];exact d.2.2.1;rw[ByteArray.size_append];have q:=Md a;have r:=d;omega;rw[f];simp[intOf];omega
def bl(a:ByteArray):List Nat:=a.data.toList.map (·.toNat)
def A2(a):(bl a).length=a.size:=by unfold bl;rw[UX,Array.length_toList];rfl
def Lj(a):lA (bl a)=a:=by
 have c:=EE (bl a) ByteArray.empty;have d:(bl a).map UInt8.ofNat=a.data.toList:=by
  unfold bl;rw[Wj];conv=>rhs;rw[<-List.map_id a.data.toList]
  apply Xk;intro f _;simp
 rw[d]at c;have b:(lA (bl a)).data.toList=a.data.toList:=by unfold lA;rw[c];rfl
 cases e:lA (bl a)with
 |mk g=>
  rw[e]at b;cases a with
  |mk h=>
   simp only at b;congr 1;exact XS b
def Lq(b a):∃d c,(convert 9 56 (.string a)).run prog b= .ok (L (S ⟨b.heap.size,0,N⟩) (bl a).length d) c/\fE c b.heap.size 0 (bl a)/\ae aa b c/\c.heap.size=b.heap.size+1/\(bl a).length<=d:=by
 have h:=run_bytes_of_string (P:=prog) b 9 56 5 a underlying9 underlying56 underlying5;refine⟨_,_,by rw[h,A2],λe f=>?_,((ae.a aa b).drew).b _,by simp,by rw[A2];exact XB b a.size 0 _⟩;rw[Ve];have i:=World.cell?_alloc_mark b.drew (bytesRow a (grownCap b a.size 0 5)) 5 ((bytesRow a (grownCap b a.size 0 5)).size,(bytesRow a (grownCap b a.size 0 5)).size+1) e;refine i.trans ?_;have g:e<a.data.size:=by rw[A2]at f;exact f
 unfold bytesRow;rw[WI (by rw[Array.size_map];exact g),Array.getElem?_map,Array.getElem?_eq_getElem g];simp[bl]
def ld(d:World)(e:Option Addr)(f g:Nat)(h:Nat->Value):Prop:=∀b c,e=S ⟨b,c,N⟩->∀a,a<f*g->d.cell? ⟨b,c+a,N⟩=S (h a)
def ld.b{f c w' d g h i}(m:ld c d g h i)(k:ae f c w')(j:∀a,ag d a->a<c.heap.size/\¬f a):ld w' d g h i:=λa b e l n=>
 (k.f a (b+l) (j a ⟨b,e⟩).1 (j a ⟨b,e⟩).2).trans (m a b e l n)
def ld.e{k f l m g}(n:ld k f l m g)(c d b)(p:∀a,f=S ⟨c,a,N⟩->a=d):ld (k.setCell ⟨c,d+b,N⟩ (g b)) f l m g:=by
 intro h a i e o;by_cases j:(⟨c,d+b,N⟩:Addr)=⟨h,a+e,N⟩
 have q:c=h:=by injection j
 have t:d+b=a+e:=by injection j
 subst q;have r:=p a i;have s:b=e:=by omega
 subst r s;exact WT _ _ _ (n c a i b o);rw[WL _ _ _ _ j];exact n h a i e o
def nO(c:World)(d e:Nat)(f:Nat->Value)(a:Nat):Nat->World
 |0=>c
 |b+1=>(nO c d e f a b).setCell ⟨d,e+(a+b),N⟩ (f (a+b))
def ld.c{g d h i e}(j:ld g d h i e)(a b f)(k:∀l,d=S ⟨a,l,N⟩->l=b):∀c,ld (nO g a b e f c) d h i e
 |0=>j
 |c+1=>(ld.c j a b f k c).e a b (f+c) k
def GY{g e f mk b}:∀c,(∀a,a<c->∃d,g.cell? ⟨e,f+(b+a),N⟩=S d)->∀a,(a<c->(nO g e f mk b c).cell? ⟨e,f+(b+a),N⟩=S (mk (b+a)))/\((∃d,g.cell? ⟨e,f+(b+a),N⟩=S d)->∃d,(nO g e f mk b c).cell? ⟨e,f+(b+a),N⟩=S d)
 |0,_,a=>⟨λj=>by omega,id⟩
 |c+1,k,a=>by have h:=GY (mk:=mk) c (λa l=>k a (by omega));refine⟨λl=>?_,λj=>let ⟨d,i⟩:=(h a).2 j;LF i⟩;by_cases m:a=c;subst m;obtain⟨d,i⟩:=(h a).2 (k a l);exact WT _ _ _ i;rw[nO,WL _ _ _ _ λn=>m (by injection n;omega)];exact(h a).1 (by omega)
def ld.d{g c d b a h}(j:ld g (S ⟨c,d,N⟩) b a h)(k:∀e,e<a->∃l,g.cell? ⟨c,d+(b*a+e),N⟩=S l):ld (nO g c d h (b*a) a) (S ⟨c,d,N⟩) (b+1) a h:=by
 intro o p m f n;cases m;by_cases i:f<b*a;exact j.c c d _ (λq i=>by cases i;rfl) a c d rfl f i;obtain⟨e,rfl⟩:∃e,f=b*a+e:=⟨f-b*a,by omega⟩
 rw[V6]at n;exact(GY a k e).1 (by omega)
def Ls.b(a:TypeId)(b:Nat)(c:World)(t:Ls):Prop:=∃d,RV c a b t.a t.n t.c d
def Ls.b.c{c d a}{t:Ls}(e:t.b c d a):∀b,ag t.a b->b<a.heap.size:=let ⟨g,f⟩:=e;f.b
def Ls.b.b{j a f}{t:Ls}(k:t.b j a f){b}(l:b<t.n):∃c e,t.a=S ⟨c,e,N⟩/\c<f.heap.size/\∀d,d<a->(∃m,f.cell? ⟨c,e+(b*a+d),N⟩=S m)/\f.frozen? ⟨c,e+(b*a+d),N⟩=F:=by
 obtain⟨i,o,p,g⟩:=k;obtain⟨_,g,_⟩|⟨c,e,g,h⟩:=g;omega;refine⟨c,e,g,h.b,λd q=>⟨?_,h.c _⟩⟩;have n:b*a+d<i.length:=by have:=V8 a (show b+1<=t.n from l);rw[V6]at this;omega
 exact⟨i[b*a+d],h.a _ _ (Um n)⟩
def Ls.b.a{b c d}{t:Ls}(e:t.b b c d)(f g h i):∀a,t.b b c (nO d f g h i a)
 |0=>e
 |a+1=>let ⟨_,j⟩:=Ls.b.a e f g h i a;Se j _ _ _
def GZ{a c d}(e:ae a c d){f}(g:a f)(h i j):∀b,ae a c (nO d f h i j b)
 |0=>e
 |b+1=>(GZ e g h i j b).e (λ_=>g) _
structure qY(g:TypeId)(e:Nat)(h:Nat->Value)(i wr:World)(S:List Ls)(k:Nat):Prop where
 a:ae (λj=>∃d∈S,ag d.a j) i wr
 b:∀d∈S,d.b g e wr
 c:∀f d,f<k->S[f]?=some d->ld wr d.a d.n e h
def qY.e{f c d j wr S k}(i:qY f c d j wr S k)(e a p)(q:∃b∈S,b.a=some ⟨e,a,N⟩)(r:∀b∈S,∀s∈S,∀l a g,b.a=some ⟨l,a,N⟩->s.a=some ⟨l,g,N⟩->a=g):qY f c d j (nO wr e a d (p*c) c) S k:=by obtain⟨m,n,o⟩:=q;exact⟨GZ i.a ⟨m,n,⟨a,o⟩⟩ a d _ c,λb h=>(i.b b h).a e a d _ c,λt b u h=>(i.c t b u h).c e a _ (λg f=>r b (Uo h) m n e g a f o) c⟩
def qY.d{a b c e wr S k}(d:qY a b c e wr S k)(t)(i:S[k]?=some t)(j:ld wr t.a t.n b c):qY a b c e wr S (k+1):=by refine⟨d.a,d.b,λf g l h=>?_⟩;by_cases a:f=k;grind;exact d.c f g (by omega) h
def qY.drew{b c d e wr S k}(a:qY b c d e wr S k):qY b c d e wr.drew S k:=⟨a.a.drew,a.b,a.c⟩
structure pv(d:TypeId)(e:Nat)(f w':World)(b:Option Addr)(g h:Nat)(i:List Value):Prop where
 c:ae (ag b) f w'
 a:RV w' d e b g h i
def pv.b{b c d w' e f g h}(i:pv b c d w' e f g h)(a):pv b c d (w'.alloc a) e f g h:=⟨i.c.b a,i.a.c a⟩
def pv.drew{a b c w' d e f g}(h:pv a b c w' d e f g):pv a b c w'.drew d e f g:=⟨h.c.drew,h.a.drew⟩
def pv.d{b c h w' w1 a d e f i l g m}(j:pv b c h w' a e f g)(n:RV w1 b c d (e+l) i (g++m))(o:(d=a/\i=f)\/(d=S ⟨w'.heap.size,0,N⟩/\ae aa w' w1))(k:ae (ag a) w' w1):pv b c h w1 a e f g:=⟨j.c.c k,pH j.a n o⟩
structure xQ(r:TypeId)(s:Nat)(t:TypeId)(l m:World)(o:Option Addr)(u n:Nat)(S:List Ls):Prop where
 d:ae (ag o) l m
 c:aq m n (S.map Ls.d).toArray t
 a:S.length=4
 h:∀j∈S,j.b r s m
 f:∀j∈S,j.n<=u+3
 b:∀j∈S,∀k,ag j.a k->ag o k\/l.heap.size<=k
 e:∀j∈S,∀k,ag j.a k->k≠n
 i:∀j∈S,∀v∈S,∀k p q,j.a=some ⟨k,p,N⟩->v.a=some ⟨k,q,N⟩->p=q
 g:l.heap.size<=n
def yL{o p x h w1 E f c l m n b j q r s y W X Y}(G:pv o p h (f.alloc (.cells #[L c b j,L l (b+1) q,L m (b+2) r,L n (b+3) s] x)) c b j y)(z:∀a,ag c a->a<h.heap.size)(hz3:h.heap.size<=f.heap.size)(h1:RV w1 o p l (b+1) q (y++W))(e1:(l=c/\q=j)\/∃a,l=S ⟨a,0,N⟩/\h.heap.size<=a)(k2:ae (ag c) w1 E)(h2:RV E o p m (b+2) r (y++X))(e2:(m=c/\r=j)\/∃a,m=S ⟨a,0,N⟩/\h.heap.size<=a)(k3:ae (ag c) E f)(h3:RV f o p n (b+3) s (y++Y))(e3:(n=c/\s=j)\/∃a,n=S ⟨a,0,N⟩/\h.heap.size<=a):
 xQ o p x h (f.alloc (.cells #[L c b j,L l (b+1) q,L m (b+2) r,L n (b+3) s] x)) c b f.heap.size [⟨c,b,j⟩,⟨l,b+1,q⟩,⟨m,b+2,r⟩,⟨n,b+3,s⟩]:=by
 have Q:∀ {k:Option Addr} {a:Nat},k=S ⟨a,0,N⟩->h.heap.size<=a->∀t,ag k t->¬ag c t:=λd u t g R=>by rw[d]at g;have:=cM.1 g;have:=z t R;omega
 have Z:∀A,ae (ag c) f (f.alloc A):=λA=>(ae.a _ f).b A;have H:∀ {K:World} {k:Option Addr} {M C:Nat} {U:List Value},RV K o p k (b+M) C (y++U)->((k=c/\C=j)\/∃a,k=S ⟨a,0,N⟩/\h.heap.size<=a)->(∀a,k=S ⟨a,0,N⟩->h.heap.size<=a->ae (ag c) K f)->
  Ls.b o p (f.alloc (.cells #[L c b j,L l (b+1) q,L m (b+2) r,L n (b+3) s] x)) ⟨k,b+M,C⟩/\(k=c\/∃a,k=S ⟨a,0,N⟩/\h.heap.size<=a/\a<f.heap.size):=λ{K k M C U} d aa ab=>by
  obtain⟨v,ac⟩|⟨a,v,u⟩:=aa;subst v ac;exact⟨Sg G.a _ d.2.1,Ur rfl⟩;have V:=d.a (ab a v u) (Q v u);exact⟨⟨_,V.a (Z _) (Q v u)⟩,Up ⟨a,v,u,V.b a (by rw[v];exact eN a 0)⟩⟩
 have ah:=H h1 e1 λ_ _ _=>k2.c k3;have ai:=H h2 e2 λ_ _ _=>k3;have aj:=H h3 e3 λ_ _ _=>ae.a _ _;have w:∀e∈[(⟨c,b,j⟩:Ls),⟨l,b+1,q⟩,⟨m,b+2,r⟩,⟨n,b+3,s⟩],Ls.b o p (f.alloc (.cells #[L c b j,L l (b+1) q,L m (b+2) r,L n (b+3) s] x)) e/\(e.a=c\/∃a,e.a=S ⟨a,0,N⟩/\h.heap.size<=a/\a<f.heap.size)/\e.n<=b+3:=λe i=>by simp only[UZ,U9,Wc]at i;obtain rfl|rfl|rfl|rfl:=i;exact⟨⟨_,G.a⟩,Ur rfl,by simp⟩;grind;grind;grind
 refine⟨G.c,aq.e _ _ _,rfl,λe i=>(w e i).1,λe i=>(w e i).2.2,λe i t g=>?_,λe i t g=>?_,λe i ad af t A ak d D=>?_,hz3⟩;obtain d|⟨a,d,u,_⟩:=(w e i).2.1;grind;rw[d]at g;have:=cM.1 g;exact Up (by omega);obtain d|⟨a,d,u,R⟩:=(w e i).2.1;rw[d]at g;have:=z t g;omega;rw[d]at g;have:=cM.1 g;omega;obtain O|⟨a,O,u,_⟩:=(w e i).2.1<;>obtain g|⟨al,g,am,_⟩:=(w ad af).2.1;grind;rw[O]at d;rw[g]at D;cases D;have:=z _ ⟨_,d⟩;omega;rw[O]at d;rw[g]at D;cases d;have:=z _ ⟨_,D⟩;omega;grind
def CD(m n:TypeId)(o p:Nat)(q:Nat->Value)(r:Option (Nat×List Nat))(h:Nat->Prop)(d w':World)(i s:Nat)(j:Option Addr)(t:List Value)(u:Array Value):Prop:=
 ∃(g:List Ls)(f b k:Nat),
  aq w' i (u.setIfInBounds p (L (S ⟨b,0,N⟩) (s+1) k)) 73/\
  dL w' b n 1 (t++[L (S ⟨f,0,N⟩) 4 4]) k/\(j=S ⟨b,0,N⟩\/d.heap.size<=b)/\
  aq w' f (g.map Ls.d).toArray m/\d.heap.size<=f/\f≠b/\g.length=4/\
  (∀c∈g,(c.n=0\/∃v w,c.a=S ⟨v,w,N⟩)/\ld w' c.a c.n o q/\(c.n:Int)<=140737488351310/\∀a,ag c.a a->(h a\/d.heap.size<=a)/\a≠b/\a<w'.heap.size)/\
  (∀e l,r=S (e,l)->d.heap.size<=e/\e≠b/\e<w'.heap.size/\fE w' e 0 l)/\ae (λa=>h a\/a=i\/j=S ⟨a,0,N⟩) d w'
structure CE(u:TypeId)(o:Nat)(p:TypeId)(q:Nat->Value)(l wr:World)(m:Option Addr)(r n:Nat)(S:List Ls):Prop where
 a:ae (ag m) l wr
 c:aq wr n (S.map Ls.d).toArray p
 g:∀j∈S,ld wr j.a j.n o q
 b:∀j∈S,∀k,ag j.a k->k<wr.heap.size
 d:∀j∈S,(j.n=0\/∃s t,j.a=some ⟨s,t,N⟩)
 f:S.length=4
 h:∀j∈S,∀k,ag j.a k->ag m k\/l.heap.size<=k
 e:l.heap.size<=n
 i:∀j∈S,j.n<=r+3
def EZ{d g i j k l wr m n o S}(a:xQ d g i k l m n o S)(e:qY d g j l wr S 4):CE d g i j k wr m n o S:=by refine⟨a.d.g e.a λp v ⟨b,c,f⟩=>?_,a.c.c e.a λ⟨q,r,f⟩=>a.e q r _ f rfl,λb c=>?_,λb c s f=>(e.b b c).c s f,λb c=>?_,a.a,a.b,a.g,a.f⟩;obtain h|h:=a.b b c p f;exact h;omega;obtain⟨t,u,d⟩:=U3 c;exact e.c t b (by have:=a.a;omega) (by rw[Um u,d]);obtain⟨w,_,_,h⟩:=e.b b c;grind
def TY{h}(b){u w i j x}(y:i.guard=N)(k l t)(z:i.op=Op.call {callee:=Callee.builtin Builtin.append,args:= #[k,l],argTypes:= #[t,t]})(a)(A:h.underlying t=S (.slice a))(C:(h.info? a).map (λm=>(m.zero,m.size,m.bytes))=S (S (L N 0 0),1,24)){b0 f cb}(D:j.eval k=L b0 f cb){VB out}(H:lu b b0 f cb a VB out)(ad v)(E:j.eval l=L (S ad) 1 1)(K:b.cell? ad=S v)(M:v.oneCell'=T)(U:(f:Int)<1099511627776)(hK:∀c e d,dL d c a 1 (VB++[v]) e->(b0=S ⟨c,0,N⟩\/c=b.heap.size)->ae (λn=>b0=S ⟨n,0,N⟩) b d->wpList h u x w (j.put i.dst (L (S ⟨c,0,N⟩) (f+1) e)) d):
 wpList h u x (i::w) j b:=by
 have G:∀g o,[v][g]?=S o->b.cell? (ad.add g)=S o:=λg o p=>by
  cases g with
  |zero=>simp at p;subst p;exact K
  |succ g=>simp at p
 obtain⟨rfl,rfl,rfl,rfl⟩|⟨c,rfl,O,V,_⟩:=H;exact vd b y k l t z a _ 1 24 A C rfl D ad 1 1 (by omega) E [v] rfl G (by omega) (by omega) λe d q _ r=>hK _ e d q (Up rfl) (r.d λ_ _ a=>a.elim);exact pP b y k l t z a _ 1 24 A C rfl c f cb D VB (by omega) O ad 1 1 E [v] rfl G (by simpa using M) (by omega) (by omega) λQ e d q _ R r=>hK Q e d q (R.imp (λs=>by rw[s.1]) λs=>s.1) (r.d λn _ a=>by rw[show n=c from a])
def Lg{b M O A fi Q i w wr o j R q e x ai c' f n S C D U V}(c:CE b M O Q w wr j R q S)(W:ae aa i w)(X:aq i e U 73)(Y:¬ag j e)(Z:∀m,ag j m->m<i.heap.size)(av:(R:Int)<=140737488351300)(aj:lu i n x ai A D λa=>ag j a\/a=e)(ak:dL o f A 1 (D++[L (some ⟨q,0,N⟩) 4 4]) c')(E:n=some ⟨f,0,N⟩\/f=(wr.alloc C).heap.size)(ab:ae (λa=>n=some ⟨a,0,N⟩) (wr.alloc C) o)(al:∀k y,V=some (k,y)->i.heap.size<=k/\k<w.heap.size/\fE w k 0 y):
 CD O A M fi Q V (ag j) i (o.setCell ⟨e,fi,N⟩ (L (some ⟨f,0,N⟩) (x+1) c')) e x n D U:=by
 rw[Uv]at E;have z:∀a,n=some ⟨a,0,N⟩->a<i.heap.size/\¬ag j a/\a≠e:=λa b=>by obtain⟨g,_⟩|⟨f,g,am,_,ac⟩:=aj;grind;rw[g]at b;cases b;exact⟨am.b,λb=>ac (Ur b),λb=>ac (Up b)⟩
 have aw:=W.size;have ax:=c.a.size;have an:=ab.size;rw[Uv]at an;have ay:=X.b;have ad:ae (ag j) i wr:=(W.d λ_ _ b=>b.elim).c c.a;have r:f≠e/\(∀a,i.heap.size<=a->a<wr.heap.size->a≠f)/\(∀a,ag j a->a≠f):=by obtain g|g:=E;have:=z f g;exact⟨this.2.2,λa s af=>by omega,λa l b=>this.2.1 (b▸l)⟩;exact⟨by omega,λa s af=>by omega,λa l=>by have:=Z a l;omega⟩
 have t:=((ae.a _ wr).b C).c ab;have u:ae (ap e) o (o.setCell ⟨e,fi,N⟩ (L (some ⟨f,0,N⟩) (x+1) c')):=(ae.a (ap e) o).e (p:=⟨e,fi,N⟩) (λ_=>rfl) _;have G:∀a,i.heap.size<=a->¬n=some ⟨a,0,N⟩:=λa s b=>by have:=(z a b).1;omega
 have H:∀d∈S,∀a,ag d.a a->(ag j a\/i.heap.size<=a)/\¬n=some ⟨a,0,N⟩/\a≠e/\a≠f:=λd h a l=>by obtain g|g:=c.h d h a l;exact⟨Ur g,λb=>(z a b).2.1 g,λb=>Y (b▸g),r.2.2 a g⟩;exact⟨Up (by omega),G a (by omega),by omega,r.2.1 a (by omega) (c.b d h a l)⟩
 have az:=c.e;refine⟨S,q,f,c',((X.c ad Y).c t λb=>(z e b).2.2 rfl).f fi _,ak.a u λb=>r.1 b,E.imp id (λg=>by omega),(c.c.c t (G q (by omega))).c u (λb=>by simp only[ap]at b;omega),by omega,r.2.1 q (by omega) c.c.b,c.f,λd h=>⟨c.d d h,?_,by have:=c.i d h;omega,λa l=>?_⟩,λk y ao=>?_,?_⟩;exact((c.g d h).b t λm v=>⟨c.b d h m v,(H d h m v).2.1⟩).b u (λm v=>⟨by have:=c.b d h m v;omega,λb=>(H d h m v).2.2.1 b⟩);have s:=H d h a l;have af:=c.b d h a l;exact⟨s.1,s.2.2.2,by simp only[VS];omega⟩;obtain⟨K,ar,au⟩:=al k y ao;exact⟨K,r.2.1 k K (by omega),by simp only[VS];omega,((au.a c.a ar λb=>by have:=Z k b;omega).a t (by omega) (G k K)).a u (by omega) λb=>by simp only[ap]at b;omega⟩;exact((ad.d λah _ b=>Ur b).c (t.d λah _ b=>Up (Up b))).c (u.d λah _ b=>Up (Ur b))
def uB:Nat->TypeId
 |0=>5
 |1=>30
 |2=>76
 |3=>58
 |4=>3
 |_=>56
def vX:Nat->TypeId
 |0=>56
 |1=>26
 |2=>112
 |3=>54
 |4=>25
 |_=>105
def qx:Nat->TypeId
 |0=>106
 |1=>109
 |2=>111
 |3=>161
 |4=>163
 |_=>166
def jA:Nat->Nat
 |1=>3
 |2=>4
 |3=>3
 |_=>1
def qq(b a:Nat)(z:Value):List Value:=match b with
 |1=>[I J (-7070-(a:Int)),I J 0,I J 0]
 |2=>[I J (-7070-(a:Int)),I J 0,I J 0,B F]
 |3=>[I J (-7070-(a:Int)),I J 0,L N 0 0]
 |4=>[I J (-7070-(a:Int))]
 |_=>[z]
def r9(a b:Nat)(z:Value)(c:Nat):Value:=if a=0 then bv (nQ b c)else (qq a b z).getD (c%jA a) z
def ve(a b c:Nat):Option (Nat×List Nat):=if a=5 then S (c,bl (kM ⟨#[80]⟩ b))else N
def rr(a b c:Nat):Value:=L (S ⟨b,0,N⟩) (bl (kM ⟨#[80]⟩ a)).length c
def Bk(a:Nat)(d:Nat->Prop)(e w':World)(f b:Nat)(g:Option Addr)(h:List Value)(i:Array Value):Prop:=
 ∃c j,CD (vX a) (qx a) (jA a) (a+2) (r9 a b (rr b c j)) (ve a b c) d e w' f b g h i
def TK(b c d e:Nat)(a:List Nat)(k:Nat)(f:World)(g:Rd f b c d e a k)(h:k+1<a.length):
 Cr 211 #[P (S ⟨b,0,N⟩)] f (.int J ((a[k]*256+a[k+1]:Nat):Int)) λi=>Rd i b c d e a (k+2)/\ae (ap b) f i:=by
 have j:=g.e _ (Vk (show k<a.length by omega));have l:=g.e _ (Vk h);go_enter func211,ntmps211;go_wp2_with fail;refine(uU b c d e a k _ g (by omega)).mono ?_;rintro m r ⟨rfl,n,o⟩;go_wp2_with fail;refine(uU b c d e a (k+1) _ n h).mono ?_;rintro m s ⟨rfl,p,q⟩;go_wp2;go_ret;exact⟨rn (Fr.Ix _ _ j l),p,o.c q⟩
def zo(a c d e b k g)(i:Rd g a c d e b k)(j:b.length<=k+1):
 Calls prog 211 #[P (S ⟨a,0,N⟩)] g λf l=>f= .panicked oT/\ae (ap a) g l:=by
 by_cases m:k<b.length
 .go_enter func211,ntmps211;go_wp2_with fail;refine(uU a c d e b k _ i m).mono ?_;rintro f n ⟨rfl,o,h⟩;go_wp2_with fail;refine(uT a c d e b (k+1) _ o j).mono ?_;rintro f q ⟨rfl,p⟩;exact⟨rfl,rfl,h.c p⟩
 .go_enter func211,ntmps211;go_wp2_with fail;refine(uT a c d e b k _ i (by omega)).mono ?_;rintro f n ⟨rfl,h⟩;exact⟨rfl,rfl,h⟩
def No(b c d e a k f)(h:Rd f b c d e a k)(i:k<a.length)(n:a[k]<=1):
 Cr 227 #[P (S ⟨b,0,N⟩)] f (B (a[k]==1)) λg=>Rd g b c d e a (k+1)/\ae (ap b) f g:=by
 go_enter func227,ntmps227;go_wp2_with fail;refine(uU b c d e a k _ h i).mono ?_;rintro j o ⟨rfl,l,m⟩;have p:decide ((a[k]:Int)<=1)=T:=by simp;omega
 go_wp2_with fail;refine(qs _).mono ?_;rintro j q ⟨rfl,rfl⟩;go_wp2;go_ret;exact⟨pG (by rw[WG,V9,V9];omega),l,m⟩
def Nn(b d e f a k g)(l:Rd g b d e f a k)(h:∀i:k<a.length,¬a[k]<=1):
 Calls prog 227 #[P (S ⟨b,0,N⟩)] g λc m=>c= .panicked oT/\ae (ap b) g m:=by
 by_cases i:k<a.length
 .have o:=h i;clear h;go_enter func227,ntmps227;go_wp2_with fail;refine(uU b d e f a k _ l i).mono ?_;rintro c n ⟨rfl,p,j⟩;generalize a[k]=x at *;have q:decide ((x:Int)<=1)=F:=by simp;omega
  go_wp2_with fail;refine(tt _).mono ?_;rintro c r ⟨rfl,rfl⟩;exact⟨rfl,rfl,j⟩
 .clear h;go_enter func227,ntmps227;go_wp2_with fail;refine(uT b d e f a k _ l (by omega)).mono ?_;rintro c n ⟨rfl,j⟩;exact⟨rfl,rfl,j⟩
def tA(a d e f b k c)(i:Rd c a d e f b k)(g)(j:b[k]?=S g):
 Cr 225 #[P (S ⟨a,0,N⟩)] c (.int J g) λh=>Rd h a d e f b (k+1)/\ae (ap a) c h:=by
 obtain⟨l,m⟩:=Ul.1 j;subst m;exact uU a d e f b k c i l
def tI(b d e f a k c)(j:Rd c b d e f a k)(g h)(l:a[k]?=S g)(m:a[k+1]?=S h):
 Cr 211 #[P (S ⟨b,0,N⟩)] c (.int J ((g:Int)*256+(h:Int))) λi=>Rd i b d e f a (k+2)/\ae (ap b) c i:=by
 obtain⟨r,n⟩:=Ul.1 l;obtain⟨o,p⟩:=Ul.1 m;subst n p;have:=TK b d e f a k c j o;have q:((a[k]*256+a[k+1]:Nat):Int)=(a[k]:Int)*256+(a[k+1]:Int):=by omega
 rw[q]at this;exact this
def Fk(a d e f b k c)(i:Rd c a d e f b k)(g)(j:b[k]?=S g)(l:g<=1):
 Cr 227 #[P (S ⟨a,0,N⟩)] c (B (g==1)) λh=>Rd h a d e f b (k+1)/\ae (ap a) c h:=by
 obtain⟨m,n⟩:=Ul.1 j;subst n;exact No a d e f b k c i m l
abbrev mc(k a b:Int)(c:Bool):Array Value:= #[I J k,I J a,I J b,B c]
structure MS(w0 b:World)(d g h i:Nat)(j:List Nat)(k:Nat)(l:Array Value):Prop where
 a:Rd b d g h i j k
 m:aq b (w0.heap.size+1) l 76
 r:aq b w0.heap.size (mc 0 0 0 F) 76
 c:ae (ap d) w0 b
 e:d<w0.heap.size
 f:g<w0.heap.size
def MS.b{w0 h w1 b c d e f k i j}(a:MS w0 h b c d e f k j)(l:Rd w1 b c d e f i)(g:ae (ap b) h w1):MS w0 w1 b c d e f i j:=by have m:=a.e;exact⟨l,a.m.c g (by simp only[ap];omega),a.r.c g (by simp only[ap];omega),a.c.c g,a.e,a.f⟩
def MS.d{w0 d e f g h i k j}(a:MS w0 d e f g h i k j)(b c):MS w0 (d.setCell ⟨w0.heap.size+1,b,N⟩ c) e f g h i k (j.setIfInBounds b c):=by have n:=a.e;have o:=a.f;have l:=(ae.a (ap (w0.heap.size+1)) d).e (p:=⟨w0.heap.size+1,b,N⟩) (λ_=>rfl) c;exact⟨a.a.d _ _ (by simp;omega) (by simp;omega),a.m.f b c,a.r.c l (by simp only[ap];omega),a.c.e (p:=⟨w0.heap.size+1,b,N⟩) (λm=>by simp at m;omega) c,a.e,a.f⟩
def MS.g{a c d e f g k}(b:Rd a c d e f g k):MS a ((a.alloc (.cells (mc 0 0 0 F) 76)).alloc (.cells (mc 0 0 0 F) 76)) c d e f g k (mc 0 0 0 F):=
 ⟨(b.b _).b _,aq.h _ _ _ _ (by simp),(aq.e _ _ _).g _,((ae.a _ _).b _).b _,b.g,b.c⟩
def MS.h{w0 g h i j l m k n}(b:MS w0 g h i j l m k n)(c d e f):
 Rd ((((g.setCell ⟨w0.heap.size,0,N⟩ (.int J c)).setCell ⟨w0.heap.size,1,N⟩ (.int J d)).setCell ⟨w0.heap.size,2,N⟩ (.int J e)).setCell ⟨w0.heap.size,3,N⟩ (B f)) h i j l m k/\
 ae (ap h) w0 ((((g.setCell ⟨w0.heap.size,0,N⟩ (.int J c)).setCell ⟨w0.heap.size,1,N⟩ (.int J d)).setCell ⟨w0.heap.size,2,N⟩ (.int J e)).setCell ⟨w0.heap.size,3,N⟩ (B f))/\
 aq ((((g.setCell ⟨w0.heap.size,0,N⟩ (.int J c)).setCell ⟨w0.heap.size,1,N⟩ (.int J d)).setCell ⟨w0.heap.size,2,N⟩ (.int J e)).setCell ⟨w0.heap.size,3,N⟩ (B f)) w0.heap.size (mc c d e f) 76:=by
 have o:=b.e;have p:=b.f;refine⟨?_,?_,(((b.r.f 0 (I J c)).f 1 (I J d)).f 2 (I J e)).f 3 (B f)⟩;exact(((b.a.d _ _ (by simp;omega) (by simp;omega)).d _ _ (by simp;omega) (by simp;omega)).d _ _ (by simp;omega) (by simp;omega)).d _ _ (by simp;omega) (by simp;omega);exact(((b.c.e (λa=>by simp at a) _).e (λa=>by simp at a) _).e (λa=>by simp at a) _).e (λa=>by simp at a) _
def O5(f m n o b k q)(G:Rd q f m n o b k)(h i g j l)(ac:b[k]?=S h)(ad:b[k+1]?=S i)(af:b[k+2]?=S g)(ag:b[k+3]?=S j)(ah:b[k+4]?=S l)(ai:g<=1)(au:bJ (h:Int) (i:Int) ((j:Int)*256+(l:Int)) (g==1)=T):
 Cr 226 #[P (S ⟨f,0,N⟩)] q (.agg (mc (h:Int) (i:Int) ((j:Int)*256+(l:Int)) (g==1))) λH=>Rd H f m n o b (k+5)/\ae (ap f) q H:=by
 have y:=MS.g G;clear G;go_enter func226,ntmps226;go_wp2_with fail;refine(tA f m n o b k _ y.a h ac).mono ?_;rintro c av ⟨rfl,K,M⟩;have r:=y.b K M;have a:=r.m.a 0;have d:=r.m.d 0;simp at a;go_wp2_with fail;have z:=r.d 0 (I J h);refine(tA f m n o b (k+1) _ z.a i ad).mono ?_;rintro c aw ⟨rfl,O,Q⟩;have s:=z.b O Q;clear a d y r z K M O Q;have a:=s.m.a 1;have d:=s.m.d 1;simp at a;go_wp2_with fail;have A:=s.d 1 (I J i);refine(Fk f m n o b (k+2) _ A.a g af ai).mono ?_;rintro c ax ⟨rfl,R,U⟩;have t:=A.b R U;clear a d s A R U;have a:=t.m.a 3;have d:=t.m.d 3;simp at a;go_wp2_with fail;have C:=t.d 3 (B (g==1));refine(tI f m n o b (k+3) _ C.a j l ag ah).mono ?_;rintro c aj ⟨rfl,V,W⟩;have p:=C.b V W;clear a d t C V W;have u:=p.m.a 0;have a:=p.m.a 1;have d:=p.m.a 2;have w:=p.m.a 3;have X:=p.m.d 2;simp at u a d w;go_wp2_with fail;have D:MS q (aj.setCell ⟨q.heap.size+1,2,N⟩ (I J ((j:Int)*256+(l:Int)))) f m n o b (k+5) (mc (h:Int) (i:Int) ((j:Int)*256+(l:Int)) (g==1)):=p.d 2 _;refine(uM _ _ _ _ _).mono ?_;rintro c ay ⟨rfl,E⟩;have e:=D.b (D.a.f E (λc=>c) λc=>c) (E.d λ_ _ c=>c.elim);clear u a d w X p D E;have u:=e.m.a 0;have a:=e.m.a 1;have d:=e.m.a 2;have w:=e.m.a 3;have X:=λak=>e.r.d ak;have al:=e.r.a 0;have am:=e.r.a 1;have an:=e.r.a 2;have ao:=e.r.a 3;simp at u a d w al am an ao;go_wp2_with fail;refine(qs _).mono ?_;rintro c az ⟨rfl,rfl⟩;go_wp2;obtain⟨aq,ar,x⟩:=e.h (h:Int) (i:Int) ((j:Int)*256+(l:Int)) (g==1);have Y:=x.a 0;have Z:=x.a 1;have aa:=x.a 2;have ab:=x.a 3;simp at Y Z aa ab;exact UO (v:= .agg (mc (h:Int) (i:Int) ((j:Int)*256+(l:Int)) (g==1))) (by simp[results,results226,go_sem,Y,Z,aa,ab]) rfl ⟨rfl,aq,ar⟩
def D4(a:List Nat)(k:Nat):Prop:=∃c d b e f:Nat,a[k]?=S c/\a[k+1]?=S d/\a[k+2]?=S b/\a[k+3]?=S e/\a[k+4]?=S f/\b<=1/\bJ (c:Int) (d:Int) ((e:Int)*256+(f:Int)) (b==1)=T
def oK(a:List Nat)(k)(b:k<a.length):∃c,a[k]?=S c:=⟨a[k],Um b⟩
def O4(d f g h a k q)(H:Rd q d f g h a k)(ac:¬D4 a k):
 Calls prog 226 #[P (S ⟨d,0,N⟩)] q λc ad=>c= .panicked oT/\ae (ap d) q ad:=by
 have r:=MS.g H;clear H;go_enter func226,ntmps226;go_wp2_with fail;by_cases b:a.length<=k;refine(uT d f g h a k _ r.a b).mono ?_;rintro c af ⟨rfl,v⟩;exact⟨rfl,rfl,r.c.c v⟩;obtain⟨m,K⟩:=oK a k (by omega);clear b;refine(tA d f g h a k _ r.a m K).mono ?_;rintro c af ⟨rfl,M,v⟩;have w:=r.b M v;have e:=w.m.a 0;have i:=w.m.d 0;simp at e;go_wp2_with fail;have s:=w.d 0 (I J m);by_cases b:a.length<=k+1;refine(uT d f g h a (k+1) _ s.a b).mono ?_;rintro c ag ⟨rfl,x⟩;exact⟨rfl,rfl,s.c.c x⟩;obtain⟨n,O⟩:=oK a (k+1) (by omega);clear b;refine(tA d f g h a (k+1) _ s.a n O).mono ?_;rintro c ag ⟨rfl,Q,x⟩;have y:=s.b Q x;clear e i r w s M v Q x;have e:=y.m.a 1;have i:=y.m.d 1;simp at e;go_wp2_with fail;have t:=y.d 1 (I J n);by_cases b:∃z:k+2<a.length,a[k+2]<=1
 .obtain⟨b,A⟩:=b;obtain⟨j,C⟩:=oK a (k+2) b;replace A:j<=1:=by rw[Um b]at C;cases C;exact A
  clear b;refine(Fk d f g h a (k+2) _ t.a j C A).mono ?_;rintro c ah ⟨rfl,R,D⟩;have E:=t.b R D;clear e i y t R D;have e:=E.m.a 3;have i:=E.m.d 3;simp at e;go_wp2_with fail;have u:=E.d 3 (B (j==1));by_cases b:a.length<=k+3+1;refine(zo d f g h a (k+3) _ u.a b).mono ?_;rintro c U ⟨rfl,G⟩;exact⟨rfl,rfl,u.c.c G⟩;obtain⟨o,V⟩:=oK a (k+3) (by omega);obtain⟨p,W⟩:=oK a (k+4) (by omega);clear b;refine(tI d f g h a (k+3) _ u.a o p V W).mono ?_;rintro c U ⟨rfl,X,G⟩;have l:=u.b X G;clear e i E u X G;have al:bJ (m:Int) (n:Int) ((o:Int)*256+(p:Int)) (j==1)=F:=by
   cases z:bJ (m:Int) (n:Int) ((o:Int)*256+(p:Int)) (j==1)with
   |false=>rfl
   |true=>exact absurd ⟨m,n,j,o,p,K,O,C,V,W,A,z⟩ ac
  have Y:=l.m.a 0;have e:=l.m.a 1;have i:=l.m.a 2;have Z:=l.m.a 3;have ai:=l.m.d 2;simp at Y e i Z;go_wp2_with fail;have aa:MS q (U.setCell ⟨q.heap.size+1,2,N⟩ (I J ((o:Int)*256+(p:Int)))) d f g h a (k+5) (mc (m:Int) (n:Int) ((o:Int)*256+(p:Int)) (j==1)):=l.d 2 _;refine(uM _ _ _ _ _).mono ?_;rintro c am ⟨rfl,ab⟩;have aj:=aa.c.c (ab.d λ_ _ c=>c.elim);clear Y e i Z ai l aa ab;go_wp2_with fail;refine(tt _).mono ?_;rintro c an ⟨rfl,rfl⟩;exact⟨rfl,rfl,aj⟩
 refine(Nn d f g h a (k+2) _ t.a λz ak=>b ⟨z,ak⟩).mono ?_;rintro c ah ⟨rfl,D⟩;exact⟨rfl,rfl,t.c.c D⟩
def FB(a b:Nat)(c:a<65536)(d:b<65536):bits .xor J (a:Int) (b:Int)=((a ^^^ b:Nat):Int):=by have e:=Fr.qH c d;show IntKind.i64.wrap ((BitVec.ofInt 64 (a:Int) ^^^ BitVec.ofInt 64 (b:Int)).toNat:Int)=_;rw[BitVec.toNat_xor,ofInt_u64 _ (by omega),ofInt_u64 _ (by omega),VM];omega
def Rt(b a:Nat)(c:b<65536)(e:a<256):bits .xor J (b:Int) (256*(a:Int))=((b ^^^ (a*256):Nat):Int):=by
 have d:(256*(a:Int))=((a*256:Nat):Int):=by omega
 rw[d];exact FB b (a*256) c (by omega)
def Ru(a:Nat)(b:32768<=a):bits .xor J ((2*(a:Int))%65536) 4129=((Fr.kC a:Nat):Int):=by
 have c:((2*(a:Int))%65536)=((a*2%65536:Nat):Int):=by omega
 rw[c];have:=FB (a*2%65536) 4129 (by omega) (by omega);simp only[Fr.kC,UG b];exact this
def Rv(a:Nat)(b:a<32768):(2*(a:Int))%65536=((Fr.kC a:Nat):Int):=by simp only[Fr.kC,Us (by omega:¬32768<=a)];omega
def Re(a:List Nat)(k)(b:k<a.length):Fr.cI (a.take (k+1))=Fr.lC 8 (Fr.cI (a.take k) ^^^ (a[k]*256)):=by rw[WY b,Fr.CH];rfl
def R8{b:List Nat}(c:∀a∈b,a<256)(k):∀a∈b.take k,a<256:=λa d=>c a (Wr d)
def B4(n o w a e)(r:fE e n o a)(H:a.length<140737488355328)(f:∀x∈a,x<256):
 Cr 126 #[L (S ⟨n,o,N⟩) a.length w] e (.int J ((Fr.cI a:Nat):Int)) λy=>e=y:=by
 go_enter func126,ntmps126;go_wp2;go_loop [3,4] (λg h=>∃b:Nat,b<=a.length/\h= .int J b/\g=I J ((Fr.cI (a.take b):Nat):Int)) λ_ h=>a.length-(intOf h).toNat;case atStart=>exact⟨0,Vl _,rfl,rfl⟩
 case round=>
  obtain⟨b,K,rfl,rfl⟩:=hrel;by_cases i:b<a.length
  .have z:=f _ (Vk i);have s:=Fr.n8 (a.take b) (R8 f b);have A:=r b i;have C:Hid (Fr.cI (a.take (b+1))=Fr.lC 8 (Fr.cI (a.take b) ^^^ (a[b]*256))):=Re a b i;have t:Hid (bits .xor J ((Fr.cI (a.take b):Nat):Int) (256*(a[b]:Int))=((Fr.cI (a.take b) ^^^ (a[b]*256):Nat):Int)):=Rt _ _ s z;have j:Fr.cI (a.take b) ^^^ (a[b]*256)<65536:=Fr.qH s (by omega);generalize Fr.cI (a.take b)=c at *;go_wp2_with fail;rw[t.out];clear t A r f;generalize c ^^^ (a[b]*256)=q at *;go_loop [3,5] (λg k=>∃d:Nat,d<=8/\k= .int J d/\g=I J ((Fr.lC d q:Nat):Int)) λ_ k=>8-(intOf k).toNat;case atStart=>exact⟨0,Vl _,rfl,rfl⟩
   case round=>
    obtain⟨d,M,rfl,rfl⟩:=hrel;have u:=Fr.tO j d;by_cases O:d<8;have v:Hid (Fr.lC (d+1) q=Fr.kC (Fr.lC d q)):=rfl;generalize Fr.lC d q=p at *;have Q:(p:Int)<65536:=by omega
    by_cases l:32768<=p
    .have m:Hid (bits .xor J ((2*(p:Int))%65536) 4129=((Fr.kC p:Nat):Int)):=Ru p l;have D:(32768:Int)<=(p:Int):=by omega
     have E:0<=(p:Int):=by omega
     clear l u j;generalize (p:Int)=P at *;go_wp2;go_round;case rel=>exact⟨d+1,by omega,by go_num,by rw[v.out,<-m.out]⟩
     case measure=>simp[intOf];omega
    .have m:Hid ((2*(p:Int))%65536=((Fr.kC p:Nat):Int)):=Rv p (by omega);have D:(p:Int)<32768:=by omega
     have E:0<=(p:Int):=by omega
     clear l u j;generalize (p:Int)=P at *;go_wp2;go_round;case rel=>exact⟨d+1,by omega,by go_num,by rw[v.out,<-m.out]⟩
     case measure=>simp[intOf];omega
    .have G:d=8:=by omega
     subst G;go_wp2;go_round;case rel=>exact⟨b+1,by omega,by go_num,by rw[C.out]⟩
     case measure=>simp[intOf];omega
  .go_wp2;go_ret;exact⟨rn (by rw[US (by omega)]),rfl⟩
end Go.Proofs.YtlfijfodklhplaaGreat
