import Derived.Test.YtlfijfodklhplaaGreatAl01
import Derived.StillTailTactics
import Derived.BigRegion
set_option maxRecDepth 100000
set_option maxHeartbeats 1000000
set_option linter.all false
open Go.RowKit Go.Proofs.Tryz
open Go.Value renaming int->I,slice->L,pointer->P,bool->B
open Go.IntKind renaming i64->J
open Option renaming some->S,none->N
open Bool renaming true->T,false->F
namespace Go.Proofs.YtlfijfodklhplaaGreat
structure Ed where
 a:Int
 b:Int
 c:Int
def Ed.cells(a:Ed):List Value:=[I J a.a,I J a.b,I J a.c]
def cA(a:List Ed):List Value:=a.flatMap Ed.cells
def tf(a):(cA a).length=a.length*3:=by
 induction a with
 |nil=>rfl
 |cons c d b=>simp only[cA,Vs,Uu,Vg]at b|-;rw[b];simp[Ed.cells];omega
def vR(a b):cA (a++b)=cA a++cA b:=by simp[cA]
def A9(c):∀a∈cA c,a.oneCell'=T:=by intro a d;obtain⟨e,_,b⟩:=VW.1 d;simp only[Ed.cells,UZ,U9,Wc]at b;obtain rfl|rfl|rfl:=b<;>rfl
def mU(c:World)(d e:Nat)(f:List Ed):Prop:=∀a b,(cA f)[a]?=S b->c.cell? ⟨d,e+a,N⟩=S b
def mU.a{d b w' a c e}(g:mU b a c e)(k:ae d b w')(h:a<b.heap.size)(i:¬d a):mU w' a c e:=λf j l=>(k.f a (c+f) h i).trans (g f j l)
abbrev rE(a:World)(b:Nat)(c:List Ed)(d:Nat):Prop:=dL a b 30 3 (cA c) d
def MQ{a b c d}(e:rE a b c d):mU a b 0 c:=λf g h=>by rw[Ve];exact e.c f g h
def EJ{c d e f}(g:mU c d e f):∀a b,(cA f)[a]?=S b->c.cell? ((⟨d,e,N⟩:Addr).add a)=S b:=λa b h=>by rw[Va];exact g a b h
def qn:(prog.info? 30).map (λa=>(a.zero,a.size,a.bytes))=S (S (.agg #[.int J 0,.int J 0,.int J 0]),3,24):=by kernel_rfl
def gJ(c:World)(d:List Value)(t e)(f:e=c.heap.size):∀a b,d[a]?=S b->(c.alloc (.cells d.toArray t)).cell? ((⟨e,0,N⟩:Addr).add a)=S b:=by intro a b g;subst f;rw[Va,Ve,Vf,UN];exact g
def jV(a:Nat):List Ed:=(List.range a).map (λb:Nat=>⟨900+(b:Int),901, -902⟩)
def Ba(a):(jV a).length=a:=by simp[jV]
def Fd(a):jV (a+1)=jV a++[⟨900+(a:Int),901, -902⟩]:=by simp[jV,Wt]
def CF(e wr:World)(a:List Ed)(b:Nat)(f:Value):Prop:=ae aa e wr/\
 ((a++jV b=[]/\f=L N 0 0)\/∃c d,f=L (S ⟨c,0,N⟩) (a.length+b) d/\e.heap.size<=c/\rE wr c (a++jV b) d/\a.length+b<=d)
def FO(a):Cr 73 #[L N 0 0] a (L N 0 0) λe=>a=e:=by have f:∀(a:World)(b:Option Addr)(c d:Nat),(binOp .eql 26 (L b c d) (L N 0 0)).run prog a= .ok (B b.isNone) a:=λa b c d=>Vq a 26 30 b c d 0 0 underlying26;go_enter func73,ntmps73;go_wp2;go_ret;exact⟨rfl,rfl⟩
def FM(g j n a c)(r:mU c g j a)(K:g<c.heap.size)(M:(a.length:Int)<=5864062014700)(o:0<a.length):
 Calls prog 73 #[L (S ⟨g,j,N⟩) a.length n] c λf p=>
  ∃e d,f= .returned (L (S ⟨e,0,N⟩) a.length d)/\c.heap.size<=e/\rE p e (a++jV 8) d/\a.length+8<=d/\ae aa c p:=by
 have s:∀(c:World)(h:Option Addr)(k d:Nat),(binOp .eql 26 (L h k d) (L N 0 0)).run prog c= .ok (B h.isNone) c:=λc h k d=>Vq c 26 30 h k d 0 0 underlying26;go_enter func73,ntmps73;go_wp2_with (at_builtin;refine vd _ rfl (.tmp 7) (.tmp 8) 26 rfl 30 (.agg #[I J 0,I J 0,I J 0]) 3 24 underlying26 qn rfl rfl ⟨g,j,N⟩ a.length n o rfl (cA a) (tf a) (EJ r) (by omega) (by omega) ?_;intro t O u Q v);clear s;go_loopw [3,4] (λw i wr=>∃b:Nat,b<=8/\i= .int J b/\CF c wr a b w) λ_ i _=>8-(intOf i).toNat;case atStart=>exact⟨0,by omega,rfl,v,Up ⟨c.heap.size,t,rfl,UF _,by simpa [jV]using u,by omega⟩⟩
 case round=>
  obtain⟨b,R,rfl,l,x⟩:=hrel;have U:=l.size;have V:(b:Int)<=8:=by omega
  obtain⟨y,rfl⟩|⟨e,d,rfl,q,m,z⟩:=x;exfalso;have:=(Wo.1 y).1;subst this;simp at o;have W:=m.b;by_cases X:b<8
  .go_wp2_with (at_builtin;refine pP _ rfl (.tmp 14) (.tmp 18) 26 rfl 30 (.agg #[I J 0,I J 0,I J 0]) 3 24 underlying26 qn rfl e (a.length+b) d rfl (cA (a++jV b)) (by rw[tf];simp[Ba]) (m.d _) ⟨wr.heap.size,0,N⟩ 1 1 rfl (cA [⟨900+(b:Int),901, -902⟩]) rfl (gJ wr (cA [⟨900+(b:Int),901, -902⟩]) 30 _ rfl) (A9 _) (by omega) (by omega) ?_;intro A C Y D Z E G);go_roundw;case rel=>
    refine⟨b+1,by omega,by go_num,l.g (((ae.a (ap e) wr).b _).c G) (λi ab f=>by simp only[ap]at f;omega),Up ⟨A,C,by rw[UI],?_,?_,by omega⟩⟩;obtain⟨rfl,_⟩|⟨rfl,_⟩:=E;exact q;simp;omega;have f:cA (a++jV (b+1))=cA (a++jV b)++(cA [⟨900+(b:Int),901, -902⟩]):=by rw[Fd,<-UJ,vR]
    show dL _ _ _ _ _ _;rw[f];exact D
   case measure=>simp[intOf];omega
  .have H:b=8:=by omega
   subst H;go_wp2;go_ret;exact⟨e,d,rfl,q,m,z,l⟩
def FN(r s c):
 Calls prog 73 #[L (S r) 0 s] c λe o=>
  ∃d b,e= .returned (L (S ⟨d,0,N⟩) 0 b)/\c.heap.size<=d/\rE o d ([]++jV 8) b/\8<=b/\ae aa c o:=by
 have t:∀(c:World)(f:Option Addr)(k b:Nat),(binOp .eql 26 (L f k b) (L N 0 0)).run prog c= .ok (B f.isNone) c:=λc f k b=>Vq c 26 30 f k b 0 0 underlying26;go_enter func73,ntmps73;go_wp2;clear t;go_loopw [3,4] (λu g wr=>∃a:Nat,a<=8/\g= .int J a/\CF c wr [] a u) λ_ g _=>8-(intOf g).toNat;case atStart=>exact⟨0,by omega,rfl,ae.a _ _,Ur ⟨rfl,rfl⟩⟩
 case round=>
  obtain⟨a,D,rfl,h,v⟩:=hrel;have E:=h.size;have G:(a:Int)<=8:=by omega
  obtain⟨w,rfl⟩|⟨d,b,rfl,p,i,q⟩:=v
  .have x:a=0:=by have:=Vj List.length w;simp[Ba]at this;exact this
   subst x;go_wp2_with (at_builtin;refine vd _ rfl (.tmp 14) (.tmp 18) 26 rfl 30 (.agg #[I J 0,I J 0,I J 0]) 3 24 underlying26 qn rfl rfl ⟨wr.heap.size,0,N⟩ 1 1 (by omega) rfl (cA [⟨900,901, -902⟩]) rfl (gJ wr (cA [⟨900,901, -902⟩]) 30 _ rfl) (by omega) (by omega) ?_;intro l y j m n);go_roundw;case rel=>
    rw[Uv]at j;exact⟨1,by omega,by go_num,(h.b _).c n,Up ⟨wr.heap.size+1,l,rfl,by omega,j,by simpa using m⟩⟩
   case measure=>simp[intOf]
  have H:=i.b;simp only[VD,Ve]at i q|-;by_cases K:a<8
  .go_wp2_with (at_builtin;refine pP _ rfl (.tmp 14) (.tmp 18) 26 rfl 30 (.agg #[I J 0,I J 0,I J 0]) 3 24 underlying26 qn rfl d a b rfl (cA ([]++jV a)) (by rw[tf];simp[Ba]) (i.d _) ⟨wr.heap.size,0,N⟩ 1 1 rfl (cA [⟨900+(a:Int),901, -902⟩]) rfl (gJ wr (cA [⟨900+(a:Int),901, -902⟩]) 30 _ rfl) (A9 _) (by omega) (by omega) ?_;intro z l y j m A n);go_roundw;case rel=>
    refine⟨a+1,by omega,by go_num,h.g (((ae.a (ap d) wr).b _).c n) (λg M e=>by simp only[ap]at e;omega),Up ⟨z,l,by simp,?_,?_,by simpa using m⟩⟩;obtain⟨rfl,_⟩|⟨rfl,_⟩:=A;exact p;simp;omega;have e:cA ([]++jV (a+1))=cA ([]++jV a)++(cA [⟨900+(a:Int),901, -902⟩]):=by rw[Fd,<-UJ,vR]
    show dL _ _ _ _ _ _;rw[e];exact j
   case measure=>simp[intOf];omega
  .have C:a=8:=by omega
   subst C;go_wp2;go_ret;exact⟨d,b,rfl,p,i,q,h⟩
def lz(d:World)(e f:Nat)(g:TypeId)(h:Nat)(a:List Value)(i:Nat):Prop:=∃b c:List Value,aq d e (b++a++c).toArray g/\b.length=f/\i*h<=a.length+c.length
def lz.e{b c w' a d e f g h}(i:lz c a d e f g h)(k:ae b c w')(j:¬b a):lz w' a d e f g h:=
 let ⟨l,m,n,o⟩:=i;⟨l,m,n.c k j,o⟩
def lz.b{a b c d e f g}(h:lz a b c d e f g):b<a.heap.size:=let ⟨_,_,i,_⟩:=h;i.b
def lz.a{a b c h i d j}(k:lz a b c h i d j)(e f)(g:d[e]?=S f):a.cell? ⟨b,c+e,N⟩=S f:=by obtain⟨m,n,l,rfl,_⟩:=k;have o:=(Ul.1 g).1;rw[l.a,UN,UJ,Ut (by omega),Ux (by omega),<-g];simp
def lz.c{a b d e f g h}(i:lz a b d e f g h)(c):a.frozen? ⟨b,c,N⟩=F:=let ⟨_,_,j,_⟩:=i;j.d c
def lz.d{d e f g a c h}(i:lz d e f g a c h)(b)(l:b*a<=c.length):lz d e (f+b*a) g a (c.drop (b*a)) (h-b):=by obtain⟨j,k,m,rfl,n⟩:=i;refine⟨j++c.take (b*a),k,?_,by simp;omega,?_⟩;simp_all;rw[U5,Nat.sub_mul];omega
def lz.f{a b c d e f g}(h:lz a b c d e f g):lz a b c d e [] 0:=by obtain⟨i,j,k,l,_⟩:=h;exact⟨i,f++j,by simpa using k,l,by simp⟩
def ag(a:Option Addr)(k:Nat):Prop:=∃b,a=S ⟨k,b,N⟩
def b8(k):¬ag N k:=λ⟨_,a⟩=>by cases a
def cM{b c k}:ag (S ⟨b,c,N⟩) k↔k=b:=⟨λ⟨_,a⟩=>by cases a;rfl,λa=>⟨c,by rw[a]⟩⟩
def eN(a b):ag (S ⟨a,b,N⟩) a:=⟨b,rfl⟩
def RV(h:World)(i:TypeId)(c:Nat)(d:Option Addr)(a b:Nat)(e:List Value):Prop:=
 e.length=a*c/\a<=b/\((d=N/\a=0/\b=0)\/∃f g,d=S ⟨f,g,N⟩/\lz h f g i c e b)
def RV.a{c d w' e f b g h i}(m:RV d e f b g h i)(k:ae c d w')(n:∀a,ag b a->¬c a):RV w' e f b g h i:=by obtain⟨o,p,j⟩:=m;refine⟨o,p,?_⟩;obtain j|⟨a,l,rfl,q⟩:=j;grind;exact Up ⟨a,l,rfl,q.e k (n a (eN a l))⟩
def RV.b{d f g e h i j}(a:RV d f g e h i j):∀b,ag e b->b<d.heap.size:=by obtain⟨_,_,c⟩:=a;rintro b ⟨l,rfl⟩;obtain⟨c,_⟩|⟨m,n,a,k⟩:=c;cases c;cases a;exact k.b
def RV.drew{a b c d e f g}(h:RV a b c d e f g):RV a.drew b c d e f g:=h
def RV.c{b a c d e f g}(i:RV b a c d e f g)(h):RV (b.alloc h) a c d e f g:=i.a ((ae.a aa b).b h) λ_ _ a=>a
def RV.d(a b c):RV a b c N 0 0 []:=⟨by simp,UF _,Ur ⟨rfl,rfl,rfl⟩⟩
def B8{P}(d t o i)(b:TypeInfo)(p:P.underlying t=S (.slice i))(q:P.info? i=S b)(g e c k h)(r:d.heap[g]?=S (.cells h i (0,0)))(l f m a)(s:a.length=f*b.size)(u:∀n j,a[n]?=S j->d.cell? (l.add n)=S j)(v:∀j∈a,j.oneCell'=T)(w:c+f<=k)(x:e+c*b.size+a.length<=h.size):
 (Builtin.append_ #[t,t] o #[L (S ⟨g,e,N⟩) c k,L (S l) f m]).run P d=
  .ok (L (S ⟨g,e,N⟩) (c+f) k) (d.setRow g (h.toList.take (e+c*b.size)++a++h.toList.drop (e+c*b.size+a.length)).toArray):=by
 simp[Builtin.append_,Wk p,sizeOf,typeInfo,q,Builtin.lenOf,w,(run_firstCells_some (P:=P) d b.size f l f m a s u),Va,(Xx P g (e+c*b.size) i a 0 h d r (by simpa using x) v)]
def Ca{P}(c t v d z f E)(G:P.underlying t=S (.slice d))(U:(P.info? d).map (λl=>(l.zero,l.size,l.bytes))=S (S z,f,E))(V:z.cells.size=f)(w b e i)(o:RV c d f w b e i)(p a c')(aa:0<a)(g)(j:g.length=a*f)(H:∀x y,g[x]?=S y->c.cell? (p.add x)=S y)(ab:∀y∈g,y.oneCell'=T)(K:(b+a)*E<=140737488355328)(W:b+a<=9223372036854775807):
 ∃M A q,(Builtin.append_ #[t,t] v #[L w b e,L (S p) a c']).run P c= .ok (L M (b+a) A) q/\RV q d f M (b+a) A (i++g)/\(∀h,ag M h->ag w h\/h=c.heap.size)/\ae (ag w) c q:=by
 obtain⟨k,an,o⟩:=o;have X:(i++g).length=(b+a)*f:=by rw[Uu,k,j,V6]
 obtain⟨rfl,rfl,rfl⟩|⟨h,ao,rfl,o⟩:=o;have O:=U1 (by simpa using k);subst O;rw[Ve]at K W|-;obtain⟨A,q,r,ac,ad,af⟩:=y9 (P:=P) c t v d z f E G U V p a c' aa g j H K W;obtain⟨m,s,Y⟩:=ac;refine⟨_,A,q,r,⟨by simpa using j,ad,Up ⟨c.heap.size,0,rfl,[],m,by simpa using s,rfl,by simp at Y|-;omega⟩⟩,λh C=>Up (cM.1 C),af.d λ_ _ d=>d.elim⟩;obtain⟨l,Z,ah,u,ai⟩:=Xj U;have aj:=o;obtain⟨n,m,s,rfl,ap⟩:=o;by_cases Q:b+a<=e;have Y:a*f<=m.length:=by have:(b+a)*f<=e*f:=V8 _ Q;rw[V6]at this;omega
 have r:=B8 (P:=P) c t v d l G Z h n.length b e (n++i++m).toArray s p a c' g (by rw[j,u]) H ab Q (by simp[u,j,k];omega);refine⟨_,e,_,r,⟨X,Q,Up ⟨h,n.length,rfl,n,m.drop (a*f),?_,rfl,by simp[j,k];omega⟩⟩,λR D=>Ur D,?_⟩;unfold aq at s|-;rw[Xa c h _ _ _ _ s];have ar:(n++i++m).drop (n.length+b*l.size+g.length)=m.drop (a*f):=by rw[u,<-k,j,<-Uu,We,U6 (by omega)];simp
 grind;exact⟨rfl,rfl,rfl,by simp[World.setRow],λR D k=>WQ c h R _ λd=>k (cM.2 d)⟩;have C:e<b+a:=by omega
 have r:=XH (P:=P) c t v d l z G Z ah ⟨h,n.length,N⟩ b e i (by rw[k,u]) (λx ak O=>by rw[Va];exact aj.a x ak O) p a c' g (by rw[j,u]) H C (by omega) (by rw[ai];exact XO C K)
 have al:=XB c (b+a) e d;refine⟨_,_,_,r,⟨X,al,Up ⟨c.heap.size,0,rfl,[],(Builtin.zeroCells z.cells (grownCap c (b+a) e d-(b+a))).toList,?_,rfl,?_⟩⟩,λR D=>Up (cM.1 D),((ae.a _ c).drew).b _⟩;have:=aq.e c.drew (i.toArray++g.toArray++Builtin.zeroCells z.cells (grownCap c (b+a) e d-(b+a))) d;have am:i.toArray++g.toArray++Builtin.zeroCells z.cells (grownCap c (b+a) e d-(b+a))=([]++(i++g)++(Builtin.zeroCells z.cells (grownCap c (b+a) e d-(b+a))).toList).toArray:=by simp
 rw[am]at this|-;exact this;rw[zx,V,Uu,k,j,<-V6,<-V6];grind
def wO{P}(a){l o b g p}(u:b.guard=N)(q r t)(v:b.op=Op.call {callee:=Callee.builtin Builtin.append,args:= #[q,r],argTypes:= #[t,t]})(e z size bytes)(w:P.underlying t=S (.slice e))(x:(P.info? e).map (λj=>(j.zero,j.size,j.bytes))=S (S z,size,bytes))(y:z.cells.size=size)(sa n c)(A:g.eval q=L sa n c)(vs)(C:RV a e size sa n c vs)(ad m c')(D:0<m)(E:g.eval r=L (S ad) m c')(news)(G:news.length=m*size)(H:∀s h,news[s]?=S h->a.cell? (ad.add s)=S h)(K:∀h∈news,h.oneCell'=T)(M:(n+m)*bytes<=140737488355328)(O:n+m<=9223372036854775807)(Q:∀d i f,RV f e size d (n+m) i (vs++news)->(∀k,ag d k->ag sa k\/k=a.heap.size)->ae (ag sa) a f->wpList P l p o (g.put b.dst (L d (n+m) i)) f):
 wpList P l p (b::o) g a:=by
 refine WR u λY R=>?_;obtain⟨d,i,f,U,V,W,X⟩:=Ca (P:=P) a t b.type e z size bytes w x y sa n c vs C ad m c' D news G H K M O;unfold Oper.wp;simp[execOp,v,resolve,invoke,builtin,A,E,U,Result.andThen];exact R _ _ (Q d i f V W X)
def Cm{P l a b d o s u}(v:a.guard=N)(p q t)(w:a.op=Op.call {callee:=Callee.builtin Builtin.append,args:= #[p,q],argTypes:= #[t,t]})(e z size bytes)(x:P.underlying t=S (.slice e))(y:(P.info? e).map (λj=>(j.zero,j.size,j.bytes))=S (S z,size,bytes))(A:z.cells.size=size)(sa n c)(C:b.eval p=L sa n c)(vs)(D:RV d e size sa n c vs)(ad m c')(E:0<m)(G:b.eval q=L (S ad) m c')(news)(H:news.length=m*size)(K:∀r h,news[r]?=S h->d.cell? (ad.add r)=S h)(M:∀h∈news,h.oneCell'=T)(O:(n+m)*bytes<=140737488355328)(Q:n+m<=9223372036854775807)(R:∀f i g,RV g e size f (n+m) i (vs++news)->(∀k,ag f k->ag sa k\/k=d.heap.size)->ae (ag sa) d g->o (b.put a.dst (L f (n+m) i)) g):
 if Region.wanted a (yielded l b.tmps)=T then Oper.wp P a b d o s else u:=by
 have U:Region.wanted a (yielded l b.tmps)=T:=by simp[Region.wanted,v]
 rw[UG U];obtain⟨f,i,g,V,W,X,Y⟩:=Ca (P:=P) d t a.type e z size bytes x y A sa n c vs D ad m c' E news H K M O Q;unfold Oper.wp;simp[execOp,w,resolve,invoke,builtin,C,G,V,Result.andThen];exact R f i g W X Y
def ik(a:Array Value)(b:Nat)(c:List Value):Array Value:=(a.toList.take b++c++a.toList.drop (b+c.length)).toArray
def Rb(a b c)(d:b+c.length<=a.size):(ik a b c).size=a.size:=by simp[ik];omega
def Q6(c a b)(f:a+b.length<=c.size)(d)(g:d<b.length):(ik c a b)[a+d]?=b[d]?:=by
 have e:(c.toList.take a).length=a:=by simp;omega
 rw[ik,UN,UJ,Ut (by omega),e,Ux (by omega)];simp
def Ra(c a b)(f:a+b.length<=c.size)(d)(g:d<b.length)(e):(ik c a b).setIfInBounds (a+d) e=ik c a (b.set d e):=by apply XS;simp only[ik,Array.toList_setIfInBounds,UA];grind
def Q9(b a)(c:a.length=b.size):ik b 0 a=a.toArray:=by apply XS;simp[ik,c]
def aq.l{e f c t a b}(i:aq e f (ik c a b) t)(j:a+b.length<=c.size)(d g)(h:b[d]?=S g):e.cell? ⟨f,a+d,N⟩=S g:=by rw[i.a,Q6 c a b j d (Ul.1 h).1,h]
def aq.i{g f d t a b}(h:aq g f (ik d a b) t)(i:a+b.length<=d.size)(c)(j:c<b.length)(e):aq (g.setCell ⟨f,a+c,N⟩ e) f (ik d a (b.set c e)) t:=by rw[<-Ra d a b i c j e];exact h.f (a+c) e
def Cb{P}(c t w d z f D)(E:P.underlying t=S (.slice d))(O:(P.info? d).map (λk=>(k.zero,k.size,k.bytes))=S (S z,f,D))(Q:z.cells.size=f)(x b e h)(n:RV c d f x b e h)(p a c')(Z:0<a)(g)(i:g.length=a*f)(G:∀y A,g[y]?=S A->c.cell? (p.add y)=S A)(ab:∀A∈g,A.oneCell'=T)(H:(b+a)*D<=140737488355328)(R:b+a<=9223372036854775807):
 ∃C q o,(Builtin.append_ #[t,t] w #[L x b e,L (S p) a c']).run P c= .ok (L C (b+a) q) o/\RV o d f C (b+a) q (h++g)/\((C=x/\q=e)\/(C=S ⟨c.heap.size,0,N⟩/\ae aa c o))/\ae (ag x) c o:=by
 obtain⟨j,an,n⟩:=n;have U:(h++g).length=(b+a)*f:=by rw[Uu,j,i,V6]
 obtain⟨rfl,rfl,rfl⟩|⟨r,ao,rfl,n⟩:=n;have K:=U1 (by simpa using j);subst K;rw[Ve]at H R|-;obtain⟨q,o,s,ac,ad,V⟩:=y9 (P:=P) c t w d z f D E O Q p a c' Z g i G H R;obtain⟨l,u,W⟩:=ac;refine⟨_,q,o,s,⟨by simpa using i,ad,Up ⟨c.heap.size,0,rfl,[],l,by simpa using u,rfl,by simp at W|-;omega⟩⟩,Up ⟨rfl,V⟩,V.d λ_ _ d=>d.elim⟩;obtain⟨k,X,af,v,ah⟩:=Xj O;have ai:=n;obtain⟨m,l,u,rfl,ap⟩:=n;by_cases M:b+a<=e;have W:a*f<=l.length:=by have:(b+a)*f<=e*f:=V8 _ M;rw[V6]at this;omega
 have s:=B8 (P:=P) c t w d k E X r m.length b e (m++h++l).toArray u p a c' g (by rw[i,v]) G ab M (by simp[v,i,j];omega);refine⟨_,e,_,s,⟨U,M,Up ⟨r,m.length,rfl,m,l.drop (a*f),?_,rfl,by simp[i,j];omega⟩⟩,Ur ⟨rfl,rfl⟩,?_⟩;unfold aq at u|-;rw[Xa c r _ _ _ _ u];have ar:(m++h++l).drop (m.length+b*k.size+g.length)=l.drop (a*f):=by rw[v,<-j,i,<-Uu,We,U6 (by omega)];simp
 grind;exact⟨rfl,rfl,rfl,by simp[World.setRow],λaj au j=>WQ c r aj _ λd=>j (cM.2 d)⟩;have Y:e<b+a:=by omega
 have s:=XH (P:=P) c t w d k z E X af ⟨r,m.length,N⟩ b e h (by rw[j,v]) (λy ak K=>by rw[Va];exact ai.a y ak K) p a c' g (by rw[i,v]) G Y (by omega) (by rw[ah];exact XO Y H)
 have al:=XB c (b+a) e d;refine⟨_,_,_,s,⟨U,al,Up ⟨c.heap.size,0,rfl,[],(Builtin.zeroCells z.cells (grownCap c (b+a) e d-(b+a))).toList,?_,rfl,?_⟩⟩,Up ⟨rfl,((ae.a _ c).drew).b _⟩,((ae.a _ c).drew).b _⟩;have:=aq.e c.drew (h.toArray++g.toArray++Builtin.zeroCells z.cells (grownCap c (b+a) e d-(b+a))) d;have am:h.toArray++g.toArray++Builtin.zeroCells z.cells (grownCap c (b+a) e d-(b+a))=([]++(h++g)++(Builtin.zeroCells z.cells (grownCap c (b+a) e d-(b+a))).toList).toArray:=by simp
 rw[am]at this|-;exact this;rw[zx,Q,Uu,j,i,<-V6,<-V6];grind
def jX{P}(a){k l f h o}(s:f.guard=N)(p q t)(u:f.op=Op.call {callee:=Callee.builtin Builtin.append,args:= #[p,q],argTypes:= #[t,t]})(e z size bytes)(v:P.underlying t=S (.slice e))(w:(P.info? e).map (λj=>(j.zero,j.size,j.bytes))=S (S z,size,bytes))(x:z.cells.size=size)(sa n c)(y:h.eval p=L sa n c)(vs)(A:RV a e size sa n c vs)(ad m c')(C:0<m)(D:h.eval q=L (S ad) m c')(news)(E:news.length=m*size)(G:∀r i,news[r]?=S i->a.cell? (ad.add r)=S i)(H:∀i∈news,i.oneCell'=T)(K:(n+m)*bytes<=140737488355328)(M:n+m<=9223372036854775807)(O:∀b g d,RV d e size b (n+m) g (vs++news)->((b=sa/\g=c)\/(b=S ⟨a.heap.size,0,N⟩/\ae aa a d))->ae (ag sa) a d->wpList P k o l (h.put f.dst (L b (n+m) g)) d):
 wpList P k o (f::l) h a:=by
 refine WR s λX Q=>?_;obtain⟨b,g,d,R,U,V,W⟩:=Cb (P:=P) a t f.type e z size bytes v w x sa n c vs A ad m c' C news E G H K M;unfold Oper.wp;simp[execOp,u,resolve,invoke,builtin,y,D,R,Result.andThen];exact Q _ _ (O b g d U V W)
def mj{P k a d b l r s}(u:a.guard=N)(o p t)(v:a.op=Op.call {callee:=Callee.builtin Builtin.append,args:= #[o,p],argTypes:= #[t,t]})(e z size bytes)(w:P.underlying t=S (.slice e))(x:(P.info? e).map (λj=>(j.zero,j.size,j.bytes))=S (S z,size,bytes))(y:z.cells.size=size)(sa n c)(A:d.eval o=L sa n c)(vs)(C:RV b e size sa n c vs)(ad m c')(D:0<m)(E:d.eval p=L (S ad) m c')(news)(G:news.length=m*size)(H:∀q i,news[q]?=S i->b.cell? (ad.add q)=S i)(K:∀i∈news,i.oneCell'=T)(M:(n+m)*bytes<=140737488355328)(O:n+m<=9223372036854775807)(Q:∀f h g,RV g e size f (n+m) h (vs++news)->((f=sa/\h=c)\/(f=S ⟨b.heap.size,0,N⟩/\ae aa b g))->ae (ag sa) b g->l (d.put a.dst (L f (n+m) h)) g):
 if Region.wanted a (yielded k d.tmps)=T then Oper.wp P a d b l r else s:=by
 have R:Region.wanted a (yielded k d.tmps)=T:=by simp[Region.wanted,u]
 rw[UG R];obtain⟨f,h,g,U,V,W,X⟩:=Cb (P:=P) b t a.type e z size bytes w x y sa n c vs C ad m c' D news G H K M O;unfold Oper.wp;simp[execOp,v,resolve,invoke,builtin,A,E,U,Result.andThen];exact Q f h g V W X
def pH{a w' b c d a' e f k h g i}(j:RV a b c d e f g)(l:RV w' b c a' (e+k) h (g++i))(m:(a'=d/\h=f)\/(a'=S ⟨a.heap.size,0,N⟩/\ae aa a w')):RV w' b c d e f g:=by obtain⟨rfl,rfl⟩|⟨_,n⟩:=m;obtain⟨o,p,z⟩:=j;obtain⟨A,C,q⟩:=l;refine⟨o,p,?_⟩;obtain⟨D,E,G⟩|⟨r,s,rfl,t,u,v,w,x⟩:=q;grind;exact Up ⟨r,s,rfl,t,i++u,by simpa [UJ]using v,w,by simp at x|-;omega⟩;exact j.a n λ_ _ y=>y
def Ic{P l a d b o s u}(v:a.guard=N)(p q t)(w:a.op=Op.call {callee:=Callee.builtin Builtin.append,args:= #[p,q],argTypes:= #[t,t]})(e z size bytes)(x:P.underlying t=S (.slice e))(y:(P.info? e).map (λk=>(k.zero,k.size,k.bytes))=S (S z,size,bytes))(A:z.cells.size=size)(g n c)(C:d.eval p=L (S ⟨g,0,N⟩) n c)(vs)(D:vs.length=n*size)(E:dL b g e size vs c)(ad m c')(G:d.eval q=L (S ad) m c')(news)(H:news.length=m*size)(K:∀r j,news[r]?=S j->b.cell? (ad.add r)=S j)(M:∀j∈news,j.oneCell'=T)(O:(n+m)*bytes<=140737488355328)(Q:n+m<=9223372036854775807)(R:∀f h i,dL i f e size (vs++news) h->n+m<=h->((f=g/\h=c)\/(f=b.heap.size/\c<n+m/\ae aa b i))->ae (ap g) b i->o (d.put a.dst (L (S ⟨f,0,N⟩) (n+m) h)) i):
 if Region.wanted a (yielded l d.tmps)=T then Oper.wp P a d b o s else u:=by
 have U:Region.wanted a (yielded l d.tmps)=T:=by simp[Region.wanted,v]
 rw[UG U];obtain⟨f,h,i,V,W,X,Y,Z⟩:=Hi (P:=P) b t a.type e z size bytes x y A g n c vs D E ad m c' news H K M O Q;unfold Oper.wp;simp[execOp,w,resolve,invoke,builtin,C,G,V,Result.andThen];exact R f h i W X Y Z
def ae.al{a b w' c}(d:ae a (b.alloc c) w'):ae a b w':=((ae.a a b).b c).c d
structure At(B:Nat)(c:World)(b:Nat)(h:List Value):Prop where
 f:B<=b
 d:b<c.heap.size
 a:∀e g,h[e]?=S g->c.cell? ((⟨b,0,N⟩:Addr).add e)=S g
def At.e{d}{a:World}{b c t}(e:b=a.heap.size)(f:d<=a.heap.size):At d (a.alloc (.cells c.toArray t)) b c:=
 ⟨by omega,by simp;omega,gJ a c t b e⟩
def At.b{d}{a:World}{b c t}(e:b=a.heap.size)(f:d<=a.heap.size):At d (a.alloc (.cells c.toArray t)).drew b c:=
 ⟨by omega,by simp;omega,gJ a c t b e⟩
def At.al{d b c e o}(a:At d b c e):At d (b.alloc o) c e:=
 ⟨a.f,by simp;have:=a.d;omega,λf g h=>by have:=a.a f g h;rw[Va]at this|-;exact(((ae.a aa b).b o).f c (0+f) a.d λi=>i).trans this⟩
def At.ald{a}{b:World}{c d o}(e:At a b.drew c d):At a (b.alloc o).drew c d:=At.al (o:=o) e
def LF{c:World}{a d g h b}(e:c.cell? ⟨a,b,N⟩=S h):∃i,(c.setCell ⟨a,d,N⟩ g).cell? ⟨a,b,N⟩=S i:=by
 by_cases f:(⟨a,d,N⟩:Addr)=⟨a,b,N⟩
 rw[f];exact⟨_,WT _ _ _ e⟩;rw[WL _ _ _ _ f];exact⟨_,e⟩
def At.c{c d e w' b f}(k:ae (ag d) e w')(i:∀g,ag d g->g<c)(a:At c e b f):At c w' b f:=
 ⟨a.f,Un a.d k.size,λh j l=>by have:=a.a h j l;rw[Va]at this|-;exact(k.f b (0+h) a.d λm=>by have:=i b m;have:=a.f;omega).trans this⟩
structure Ls where
 a:Option Addr
 n:Nat
 c:Nat
def Ls.d(t:Ls):Value:=L t.a t.n t.c
def Se{f h m c n o e}(x:RV f h m c n o e)(d a b):∃y,RV (f.setCell ⟨d,a,N⟩ b) h m c n o y:=by
 obtain⟨q,j,k⟩:=x;obtain k|⟨r,s,rfl,i,t,u,z,A⟩:=k;exact⟨e,q,j,Ur k⟩;by_cases v:d=r;subst v;have w:=u.f a b;have C:∀(g:List Value)(c l:Nat),g.toArray.setIfInBounds a b=((g.set a b).take c++((g.set a b).drop c).take l++((g.set a b).drop c).drop l).toArray:=λg c l=>by rw[UJ,Vd,Vd];simp
 rw[C _ i.length e.length]at w;refine⟨(((i++e++t).set a b).drop i.length).take e.length,?_,j,Up ⟨d,s,rfl,_,_,w,?_,?_⟩⟩;simp;omega;simp;omega;simp;omega;have D:ae (ap d) f (f.setCell ⟨d,a,N⟩ b):=(ae.a (ap d) f).e (p:=⟨d,a,N⟩) (λ_=>rfl) _;exact⟨e,q,j,Up ⟨r,s,rfl,i,t,u.c D λh=>v h.symm,z,A⟩⟩
def Sg{d e a f i b c}(j:RV d e a f i b c)(n')(g:n'<=b):∃k,RV d e a f n' b k:=by
 obtain⟨t,u,l⟩:=j;obtain⟨m,v,n⟩|⟨o,p,rfl,q,h,r,s,w⟩:=l;have:n'=0:=by omega
 subst this;exact⟨[],by simp,by omega,Ur ⟨m,rfl,n⟩⟩;have x:n'*a<=b*a:=V8 _ g;refine⟨(c++h).take (n'*a),by simp;omega,g,Up ⟨o,p,rfl,q,(c++h).drop (n'*a),?_,s,by simp;omega⟩⟩;rw[UJ,Vd,<-UJ];exact r
def lu(f:World)(c:Option Addr)(d e:Nat)(g:TypeId)(a:List Value)(h:Nat->Prop):Prop:=
 (c=N/\d=0/\e=0/\a=[])\/∃b,c=S ⟨b,0,N⟩/\dL f b g 1 a e/\a.length=d/\¬h b
def lu.b{e a w' b f g h i j}(c:lu a b f g h i j)(k:ae e a w')(n:∀d,d<a.heap.size->b=S ⟨d,0,N⟩->¬e d):lu w' b f g h i j:=by obtain c|⟨l,rfl,m,o,p⟩:=c;exact Ur c;exact Up ⟨l,rfl,m.a k (n l m.b rfl),o,p⟩
def lu.a{c d e f g h i j}(a:lu c d e f g h i)(m:∀b,b<c.heap.size->d=S ⟨b,0,N⟩->¬i b->¬j b):lu c d e f g h j:=by obtain a|⟨k,rfl,l,n,a⟩:=a;exact Ur a;exact Up ⟨k,rfl,l,n,m k l.b rfl a⟩
def lu.c{d e g h i j f}(a:lu d e g h i j f)(b)(c:e=S ⟨b,0,N⟩):b<d.heap.size/\¬f b:=by obtain⟨a,_⟩|⟨l,rfl,k,m,a⟩:=a;rw[a]at c;cases c;cases c;exact⟨k.b,a⟩
def D6(f:World)(g:Option Addr)(a h:Nat)(b:List Value):Prop:=b.length=a/\a<=h/\∀c d,b[c]?=S d->∃e,g=S ⟨e,0,N⟩/\f.cell? ⟨e,c,N⟩=S d
def lu.d{b c d e j f k}(a:lu b c d e j f k):D6 b c d e f:=by obtain⟨rfl,rfl,rfl,rfl⟩|⟨l,rfl,g,m,_⟩:=a;exact⟨rfl,UF _,λh i a=>by simp at a⟩;refine⟨m,?_,λh i a=>⟨l,rfl,g.c h i a⟩⟩;obtain⟨n,_,o⟩:=g;omega
structure Th where
 e:Ed
 w:Int
def Th.cells(t:Th):List Value:=[I J t.e.a,I J t.e.b,I J t.e.c,I J t.w]
def iE(a:List Th):List Value:=a.flatMap Th.cells
def zj(t a):iE (t::a)=t.cells++iE a:=by simp[iE]
def Co(a):(iE a).length=a.length*4:=by
 induction a with
 |nil=>rfl
 |cons c d b=>rw[zj,Uu,b,Vg];simp[Th.cells];omega
def Ih(a b):iE (a++b)=iE a++iE b:=by simp[iE]
def Tr(c):∀a∈iE c,a.oneCell'=T:=by intro a d;obtain⟨e,_,b⟩:=VW.1 d;simp only[Th.cells,UZ,U9,Wc]at b;obtain rfl|rfl|rfl|rfl:=b<;>rfl
def Tq(b):∀a c,b[a]?=S c->(iE b)[a*4]?=S (.int J c.e.a)/\(iE b)[a*4+1]?=S (.int J c.e.b)/\(iE b)[a*4+2]?=S (.int J c.e.c)/\(iE b)[a*4+3]?=S (.int J c.w):=by
 induction b with
 |nil=>intro a e d;simp at d
 |cons f c g=>
  intro a e d;rw[zj];cases a with
  |zero=>
   simp at d;subst d;exact⟨rfl,rfl,rfl,rfl⟩
  |succ a=>
   rw[UH]at d;have:=g a e d;have h:f.cells.length=4:=rfl;rw[Ut (by omega),Ut (by omega),Ut (by omega),Ut (by omega),h];rw[show (a+1)*4-4=a*4 by omega,show (a+1)*4+1-4=a*4+1 by omega,show (a+1)*4+2-4=a*4+2 by omega,show (a+1)*4+3-4=a*4+3 by omega];exact this
def Ts(c):∀a b,((((iE c).set (a*4) (.int J b.e.a)).set (a*4+1) (.int J b.e.b)).set (a*4+2) (.int J b.e.c)).set (a*4+3) (.int J b.w)=iE (c.set a b):=by
 induction c with
 |nil=>intro a b;simp[iE]
 |cons d g e=>
  intro a b;cases a with
  |zero=>simp[iE,Th.cells]
  |succ a=>
   rw[UB,zj,zj,<-e a b];have f:d.cells.length=4:=rfl;rw[Vy _ _ (by omega),Vy _ _ (by omega),Vy _ _ (by omega),Vy _ _ (by omega),f];rw[show (a+1)*4-4=a*4 by omega,show (a+1)*4+1-4=a*4+1 by omega,show (a+1)*4+2-4=a*4+2 by omega,show (a+1)*4+3-4=a*4+3 by omega]
abbrev iQ(a:World)(b:Nat)(c:List Th)(d:Nat):Prop:=dL a b 237 4 (iE c) d
def va{a b e d}(c:iQ a b d e)(k t)(f:d[k]?=S t):
 a.cell? ⟨b,k*4,N⟩=S (.int J t.e.a)/\a.cell? ⟨b,k*4+1,N⟩=S (.int J t.e.b)/\a.cell? ⟨b,k*4+2,N⟩=S (.int J t.e.c)/\a.cell? ⟨b,k*4+3,N⟩=S (.int J t.w):=by
 obtain⟨g,h,i,j⟩:=Tq d k t f;exact⟨c.c _ _ g,c.c _ _ h,c.c _ _ i,c.c _ _ j⟩
def dL.e{e b f g c h}(i:dL e b f g c h)(a)(j:a<c.length)(d):dL (e.setCell ⟨b,a,N⟩ d) b f g (c.set a d) h:=by obtain⟨k,l,m⟩:=i;refine⟨k,?_,by rw[UA];exact m⟩;have:=l.f a d;rw[Uw,Ws _ _ j]at this;exact this
def qw(b:World)(a k:Nat)(t:Th):World:=(((b.setCell ⟨a,k*4,N⟩ (I J t.e.a)).setCell ⟨a,k*4+1,N⟩ (I J t.e.b)).setCell ⟨a,k*4+2,N⟩ (I J t.e.c)).setCell ⟨a,k*4+3,N⟩ (I J t.w)
def zh{c b d a}(f:iQ c b a d)(k)(j:k<a.length)(t):iQ (qw c b k t) b (a.set k t) d:=by have l:=Co a;have g:=dL.e f (k*4) (by omega) (I J t.e.a);have h:=dL.e g (k*4+1) (by rw[UA];omega) (I J t.e.b);have i:=dL.e h (k*4+2) (by rw[UA,UA];omega) (I J t.e.c);have e:=dL.e i (k*4+3) (by rw[UA,UA,UA];omega) (I J t.w);rw[Ts]at e;exact e
def yE(b a k t):ae (ap a) b (qw b a k t):=
 ((((ae.a (ap a) b).e (p:=⟨a,k*4,N⟩) (λ_=>rfl) _).e (p:=⟨a,k*4+1,N⟩) (λ_=>rfl) _).e (p:=⟨a,k*4+2,N⟩) (λ_=>rfl) _).e (p:=⟨a,k*4+3,N⟩) (λ_=>rfl) _
def FK(c a d b):Cr 244 #[L c a d] b (.int J a) λe=>b=e:=by go_enter func244,ntmps244;go_wp2;go_ret;exact⟨rfl,rfl⟩
def vY(i c j:Nat)(d)(a b:Nat)(e f)(k:d[a]?=S e)(l:d[b]?=S f)(g)(h:iQ g i d j)(o:(a:Int)<c)(p:(b:Int)<c):
 Cr 245 #[L (S ⟨i,0,N⟩) c j,.int J a,.int J b] g (B (decide (e.w<f.w))) λm=>∃n,m=g.drewN n:=by
 have q:=(va h a e k).2.2.2;have r:=(va h b f l).2.2.2;clear h k l;go_enter func245,ntmps245;go_wp2_with fail;go_quiet (fail);go_wp2;go_ret;exact⟨rfl,nq,rfl⟩
def wL(c k j:Nat)(h)(a b:Nat)(e f)(l:h[a]?=S e)(m:h[b]?=S f)(g)(i:iQ g c h j)(q:(a:Int)<k)(r:(b:Int)<k)(s:a≠b):
 Cr 246 #[L (S ⟨c,0,N⟩) k j,.int J a,.int J b] g (.tuple #[]) λn=>iQ n c ((h.set a f).set b e) j/\ae (ap c) g n:=by
 obtain⟨t,u,v,w⟩:=va i a e l;obtain⟨x,y,z,A⟩:=va i b f m;have d:=λp=>i.f p;have C:=d (a*4);have D:=d (a*4+1);have E:=d (a*4+2);have G:=d (a*4+3);have H:=d (b*4);have K:=d (b*4+1);have M:=d (b*4+2);have O:=d (b*4+3);have o(_:=()):iQ (qw (qw g c a f) c b e) c ((h.set a f).set b e) j/\ae (ap c) g (qw (qw g c a f) c b e):=
  ⟨zh (zh i a (Ul.1 l).1 f) b (by rw[UA];exact(Ul.1 m).1) e,(yE g c a f).c (yE _ c b e)⟩
 clear i l m d;go_enter func246,ntmps246;go_wp2_with fail;go_region;all_goals go_end0
 exact⟨rfl,o.1.drew,o.2.drew⟩
def Ti(b k h:Nat)(e)(a:Nat)(c)(f:e[a]?=S c)(d)(i:iQ d b e h)(r:(a:Int)<k):
 Cr 246 #[L (S ⟨b,0,N⟩) k h,.int J a,.int J a] d (.tuple #[]) λl=>iQ l b e h/\ae (ap b) d l:=by
 obtain⟨s,t,u,v⟩:=va i a c f;have g:=λp=>i.f p;have w:=g (a*4);have x:=g (a*4+1);have y:=g (a*4+2);have z:=g (a*4+3);have j:(e.set a c)=e:=by refine Vc λA=>?_;rw[Vi];split;rename_i q;subst q;rw[f,UG (Ul.1 f).1];rfl
 have m(_:=()):iQ (qw (qw d b a c) b a c) b e h/\ae (ap b) d (qw (qw d b a c) b a c):=
  ⟨by have n:=zh i a (Ul.1 f).1 c;rw[j]at n;have o:=zh n a (Ul.1 f).1 c;rw[j]at o;exact o,(yE d b a c).c (yE _ b a c)⟩
 clear i f g j;go_enter func246,ntmps246;go_wp2_with fail;go_region;all_goals go_end0
 exact⟨rfl,m.1.drew,m.2.drew⟩
def Ii:(prog.info? 237).map (λa=>(a.zero,a.size,a.bytes))=S (S (.agg #[.int J 0,.int J 0,.int J 0,.int J 0]),4,32):=by kernel_rfl
@[go_sem] theorem Ug (a b):(Instr.typeAssert (.iface 237 a) 20 237 F).run prog b= .ok a b:=by kernel_rfl
abbrev vc(t:Th):Value:= .iface 237 (.agg #[I J t.e.a,I J t.e.b,I J t.e.c,I J t.w])
def Cl{P h a b c i o p}(q:a.guard=N)(j k t)(r:a.op=Op.call {callee:=Callee.builtin Builtin.append,args:= #[j,k],argTypes:= #[t,t]})(e z size bytes)(s:P.underlying t=S (.slice e))(u:(P.info? e).map (λg=>(g.zero,g.size,g.bytes))=S (S z,size,bytes))(v:z.cells.size=size)(w:b.eval j=L N 0 0)(ad m c')(x:0<m)(y:b.eval k=L (S ad) m c')(news)(A:news.length=m*size)(C:∀l n,news[l]?=S n->c.cell? (ad.add l)=S n)(D:m*bytes<=140737488355328)(E:m<=9223372036854775807)(G:∀d f,dL f c.heap.size e size news d->m<=d->ae aa c f->i (b.put a.dst (L (S ⟨c.heap.size,0,N⟩) m d)) f):
 if Region.wanted a (yielded h b.tmps)=T then Oper.wp P a b c i o else p:=by
 have H:Region.wanted a (yielded h b.tmps)=T:=by simp[Region.wanted,q]
 rw[UG H];obtain⟨d,f,K,M,O,Q⟩:=y9 (P:=P) c t a.type e z size bytes s u v ad m c' x news A C D E;unfold Oper.wp;simp[execOp,r,resolve,invoke,builtin,w,y,K,Result.andThen];exact G d f M O Q
def BX{f w0 w1 a ho b c' n g h e i}(l:aq f a g h)(j:ae aa f w0)(k:ae e w0 w1)(m:¬e a)(o:dL w1 b 237 4 i c')(q:b≠a):
 aq (w1.setCell ⟨a,ho,N⟩ (L (S ⟨b,0,N⟩) n c')) a (g.setIfInBounds ho (L (S ⟨b,0,N⟩) n c')) h/\dL (w1.setCell ⟨a,ho,N⟩ (L (S ⟨b,0,N⟩) n c')) b 237 4 i c'/\
  ae (λd=>d=a\/e d) f (w1.setCell ⟨a,ho,N⟩ (L (S ⟨b,0,N⟩) n c')):=by
 have r:ae (ap a) w1 (w1.setCell ⟨a,ho,N⟩ (L (S ⟨b,0,N⟩) n c')):=(ae.a (ap a) w1).e (p:=⟨a,ho,N⟩) (λ_=>rfl) _;refine⟨((l.c j λc=>c).c k m).f ho _,o.a r λc=>q c,?_⟩;exact(((j.d λ_ _ c=>c.elim).c (k.d (ex':=λd=>d=a\/e d) λ_ _ c=>Up c))).e (p:=⟨a,ho,N⟩) (λ_=>Ur rfl) _
def Q2(d ho k r f l b t e)(g:aq e d k r)(m:k[ho]?=S (L (S ⟨f,0,N⟩) b.length l))(i:d≠f)(o:iQ e f b l)(s:(b.length:Int)<1000000):
 Cr 249 #[P (S ⟨d,ho,N⟩),vc t] e (.tuple #[]) λp=>∃c h,aq p d (k.setIfInBounds ho (L (S ⟨c,0,N⟩) (b.length+1) h)) r/\
  iQ p c (b++[t]) h/\b.length+1<=h/\(c=f\/e.heap.size<=c)/\c≠d/\ae (λu=>u=d\/u=f) e p:=by
 have G:=(g.a ho).trans m;have H:=g.d ho;have K:=o.b;have M:=g.b;have j:=@aC _ _ g o;have v:=@af _ s;have z:=@af _ m;clear g m o s;go_enter func249,ntmps249;go_wp2_with fail;go_region_law (refine Ic rfl (.tmp 7) (.tmp 10) 170 rfl 237 (.agg #[I J 0,I J 0,I J 0,I J 0]) 4 32 underlying170 Ii rfl f b.length l (by simp[Act.eval,Act.put]) (iE b) (Co b) ((j.2.d _).drew) ⟨e.heap.size,0,N⟩ 1 1 (by simp[Act.eval,Act.put]) (iE [t]) rfl (At.a (B:=0) (At.b rfl (Vl _))) (Tr _) (by have:=v;omega) (by have:=v;omega) ?_;intro c h O A C w q;have Q:=(((j.1.g _).drew.c q λa=>i a).a ho).trans z;have R:=((j.1.g _).drew.c q λa=>i a).d ho);all_goals
  go_end0;have x:c≠d:=by obtain⟨a,_⟩|⟨a,_⟩:=w;rw[a];exact WO i;simp only[UR,Uv]at a;omega
  obtain⟨D,y,E⟩:=BX (ho:=ho) (n:=b.length+1) j.1 (((ae.a aa e).b _).drew) q (λa=>i a) A x;rw[<-Ih]at y;refine⟨rfl,c,h,D,y,C,?_,x,E⟩;obtain⟨a,_⟩|⟨a,_⟩:=w;exact Ur a;simp only[UR,Uv]at a;exact Up (by omega)
def Q1(c ho g l t b)(d:aq b c g l)(h:g[ho]?=S (L N 0 0)):
 Cr 249 #[P (S ⟨c,ho,N⟩),vc t] b (.tuple #[]) λi=>∃f e,aq i c (g.setIfInBounds ho (L (S ⟨f,0,N⟩) 1 e)) l/\
  iQ i f [t] e/\1<=e/\b.heap.size<=f/\f≠c/\ae (ap c) b i:=by
 have u:=(d.a ho).trans h;have v:=d.d ho;have w:=d.b;have j:=@af _ d;have o:=@af _ h;clear d h;go_enter func249,ntmps249;go_wp2_with fail;go_region_law (refine Cl rfl (.tmp 7) (.tmp 10) 170 rfl 237 (.agg #[I J 0,I J 0,I J 0,I J 0]) 4 32 underlying170 Ii rfl (by simp[Act.eval,Act.put]) ⟨b.heap.size,0,N⟩ 1 1 (by omega) (by simp[Act.eval,Act.put]) (iE [t]) rfl (At.a (B:=0) (At.b rfl (Vl _))) (by omega) (by omega) ?_;intro e x m p k;have y:=(((j.g _).drew.c k λa=>a).a ho).trans o;have z:=((j.g _).drew.c k λa=>a).d ho);all_goals
  go_end0;simp only[UR,Uv]at m|-;obtain⟨q,r,s⟩:=BX (ho:=ho) (n:=1) j (((ae.a aa b).b _).drew) k (λa=>a) m (by omega);exact⟨VU,_,e,q,r,p,by omega,by omega,s.d λ_ _ a=>a.elim id λa=>a.elim⟩
def QV(e ho h j f c n a t b)(g:aq b e h j)(l:h[ho]?=S (L (S ⟨f,0,N⟩) (n+1) c))(p:e≠f)(i:iQ b f a c)(q:a.length=n+1)(y:n+1<=c)(m:a[n]?=S t)(r:(n:Int)<1000000):
 Cr 248 #[P (S ⟨e,ho,N⟩)] b (vc t) λk=>aq k e (h.setIfInBounds ho (L (S ⟨f,0,N⟩) n c)) j/\
  iQ k f (a.take n) c/\ae (ap e) b k:=by
 have z:=(g.a ho).trans l;have A:=g.d ho;have C:=g.b;have D:=i.b;obtain⟨E,G,H,K⟩:=va i n t m;have M:(n:Int)<=c:=by omega
 have O:wrap64 (n:Int)=n:=by unfold wrap64;omega
 have o(_:=()):aq b e h j/\iQ b f (a.take n) c:=⟨g,by
  have:=i.g (n*4);have d:(iE a).take (n*4)=iE (a.take n):=by
   have s:iE a=iE (a.take n)++iE (a.drop n):=by rw[<-Ih,Vd]
   have u:(iE (a.take n)).length=n*4:=by rw[Co,UK];omega
   rw[s,<-u,Wp]
  rw[d]at this;exact this⟩
 clear g l i q m r;go_enter func248,ntmps248;go_wp2;go_ret;obtain⟨v,w,x⟩:=BX (ho:=ho) (n:=n) (w1:=b) o.1 (ae.a aa b) (ae.a aa _) (λd=>d) o.2 (WO p);exact⟨rfl,v.g _,w.d _,(x.d λ_ _ d=>d.elim id λd=>d.elim).b _⟩
end Go.Proofs.YtlfijfodklhplaaGreat
