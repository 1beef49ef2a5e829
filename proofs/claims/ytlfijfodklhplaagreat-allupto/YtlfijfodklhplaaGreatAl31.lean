import Derived.Test.YtlfijfodklhplaaGreatAl29
import Derived.Shelf.SlSortCmp.WholeK
set_option maxRecDepth 100000
set_option maxHeartbeats 4000000
set_option linter.all false
open Go.RowKit Go.Proofs.Tryz
open Go.Value renaming int->I,slice->L,pointer->P,bool->B
open Go.IntKind renaming i64->J
open Option renaming some->S,none->N
open Bool renaming true->T,false->F
namespace Go.Proofs.YtlfijfodklhplaaGreat.Ghs
open bV
def nF(b:List (Nat×Fr.cF))(c:Nat):List Fr.cF:=(b.filter λa=>a.1==c).map λa=>a.2
def JB(a b):mD a b=(nF a.aD b).map cy:=by simp[mD,nF,Wj]
def fN.o{a}{d:bT a}{S e f g}(b:fN a d S e f g)(c):fN a d {S with jg:=aj S.jg c (S.jg c).b} e f g:=by obtain⟨h,i,j⟩:=b.a;exact⟨b.b,b.c,h,i.m c,j⟩
def fN.m{d}{b:bT d}(u:d.n<2 ^ 30)(v:∀w,b.dg w<2 ^ 30){S f g h}(i:fN d b S f g h){a k}(e:k<b.dg a){m r}(x:g (b.nb a k) a=m::r):
 fN d b {S with jg:=aj S.jg a ((S.jg a).w k m)} f (am g (b.nb a k) a r) h:=by
 obtain⟨y,z,p⟩:=i.a;obtain⟨A,C,j⟩:=tU b e;have q:=p (b.nb a k) A k C (by rw[j];exact e) (by rw[j]);rw[j,x]at q;have D:y (b.nb a k) a=cy m::(r++List.drop (S.en a k).aT (f (b.nb a k) a)++h (b.nb a k) a).map cy:=by rw[q];simp
 refine⟨i.b,i.c,_,z.q u v e D,λl s n E t o=>?_⟩;by_cases c:l=b.nb a k/\b.nb l s=a;obtain⟨rfl,c⟩:=c;rw[c];have G:n=k:=b.jh a n k (by rw[<-c];exact t) e (by rw[c]at o;exact o);subst G;simp[am];simp only[am,Us c];exact p l s n E t o
def fN.i{f}{d:bT f}{S k l e R'}(g:fN f d S k l e){u}(m:∀c,c<d.dg u->R' u (d.nb u c)=e u (d.nb u c)++nF (S.jg u).aD c)(r:∀a,a≠u->R' a=e a):
 fN f d {S with jg:=aj S.jg u {S.jg u with aD:=[]}} k l R':=by
 obtain⟨n,s,o⟩:=g.a;refine⟨g.b,g.c,λa b=>if a=u then n u b++((R' u b).drop (e u b).length).map cy else n a b,s.o (λc t=>?_) λa h=>?_,λa b p i q h=>?_⟩;rw[UG rfl,m c t,JB];simp;grind;dsimp only;by_cases j:a=u;subst j;rw[UG rfl,o a b p i q h,m b i];simp;rw[Us j,r a j];exact o a b p i q h
def fN.l(c)(d:bT c)(S)(g:∀a,S.jg a=ay.g ((List.range (d.dg a)).map λb=>c.w a (d.nb a b)))(e:∀a b,S.en a b=En.e)(h:S.io=[]):fN c d S (λ_ _=>[]) (λ_ _=>[]) (λ_ _=>[]):=by refine⟨λa b j _ _ _=>?_,λa b=>by rw[e];rfl,_,iT.p c d S.jg g,λk l m _ _ _=>by simp⟩;rw[e,e,h];exact lD.f.b (λi f=>by cases f) λi f=>by cases f
def Aq(a c b):nF (a::c) b=(if a.1=b then [a.2]else [])++nF c b:=by by_cases d:a.1=b<;>simp[nF,d]
def qM:Nat->Nat->List Fr.cF:=λ_ _=>[]
def fN.f{c}{b:bT c}{S f g h i}(d:fN c b S f g i)(l:∀a e,e<b.dg a->h a (b.nb a e)=g a (b.nb a e)):fN c b S f h i:=by obtain⟨m,n,o⟩:=d.a;exact⟨d.b,d.c,m,n,λa j p k q r=>by rw[o a j p k q r,l a j k]⟩
def qO(a b:E3):Prop:=(a.a=b.a/\a.b=b.b)\/(a.a=b.b/\a.b=b.a)
structure nB(h:Nat)(e:List E3):Prop where
 a:∀d∈e,d.a<h/\d.b<h/\d.a≠d.b/\1<=d.w/\d.w<=1000
 b:e.Pairwise λf g=>f.w<g.w
 c:e.Pairwise λf g=>¬qO f g
def Dw{d:Type}{R:d->d->Prop}{e:List d}(h:e.Pairwise λa b=>¬R a b)(i:∀a b,R a b->R b a){a b}(j:a∈e)(k:b∈e)(l:R a b):a=b:=by obtain⟨f,m,rfl⟩:=U3 j;obtain⟨g,n,rfl⟩:=U3 k;have:=Vv.1 h;obtain c|c|c:=XA f g;grind;subst c;rfl;exact(this g f n m c (i _ _ l)).elim
def Ay(a b)(c:qO a b):qO b a:=by unfold qO at *;omega
def p9(d:List E3)(b c:Nat):Nat:=match d.find? (λa=>(a.a==b&&a.b==c)||(a.a==c&&a.b==b))with
 |some a=>a.w
 |none=>0
def DS(a b c):p9 a b c=p9 a c b:=by unfold p9;grind
def xG{f c}(g:nB f c)(a)(e:a∈c):p9 c a.a a.b=a.w:=by
 unfold p9;cases d:c.find? (λb=>(b.a==a.a&&b.b==a.b)||(b.a==a.b&&b.b==a.a))with
 |none=>
  have:=List.find?_eq_none.1 d a e;simp at this
 |some b=>
  have h:=List.find?_some d;have:b=a:=Dw g.c Ay (List.mem_of_find?_eq_some d) e (by unfold qO;simp at h;omega);rw[this]
def pn{c:Nat}{a:List E3}(b:nB c a):Gr:=Jh c a b.a b.b (p9 a) (DS a) (xG b)
def iW(a:Nat)(c:List E3):List E3:=c.filter λb=>b.a==a||b.b==a
def ue{b c a}:a∈iW b c↔a∈c/\(a.a=b\/a.b=b):=by unfold iW;rw[Vw];simp
def lW(b:Nat)(a:E3):Nat:=a.a+a.b-b
def xH{f d}(e:nB f d){b a}(g:a∈iW b d):p9 d b (lW b a)=a.w/\(pn e).fg b (lW b a):=by
 obtain⟨c,h⟩:=ue.1 g;obtain rfl|rfl:=h;have:lW a.a a=a.b:=by unfold lW;omega
 rw[this];exact⟨xG e a c,a,c,Ur ⟨rfl,rfl⟩⟩;have:lW a.b a=a.a:=by unfold lW;omega
 rw[this,DS];exact⟨xG e a c,a,c,Up ⟨rfl,rfl⟩⟩
def lX{n:Nat}{d:List E3}(g:nB n d):bT (pn g) where
 nb a c:=match (iW a d)[c]? with|some f=>lW a f|none=>0
 dg a:=(iW a d).length
 iU:=λa c b=>by rw[Um b];exact(xH g (Vk b)).2
 jh:=λa c h b e f=>by
  rw[Um b,Um e]at f;dsimp only at f;have o:=ue.1 (Vk b);have p:=ue.1 (Vk e);have m:qO (iW a d)[c] (iW a d)[h]:=by unfold qO;unfold lW at f;omega
  have j:(iW a d).Pairwise (λk l=>¬qO k l):=g.c.filter _;have:=Vv.1 j;obtain i|i|i:=XA c h;exact(this c h b e i m).elim;exact i;exact(this h c e b i (Ay _ _ m)).elim
 pU:=λa q ⟨f,r,u⟩=>by have s:f∈iW a d:=ue.2 ⟨r,by omega⟩;obtain⟨c,b,rfl⟩:=U3 s;refine⟨c,b,?_⟩;rw[Um b];show lW a _=q;unfold lW;omega
 CN:=λa c h t e=>by
  have b:c<(iW a d).length:=by omega
  rw[Um b,Um e];have j:(iW a d).Pairwise (λk l=>k.w<l.w):=g.b.filter _;have o:=Vv.1 j c h b e t;have p:=(xH g (Vk b)).1;have v:=(xH g (Vk e)).1;show p9 d a (lW a _)<=p9 d a (lW a _);omega
def gW.f{a}{f:bT a}{d g b h i}(j:gW a f d g b)(k:cL a b h i){c}(l:b.cg c=T):(d c).cq≠N:=λm=>by obtain⟨n,e⟩:=k.j l;rw[(j.a c).d,m]at e;cases e
def CL(a:ay)(b:Nat):bV->Prop
 | .dG=>a.cq≠N
 | .dK=>a.cq≠N
 | .dO=>a.dj≠N
 | .bH c=>(a.cq≠S b->a.cq≠N)/\(a.cq=S b->a.aP≠1->a.bw<c->a.dj≠N)
 | .cW _ _=>a.cB=S b->a.cq≠N
 |_=>True
def IG{m}{b:bT m}{j r}(s:jf m b j r){v c n}(o:c<b.dg v){t A}(u:r (b.nb v c) v=t++n::A)(p:ci t=[]):CL (j v) c n:=by
 have C:=s;obtain⟨g,D,U,d,a,V,W⟩:=s;obtain⟨X,h,w⟩:=d.d (m.iK _ _ (b.iU v c o)) u;have e:=d.a v;cases n with
 |bG x=>exact VU
 |aL x E Y=>exact VU
 |dG=>exact d.f a (pZ a (a.c.e v (b.nb v c) (by simp only[kT,h];simp[dm])).1)
 |dK=>exact d.f a (pZ a (a.c.f v (b.nb v c) (by simp only[kT,h];simp[dm])).1)
 |cW x E=>
  intro i;exact d.f a (pZ a (v:=b.nb v c) (by rw[e.j,i];rfl))
 |dO=>
  obtain⟨G,y⟩:=(CO C o u).1;intro i;grind
 |bH H=>
  refine⟨λi=>?_,λK M O=>?_⟩;have k:g.j6 v≠S (b.nb v c):=λf=>by
   rw[e.d]at f;cases q:(j v).cq with
   |none=>rw[q]at f;cases f
   |some Q=>
    rw[q]at f;simp at f;have:=b.jh v _ _ (e.i Q q) o f;grind
  exact d.f a (a.o h p k).1;have k:g.j6 v=S (b.nb v c):=by rw[e.d,K];rfl
  have z:g.cg v=F:=by cases i:g.cg v;rfl;exact(M (e.f.1 i)).elim
  have y:g.bw v<H:=by rw[e.e];exact O
  have l:=a.f h p k z;have R:1<=D.bB v:=by obtain l|l:=l;omega;exact(a.a.i v l.2.2.2.2.1).1
  rw[<-mV j v]at w;obtain⟨⟨G,Z⟩,_⟩:=Au w (C2 a h p k z y) (Ur rfl) R;grind
def xu:bV->Prop
 | .bG a=>a<=9
 | .aL a b _=>a<=9/\1<=b/\b<=1000
 | .cW a b=>a<=9/\b<=1000
 | .bH c=>1<=c/\c<=1001
 |_=>True
def cL.l{a d b e}(f:cL a d b e)(h:a.n<=1000){c}(g:c<a.n):b.bB c<=9:=by have i:=f.h g;apply UC;intro j;have k:2 ^ 10<=2 ^ b.bB c:=Nat.pow_le_pow_right (by omega) (by omega);grind
def cL.m{d c e f}(b:cL d c e f){a g}(h:c.fh a=S g):c.eU a<=1000:=by have i:=b.b.a a (pZ b h);have m:=b.a.i a i.1;obtain⟨j,k,l,_,n,_⟩:=b.a.w a (by omega);have:=(d.w1 j k l).2;omega
def cL.p{d h o p}(a:cL d h o p)(l:d.n<=1000)(q:∀u v f,bH f∈h.q u v->1<=f){u v i}(e:i∈h.q u v):xu i:=by
 have m:=(a.e u v i e).1;have x:=a.l l (d.lt _ _ m);have y:=a.l l (d.lt _ _ (d.iK _ _ m));have z:=a.a.n u;have A:=a.a.n v;cases i with
 |bG c=>
  have b:=a.a.l u v c (by simp[kS,e,dA]);show c<=9;grind
 |aL c g j=>
  have n:aL c g j∈kS h.q u v:=by simp[kS,e,eF]
  have b:=a.a.f u v c g j n;obtain⟨r,s,k,_,t,_⟩:=a.a.A u v c g j n;have:=d.w1 r s k;exact⟨by omega,by omega,by omega⟩
 |cW c g=>
  have b:=a.c.b u v c g (by simp[kT,e,cC]);obtain⟨b,w,k⟩|⟨b,w,k,C,t,_⟩:=b;have:=a.m b;exact⟨by omega,by omega⟩;have:=a.m b;exact⟨by omega,by omega⟩
 |dG=>trivial
 |dK=>trivial
 |bH f=>
  have b:=a.b.b v u f (by simp[kR,e,dN]);refine⟨q u v f e,?_⟩;obtain b|b:=b;have:=a.b.f u;omega;omega
 |dO=>trivial
def iT.n{b}{c:bT b}{f d g}(h:iT b c f d g)(i:b.n<=1000){u a}(j:a∈(d u).aD)(k:a.1<c.dg u):xu (cy a.2):=by obtain⟨m,⟨n,o,p,e,l,q,r⟩,s⟩:=h.a;refine l.p i e.b (u:=u) (v:=c.nb u a.1) ?_;rw[e.q u a.1 k];refine List.mem_append_right _ (Vb.2 ⟨a,Vw.2 ⟨j,by simp⟩,rfl⟩)
def PS(b:ay):Prop:=∀a∈b.aD,a.2=(cy a.2).a
def Ju(a:bV):a.a=(cy a.a).a:=by cases a<;>simp[bV.a,cy];grind
def nE{a n'}(b:PS a)(c:n'.aD=a.aD):PS n':=by unfold PS;rw[c];exact b
def pX{b}(d:PS b)(e c):PS (b.d e c):=λf a=>by obtain a|a:=UP.1 a;exact d f a;rw[UY.1 a];exact Ju c
def Dv{a}(b:PS a):PS a.b:=by unfold ay.b;split;split;assumption;exact pX (nE b rfl) _ _;exact b
def Du{n}(a:PS n)(b c d e):PS (n.j b c d e):=by unfold ay.j;split;exact nE (pX a b (.aL c d e)) rfl;exact pX a _ _
def Ak{a}(b:PS a):PS a.q:=by unfold ay.q;split;split;assumption;exact pX (nE b rfl) _ _;exact b
def Al{a}(b:PS a):PS a.l:=by unfold ay.l;split;exact Ak (nE b rfl);exact pX (nE b rfl) _ _
def xB(e f g h):∀(b a) {c},PS c->PS (c.o e f g h b a)
 |0,a,c,d=>d
 |b+1,a,c,d=>by rw[ay.o];split;exact xB e f g h b (a+1) (Du d _ _ _ _);exact xB e f g h b (a+1) d
def Aj{a}(b:PS a)(c):PS (a.f c):=by unfold ay.f;split;assumption;exact b
def Dq{n}(a:PS n)(b c):PS (n.n b c):=by unfold ay.n;split;assumption;exact a
def Dt{b}(a:PS b):PS b.s:=by unfold ay.s;split;exact a;split;exact pX a _ _;exact nE (pX a _ _) rfl
def xA{n}(a:PS n)(c f):PS (n.a c f).1:=by
 have b:=Dv a;cases f with
 |bG d=>
  show PS (n.m c d).1;unfold ay.m;dsimp only;split;exact Du (n:=n.b.e c 1) (nE b rfl) _ _ _ _;split;exact b;exact pX b _ _
 |aL d e g=>
  show PS (n.y c d e g);unfold ay.y;split;exact Al (xB _ _ _ _ _ _ (nE a rfl));exact xB _ _ _ _ _ _ (nE a rfl)
 |cW d e=>
  show PS (n.r c d e).1;unfold ay.r;dsimp only;split;exact b;split;exact pX b _ _;split;exact Al (Aj b _);exact pX (Aj b _) _ _
 |dG=>exact Ak (Dq (n:= {n with cB:=N}) (nE a rfl) _ _)
 |dK=>exact Al (Aj a _)
 |bH h=>
  show PS (n.i c h).1;unfold ay.i;split;split;exact a;split;exact Dt a;split;assumption;exact a;exact Ak (Dq (n:= {n with bI:=wrap64 (n.bI-1)}) (nE a rfl) _ _)
 |dO=>exact Dt a
def Ai:∀(d b) {c},PS c->PS (c.h d b).1
 |0,b,c,a=>a
 |d+1,b,c,a=>by rw[ay.h];split;exact a;rename_i e f;split;exact nE (xA a e.1 e.2) rfl;exact Ai d (b+1) (xA a _ _)
def Dr:∀(c) {a},PS a->PS (a.v c)
 |0,a,b=>b
 |c+1,a,b=>by rw[ay.v];split;exact Dr c (Ai _ _ b);exact Ai _ _ b
def Jw{a}(b:PS a)(c d):PS (a.w c d):=by unfold ay.w;split;exact Dr _ (xA b _ _);exact nE (xA b c (cy d)) rfl
end Go.Proofs.YtlfijfodklhplaaGreat.Ghs
namespace Go.Proofs.YtlfijfodklhplaaGreat
def bn.y{b d}(g:bn b d){e a}(h:d.aK[e]?=S a){c f}(i:d.f=S ⟨c,f,N⟩):c<b.heap.size/\b.cell? ⟨c,f+e*2,N⟩=S (P (S ⟨a.b,0,N⟩))/\b.cell? ⟨c,f+e*2+1,N⟩=S (L a.c a.ss.length a.f):=by obtain⟨j,k,l,m,n,o⟩:=g.d h;grind
def Ho(i:Nt)(b k D f m)(a:Sp)(c)(n:bn c i)(g:i.aK[b]?=S a)(E:dw i.a D)(G:i.f=S ⟨f,m,N⟩)(H:k∈a.ss.map Sd.a):
 Cr 67 #[P (S ⟨f,m+b*2,N⟩),.int J k] c (B (i.a.u b k)) λh=>ae aa c h:=by
 obtain⟨j,p,r⟩:=Fh _ k H;obtain⟨q,K,s⟩:=n.y g G;have M:j<a.ss.length:=by have:=(Ul.1 p).1;simpa using this
 obtain⟨t,O⟩:∃t,a.ss[j]?=S t:=⟨_,Um M⟩
 obtain⟨Q,R,Y,u,v,_,_,_⟩:=n.m g O;have w:=E.a b a.a (jH g);have Z:a.n.ai.length=a.ss.length:=by simpa [Sp.a]using w.2.1
 have ab:(a.n.ai.length:Int)<1000:=w.1.a.a.a;obtain⟨d,x⟩:∃d,a.n.ai[j]?=S d:=⟨_,Um (by omega)⟩
 have ac:i.a.u b k=decide (d.2=1):=by unfold AN.u;rw[jH g,Ik g p r];have:a.a.n.ai[j]?=S d:=x;simp only[this];by_cases y:d.2=1;simp[y];simp[y]
 rw[u]at s;have U(_:=()):∀e,ae aa c e->_:=λe l=>Fc f (m+b*2) k Q R a.f (a.ss.map Sd.a) j e (by rw[UX];exact(l.f f _ q id).trans s) (Un q l.size) ((n.u g u).a l v id) (Un v l.size) (by rw[UX];omega) p r;have V(_:=()):∀e,ae aa c e->_:=λe l=>yD a.b a.n a.p j d e ((n.kI b a g).b l λ_ _ d=>d) x (by omega);obtain⟨z,ad⟩:∃z:Bool,z=decide (d.2=1):=⟨_,rfl⟩
 go_enter func67,ntmps67;go_wp2_with fail;have A(_:=()):∀h,ae aa c.drew h->h.cell? ⟨f,m+b*2,N⟩=S (P (S ⟨a.b,0,N⟩)):=λh W=>(W.f f _ q id).trans K;go_region_held3 (λh=>h.cell? ⟨f,m+b*2,N⟩=S (P (S ⟨a.b,0,N⟩))) (first|go_keep|exact A () _ o|exact A () _ (o.c C)) (first|(go_at_call 115;refine(U () _ ((ae.a aa c).drew)).mono ?_;rintro X e ⟨rfl,o⟩)|(go_at_call 119;refine(V () _ ((ae.a aa c).drew.c o)).mono ?_;rintro X ag ⟨rfl,C⟩));have ah:=@af _ (((ae.a aa c).drew.c o).c C);go_wp2;go_ret;simp_all
def kh(k:Nat)(a:Ed):Sd:=⟨(a.a+a.b-(k:Int)).toNat,En.e,Pl.a⟩
def cN(k:Nat)(b:List Ed):List Ed:=b.filter λa=>decide (a.a=(k:Int)\/a.b=(k:Int))
def fZ(a:List Ed):List Nat:=a.map λb=>b.c.toNat
def Sy:(prog.info? 181).map (λa=>(a.zero,a.size,a.bytes))=S (S (.agg #[.int J 0,.int J 0,L N 0 0,.int J 0,.int J 0,.int J 0,.int J 0,B F,B F,.int J 0,.int J 0,.int J 0,B F,B F,.int J 0,.int J 0,.int J 0,B F,B F,.int J 0,.int J 0,.int J 0,B F,B F,L N 0 0]),25,232):=by kernel_rfl
structure un(j wr:World)(k:Nat)(l:List Ed)(m n:Nat)(o:Option Addr)(p:Nat)(q:Option Addr)(wc:Nat):Prop where
 e:ae aa j wr
 b:aq wr m #[P N,L N 0 0] 125
 c:aq wr n #[P N,L o l.length p] 125
 g:RV wr 181 25 o l.length p (fY (l.map (kh k)))
 h:RV wr 3 1 q l.length wc (gT (fZ l))
 f:j.heap.size<=m/\j.heap.size<=n/\m≠n
 a:∀i,ag o i->j.heap.size<=i/\i≠n/\i≠m
 d:∀i,ag q i->j.heap.size<=i/\i≠n/\i≠m/\¬ag o i
def un.i{d wr w1 k e f g wc h i j}(a:un d wr k h e f i g j wc)(b:ae aa wr w1):un d w1 k h e f i g j wc:=
 ⟨a.e.c b,a.b.c b id,a.c.c b id,a.g.a b λ_ _ c=>c,a.h.a b λ_ _ c=>c,a.f,a.a,a.d⟩
def un.j{H wr i v k q f K wc j A e w r g s}(c:un H wr k e q f w K r wc)(l){t m}(x:ae aa wr t)(n:ae aa (i.setCell ⟨f,1,N⟩ (L g (e.length+1) j)) m)(M:RV i 181 25 g (e.length+1) j (fY (e.map (kh k))++pJ (kh k l)))(R:(g=w/\j=K)\/(g=S ⟨t.heap.size,0,N⟩/\ae aa t i))(y:ae (ag w) t i)(U:RV v 3 1 s (e.length+1) A (gT (fZ e)++[.int J l.c.toNat]))(V:(s=r/\A=wc)\/(s=S ⟨m.heap.size,0,N⟩/\ae aa m v))(z:ae (ag r) m v):
 un H v k (e++[l]) q f g j s A:=by
 have ak:=c.c.b;have al:=c.b.b;have am:=y.size;have an:i.heap.size<=m.heap.size:=by have:=n.size;simpa using this
 have ao:=x.size;have ar:=c.g.b;have W:=c.h.b;have C:∀a,ag g a->ag w a\/t.heap.size<=a:=λa d=>by obtain⟨h,_⟩|⟨h,_⟩:=R;rw[h]at d;exact Ur d;rw[h]at d;exact Up (by rw[cM.1 d];exact UF _)
 have X:∀a,ag s a->ag r a\/m.heap.size<=a:=λa d=>by obtain⟨h,_⟩|⟨h,_⟩:=V;rw[h]at d;exact Ur d;rw[h]at d;exact Up (by rw[cM.1 d];exact UF _)
 have Y:=M.b;obtain⟨O,D⟩:=ah (i.setCell ⟨f,1,N⟩ (L g (e.length+1) j));rw[<-D]at n;have E:ae (ap f) i O:=by rw[D];exact(ae.a (ap f) i).e (p:=⟨f,1,N⟩) (λ_=>rfl) _
 have Z:=(c.c.c x id).c y λb=>(c.a f b).2.1 rfl;have ab:aq O f #[P N,L g (e.length+1) j] 125:=by have:=Z.f 1 (L g (e.length+1) j);rw[<-D]at this;exact this
 have ac:∀a,ag g a->a≠f/\a≠q:=λa d=>by obtain b|b:=C a d;exact⟨(c.a a b).2.1,(c.a a b).2.2⟩;exact⟨by omega,by omega⟩
 have Q:∀a,ag g a->¬ag r a:=λa d b=>by obtain o|o:=C a d;exact(c.d a b).2.2.2 o;have:=W a b;omega
 refine⟨?_,?_,?_,?_,?_,c.f,?_,?_⟩;refine((((c.e.c x).g y λu G b=>?_).g E λu G b=>?_).c n).g z λu G b=>?_;have:=(c.a u b).1;omega;rw[show u=f from b]at G;have:=c.f.2.1;omega;have:=(c.d u b).1;omega;refine((((c.b.c x id).c y λb=>(c.a q b).2.2 rfl).c E λb=>c.f.2.2 b).c n id).c z λb=>(c.d q b).2.2.1 rfl;rw[Uu];exact((ab.c n id).c z λb=>(c.d f b).2.1 rfl);rw[Uu,Vm];have h:fY (e.map (kh k)++[l].map (kh k))=fY (e.map (kh k))++pJ (kh k l):=by simp[fY]
 rw[h];exact((M.a E λa d b=>(ac a d).1 b).a n λ_ _ b=>b).a z λa d b=>Q a d b;rw[Uu];have h:gT (fZ (e++[l]))=gT (fZ e)++[I J l.c.toNat]:=by simp[gT,fZ]
 rw[h];exact U;intro a d;obtain b|b:=C a d;exact c.a a b;have ad:=c.e.size;exact⟨by omega,by omega,by omega⟩;intro a d;obtain b|b:=X a d;obtain⟨af,ai,aj,au⟩:=c.d a b;exact⟨af,ai,aj,λo=>Q a o b⟩;have ad:=c.e.size;exact⟨by omega,by omega,by omega,λo=>by have:=Y a o;omega⟩
def uA{c g h i f}(j:RV c 30 3 g h i (cA f)){k d}(l:f[k]?=S d)(q:k<h):
 ∃a b,g=S ⟨a,b,N⟩/\a<c.heap.size/\c.cell? ⟨a,b+k*3,N⟩=S (.int J d.a)/\c.cell? ⟨a,b+k*3+1,N⟩=S (.int J d.b)/\c.cell? ⟨a,b+k*3+2,N⟩=S (.int J d.c):=by
 obtain⟨a,b,m,e⟩:=ja j (by omega);obtain⟨n,o,p⟩:=uz f k d l;refine⟨a,b,m,e.b,e.a _ _ n,?_,?_⟩;rw[UI];exact e.a _ _ o;rw[UI];exact e.a _ _ p
structure tM(d:AN):Prop where
 b:d.g.length<=1000
 a:∀g∈d.g,∃e f:Nat,g.a=(e:Int)/\g.b=(f:Int)/\(∃c,d.h[e]?=S c/\f∈c)/\(∃c,d.h[f]?=S c/\e∈c)
def AN.r(b:AN)(a:Ed):Bool:=b.u a.a.toNat a.b.toNat||b.u a.b.toNat a.a.toNat
def TF(a:AN):a.C=a.g.filter a.r:=rfl
def Hu{b:Nt}{c:Nat}{d}(e:b.a.h[c]?=S d):∃a,b.aK[c]?=S a/\d=a.ss.map Sd.a:=by simp only[AN.h,Nt.a,Wj,Uz]at e;obtain⟨a,f,g⟩:=UD.1 e;exact⟨a,f,by rw[<-g];simp[Sp.a,Sd.b,Wu]⟩
structure ly(g wr:World)(h:List Ed)(e:Option Addr)(j:Nat):Prop where
 a:ae aa g wr
 b:RV wr 30 3 e h.length j (cA h)
 c:∀d,ag e d->g.heap.size<=d
 f:∀d i,e=S ⟨d,i,N⟩->i=0
def jJ{d e a g b c h}(f)(j:Region.wanted c (yielded e b.tmps)=T)(k:∀i,a i->c.quietAt d b a i f)(l:wpQuiet d e a g h (b.put c.dst f)):wpQuiet d e a g (c::h) b:=
 BigFrame.wpQuiet_want j λn m=>⟨f,k,m _ l⟩
def ly.e{b wr w1 c d e}(a:ly b wr c d e)(k:ae aa wr w1):ly b w1 c d e:=⟨a.a.c k,a.b.a k λ_ _ f=>f,a.c,a.f⟩
def ly.d{j wr d e b g a' k c'}(c:ly j wr b g k)(a)(l:ae aa wr d){f}(q:RV e 30 3 a' (b.length+1) c' (cA b++[.int J a.a,.int J a.b,.int J a.c]))(m:(a'=g/\c'=k)\/(a'=S ⟨(d.alloc f).heap.size,0,N⟩/\ae aa (d.alloc f) e))(o:ae (ag g) d e):ly j e (b++[a]) a' c':=by
 refine⟨?_,?_,?_,λh f i=>?_⟩;exact(c.a.c l).g o (λp r i=>by have:=c.c p i;omega);have s:cA (b++[a])=cA b++[I J a.a,I J a.b,I J a.c]:=by simp[cA,Ed.cells]
 grind;intro h n;obtain⟨rfl,_⟩|⟨rfl,_⟩:=m;exact c.c h n;have:=cM.1 n;have t:=(c.a.c l).size;simp only[Uv]at this;omega;obtain⟨rfl,_⟩|⟨rfl,_⟩:=m;exact c.f h f i;grind
def Pw(a ay K)(c:bn K a)(aT:dw a.a ay)(aA:tM a.a):
 Calls prog 34 #[P (some ⟨a.nb,0,N⟩)] K λan b=>∃x y,an= .returned (L x a.a.C.length y)/\ly K b a.a.C x y:=by
 have Z:=@cf _ _ _ c aT aA;have aB:=c.x;have aD:=c.fq.b;have br:(a.d.length:Int)<=1000:=by have:=aA.b;have p:a.a.g.length=a.d.length:=rfl;omega
 have ab(_:=()):∀s,ae aa K s->s.cell? ⟨a.nb,1,N⟩=some (L a.f a.aK.length a.e)/\a.nb<s.heap.size:=λs ac=>by have O:=c.a ac λ_ _ p=>p;exact⟨O.i,O.fq.b⟩
 obtain⟨t,aU⟩:=ah a.nb;rw[<-aU]at aB aD ab|-;have a7(_:=()):ly K K [] N 0:=⟨ae.a _ _,RV.d _ _ _,λaE a8=>(b8 aE a8).elim,λaE bs p=>by cases p⟩
 clear c aT aA aU;go_enter func34,ntmps34;go_wp2_with fail;go_loopw [3,11] (λaF v wr=>∃(i:Nat)(x:Option Addr)(y:Nat),i<=a.d.length/\v= .int J i/\aF=L x ((a.d.take i).filter a.a.r).length y/\ly K wr ((a.d.take i).filter a.a.r) x y) λ_ v _=>a.d.length-(intOf v).toNat;case atStart=>exact⟨0,N,0,by omega,rfl,rfl,a7⟩
 case round=>
  obtain⟨i,x,y,aG,rfl,rfl,ad⟩:=hrel;have Q:=@aC _ _ ad aG;by_cases ag:i<a.d.length
  .have R:=@af _ ag;have a9:(i:Int)<a.d.length:=by omega
   have bt:(i:Int)<2000:=by omega
   obtain⟨U,ao⟩:∃U,a.d[i]?=some U:=⟨_,Um ag⟩
   have ai:=Z.1.a ad.a λ_ _ p=>p;obtain⟨aE,bu,aV,ba,aW,ap,aX⟩:=uA ai.oy ao ag;obtain⟨f,g,O,aH,⟨bv,aY,aZ⟩,⟨bw,a0,a1⟩⟩:=Z.2.2.a U (Uo ao);obtain⟨bb,ar,rfl⟩:=Hu aY;obtain⟨bc,aI,rfl⟩:=Hu a0;have bd:=(Ul.1 ar).1;have be:=(Ul.1 aI).1;have bf:a.aK.length<=1000:=by have:=Z.2.1.d;rw[bn.b.2]at this;exact this
   obtain⟨z,A,au,bx,_,_⟩:=ai.d ar;have bz:(f:Int)<a.aK.length:=by omega
   have bA:(g:Int)<a.aK.length:=by omega
   have bB:(f:Int)<2000:=by omega
   have bC:(g:Int)<2000:=by omega
   have V(_:=()):∀s,ae aa wr s->_:=λs ac=>Ho a f g ay z A bb s (ai.a ac λ_ _ p=>p) ar Z.2.1 au aZ;have aj(_:=()):∀s,ae aa wr s->_:=λs ac=>Ho a g f ay z A bc s (ai.a ac λ_ _ p=>p) aI Z.2.1 au a1;have G(_:=()):a.d[i]?=some U/\a.a.r U=(a.a.u f g||a.a.u g f):=⟨ao,by unfold AN.r;rw[O,aH];simp⟩
   obtain⟨aJ,a2⟩:=ab () wr ad.a;rw[au]at aJ;obtain⟨bD,bE,w⟩:=U;simp only at O aH aW ap aX;subst O aH;generalize bg:a.a.u f g=b1 at V G;generalize bh:a.a.u g f=b2 at aj G;have W:=@af _ (Q.1.b);have a3:((a.d.take i).filter a.a.r).length<=1000:=by have:=VP a.a.r (a.d.take i);rw[UK]at this;omega
   obtain⟨av,aw⟩:=ah (((a.d.take i).filter a.a.r).length);have E(_:=()):av=((a.d.take i).filter a.a.r).length/\av<=1000:=⟨aw,by rw[aw];exact a3⟩
   rw[<-aw]at W|-;rw[aV];clear aG ag ao ad ai aV aY aZ a0 a1 ar aI bd be bf au bg bh aB aD aw a3;go_wp2_with fail;obtain⟨D,ax⟩:=ah (wr.alloc (Obj.cells #[I J f,I J g,I J w] 30));have aK:ae aa wr D:=by rw[ax];exact(ae.a aa wr).b _
   have aL:aq D wr.heap.size #[I J f,I J g,I J w] 30:=by rw[ax];exact aq.e _ _ _
   rw[<-ax];obtain⟨u,a4⟩:=ah wr.heap.size;rw[<-a4]at aL|-;have e(_:=()):∀b,ae aa D.drew b->b.cell? ⟨t,1,N⟩=some (L (some ⟨z,A,N⟩) a.aK.length a.e)/\b.cell? ⟨u,0,N⟩=some (I J f)/\b.cell? ⟨u,1,N⟩=some (I J g)/\b.cell? ⟨u,2,N⟩=some (I J w)/\u<b.heap.size:=λb a5=>by have az:=aL.c ((ae.a aa D).drew.c a5) id;exact⟨(((ae.a aa wr).c (aK.drew.c a5)).f t 1 a2 id).trans aJ,by rw[az.a];rfl,by rw[az.a];rfl,by rw[az.a];rfl,az.b⟩
   have X:=@af _ aK.drew;clear ax aK aL a4 aW ap aX ba aJ a2;cases b1 with
   |true=>
    refine wp_region_held_drew (S:=(λb=>b.cell? ⟨t,1,N⟩=some (L (some ⟨z,A,N⟩) a.aK.length a.e)/\b.cell? ⟨u,0,N⟩=some (I J f)/\b.cell? ⟨u,1,N⟩=some (I J g))) (by kernel_rfl) ⟨(e () D.drew (ae.a aa _)).1,(e () D.drew (ae.a aa _)).2.1,(e () D.drew (ae.a aa _)).2.2.1⟩ λh=>?_;refine wpAnyH_take (i:=0) (v:=P (some ⟨t,0,N⟩)) rfl (by kernel_rfl) (by kernel_rfl) (by kernel_rfl) (λ_ _ _ c=>c) (Ur ⟨by rfl,λb j=>?_⟩) h ?_
    ·(try dsimp only at j);go_simp
    try simp only[Act.put,UW,UT,UU,Uw,UE,UB]
    refine wpAnyH_take (i:=1) (v:=P (some ⟨t,0,N⟩)) rfl (by kernel_rfl) (by kernel_rfl) (by kernel_rfl) (λ_ _ _ c=>c) (Ur ⟨by rfl,λb j=>?_⟩) h ?_
    ·(try dsimp only at j);go_simp
    try simp only[Act.put,UW,UT,UU,Uw,UE,UB]
    refine wpAnyH_take (i:=2) (v:=P (some ⟨t,1,N⟩)) rfl (by kernel_rfl) (by kernel_rfl) (by kernel_rfl) (λ_ _ _ c=>c) (Ur ⟨by rfl,λb j=>?_⟩) h ?_
    ·(try dsimp only at j);go_simp
    try simp only[Act.put,UW,UT,UU,Uw,UE,UB]
    refine wpAnyH_take (i:=3) (v:=L (some ⟨z,A,N⟩) a.aK.length a.e) rfl (by kernel_rfl) (by kernel_rfl) (by kernel_rfl) (λ_ _ _ c=>c) (Ur ⟨by rfl,λb j=>?_⟩) h ?_
    ·(try dsimp only at j);go_simp
    try simp only[Act.put,UW,UT,UU,Uw,UE,UB]
    refine wpAnyH_take (i:=4) (v:=P (some ⟨u,0,N⟩)) rfl (by kernel_rfl) (by kernel_rfl) (by kernel_rfl) (λ_ _ _ c=>c) (Ur ⟨by rfl,λb j=>?_⟩) h ?_
    ·(try dsimp only at j);go_simp
    try simp only[Act.put,UW,UT,UU,Uw,UE,UB]
    refine wpAnyH_take (i:=5) (v:=I J f) rfl (by kernel_rfl) (by kernel_rfl) (by kernel_rfl) (λ_ _ _ c=>c) (Ur ⟨by rfl,λb j=>?_⟩) h ?_
    ·(try dsimp only at j);go_simp
    try simp only[Act.put,UW,UT,UU,Uw,UE,UB]
    refine wpAnyH_take (i:=6) (v:=P (some ⟨z,A+f*2,N⟩)) rfl (by kernel_rfl) (by kernel_rfl) (by kernel_rfl) (λ_ _ _ c=>c) (Ur ⟨by rfl,λb j=>?_⟩) h ?_
    ·(try dsimp only at j);go_simp
    try simp only[Act.put,UW,UT,UU,Uw,UE,UB]
    refine wpAnyH_take (i:=7) (v:=P (some ⟨u,1,N⟩)) rfl (by kernel_rfl) (by kernel_rfl) (by kernel_rfl) (λ_ _ _ c=>c) (Ur ⟨by rfl,λb j=>?_⟩) h ?_
    ·(try dsimp only at j);go_simp
    try simp only[Act.put,UW,UT,UU,Uw,UE,UB]
    refine wpAnyH_take (i:=8) (v:=I J g) rfl (by kernel_rfl) (by kernel_rfl) (by kernel_rfl) (λ_ _ _ c=>c) (Ur ⟨by rfl,λb j=>?_⟩) h ?_
    ·(try dsimp only at j);go_simp
    try simp only[Act.put,UW,UT,UU,Uw,UE,UB]
    refine wpAnyH_ready (rs:=[9]) (by kernel_rfl) (by simp) (AllReadyH.cons rfl (λbi a6=>?_) AllReadyH.nil);go_simp;refine(V () D.drew X).mono ?_;rintro an r ⟨rfl,q⟩;refine a6.out _ _ ⟨(e () _ q).1,(e () _ q).2.1,(e () _ q).2.2.1⟩ λh=>?_;clear a6 bi;try simp only[Act.put,UW,UT,UU,Uw,UE,UB]
    refine wpAnyH_take (i:=10) (v:=B T) rfl (by kernel_rfl) (by kernel_rfl) (by kernel_rfl) (λ_ _ _ c=>c) (Ur ⟨by rfl,λb j=>?_⟩) h ?_
    ·(try dsimp only at j);go_simp
    try simp only[Act.put,UW,UT,UU,Uw,UE,UB]
    refine wpAnyH_take (i:=11) (v:=undef) rfl (by kernel_rfl) (by kernel_rfl) (by kernel_rfl) (λ_ _ _ c=>c) (Up ⟨by kernel_rfl,rfl⟩) h ?_;try simp only[Act.put,UW,UT,UU,Uw,UE,UB]
    refine wpAnyH_take (i:=12) (v:=undef) rfl (by kernel_rfl) (by kernel_rfl) (by kernel_rfl) (λ_ _ _ c=>c) (Up ⟨by kernel_rfl,rfl⟩) h ?_;try simp only[Act.put,UW,UT,UU,Uw,UE,UB]
    refine wpAnyH_take (i:=13) (v:=undef) rfl (by kernel_rfl) (by kernel_rfl) (by kernel_rfl) (λ_ _ _ c=>c) (Up ⟨by kernel_rfl,rfl⟩) h ?_;try simp only[Act.put,UW,UT,UU,Uw,UE,UB]
    refine wpAnyH_take (i:=14) (v:=undef) rfl (by kernel_rfl) (by kernel_rfl) (by kernel_rfl) (λ_ _ _ c=>c) (Up ⟨by kernel_rfl,rfl⟩) h ?_;try simp only[Act.put,UW,UT,UU,Uw,UE,UB]
    refine wpAnyH_take (i:=15) (v:=undef) rfl (by kernel_rfl) (by kernel_rfl) (by kernel_rfl) (λ_ _ _ c=>c) (Up ⟨by kernel_rfl,rfl⟩) h ?_;try simp only[Act.put,UW,UT,UU,Uw,UE,UB]
    refine wpAnyH_take (i:=16) (v:=undef) rfl (by kernel_rfl) (by kernel_rfl) (by kernel_rfl) (λ_ _ _ c=>c) (Up ⟨by kernel_rfl,rfl⟩) h ?_;try simp only[Act.put,UW,UT,UU,Uw,UE,UB]
    refine wpAnyH_take (i:=17) (v:=undef) rfl (by kernel_rfl) (by kernel_rfl) (by kernel_rfl) (λ_ _ _ c=>c) (Up ⟨by kernel_rfl,rfl⟩) h ?_;try simp only[Act.put,UW,UT,UU,Uw,UE,UB]
    refine wpAnyH_take (i:=18) (v:=undef) rfl (by kernel_rfl) (by kernel_rfl) (by kernel_rfl) (λ_ _ _ c=>c) (Up ⟨by kernel_rfl,rfl⟩) h ?_;try simp only[Act.put,UW,UT,UU,Uw,UE,UB]
    refine wpAnyH_take (i:=19) (v:=undef) rfl (by kernel_rfl) (by kernel_rfl) (by kernel_rfl) (λ_ _ _ c=>c) (Up ⟨by kernel_rfl,rfl⟩) h ?_;try simp only[Act.put,UW,UT,UU,Uw,UE,UB]
    refine wpAnyH_take (i:=20) (v:=undef) rfl (by kernel_rfl) (by kernel_rfl) (by kernel_rfl) (λ_ _ _ c=>c) (Up ⟨by kernel_rfl,rfl⟩) h ?_;try simp only[Act.put,UW,UT,UU,Uw,UE,UB]
    refine wpAnyH_take (i:=21) (v:=B T) rfl (by kernel_rfl) (by kernel_rfl) (by kernel_rfl) (λ_ _ _ c=>c) (Ur ⟨by rfl,λb j=>?_⟩) h ?_
    ·(try dsimp only at j);go_simp
    try simp only[Act.put,UW,UT,UU,Uw,UE,UB]
    refine wpAnyH_done (by kernel_rfl) ?_ _;clear h;have M:=@af _ (X.c q);have bj:=(e () r q).2.1;have bk:=(e () r q).2.2.1;have bl:=(e () r q).2.2.2.1;have bm:=(e () r q).2.2.2.2;have ak:=@af _ (W.a M λ_ _ p=>p);clear V aj e W ab q;obtain⟨aM,al⟩:=ah (cA ((a.d.take i).filter a.a.r));rw[<-al]at ak;go_wp2_with (at_builtin;refine jX _ rfl (.tmp 37) (.tmp 39) 26 rfl 30 (.agg #[I J 0,I J 0,I J 0]) 3 24 underlying26 qn rfl x av y rfl aM (ak.c _) ⟨r.heap.size,0,N⟩ 1 1 (by omega) rfl [I J f,I J g,I J w] rfl (gJ r [I J f,I J g,I J w] 30 _ rfl) (by intro aF am;simp at am;obtain rfl|rfl|rfl:=am<;>rfl) (by have:=E.2;omega) (by have:=E.2;omega) ?_;intro aN aO bo aP aQ aR);have Y:=ly.d Q.1 ⟨(f:Int),(g:Int),w⟩ M (by rw[<-E.1,<-al];exact aP) aQ (((((ae.a aa r).b _).d λ_ _ p=>p.elim).c aR));have H:(a.d.take (i+1)).filter a.a.r=(a.d.take i).filter a.a.r++[⟨(f:Int),(g:Int),w⟩]:=by rw[pM G.1,U2];simp[G.2]
    refine⟨⟨i+1,aN,aO,by have:=R;omega,by go_num,?_,by rw[H];exact Y⟩,by have:=R;simp[intOf];omega⟩;rw[H,Uu,<-E.1];rfl
   |false=>
    refine wp_region_quiet (C:=λb=>ae aa D.drew b) (by kernel_rfl) (by kernel_rfl) (ae.a aa D.drew) ?_;simp only[List.toList_toArray];refine jJ (P (some ⟨t,0,N⟩)) (by kernel_rfl) (λb d=>?_) ?_
    .obtain⟨k,l,m,n,o⟩:=e () b d;go_simp
    try simp only[Act.put,Uw,UE,UB]
    refine jJ (P (some ⟨t,0,N⟩)) (by kernel_rfl) (λb d=>?_) ?_
    .obtain⟨k,l,m,n,o⟩:=e () b d;go_simp
    try simp only[Act.put,Uw,UE,UB]
    refine jJ (P (some ⟨t,1,N⟩)) (by kernel_rfl) (λb d=>?_) ?_
    .obtain⟨k,l,m,n,o⟩:=e () b d;go_simp
    try simp only[Act.put,Uw,UE,UB]
    refine jJ (L (some ⟨z,A,N⟩) a.aK.length a.e) (by kernel_rfl) (λb d=>?_) ?_
    .obtain⟨k,l,m,n,o⟩:=e () b d;go_simp
    try simp only[Act.put,Uw,UE,UB]
    refine jJ (P (some ⟨u,0,N⟩)) (by kernel_rfl) (λb d=>?_) ?_
    .obtain⟨k,l,m,n,o⟩:=e () b d;go_simp
    try simp only[Act.put,Uw,UE,UB]
    refine jJ (I J f) (by kernel_rfl) (λb d=>?_) ?_
    .obtain⟨k,l,m,n,o⟩:=e () b d;go_simp
    try simp only[Act.put,Uw,UE,UB]
    refine jJ (P (some ⟨z,A+f*2,N⟩)) (by kernel_rfl) (λb d=>?_) ?_
    .obtain⟨k,l,m,n,o⟩:=e () b d;go_simp
    try simp only[Act.put,Uw,UE,UB]
    refine jJ (P (some ⟨u,1,N⟩)) (by kernel_rfl) (λb d=>?_) ?_
    .obtain⟨k,l,m,n,o⟩:=e () b d;go_simp
    try simp only[Act.put,Uw,UE,UB]
    refine jJ (I J g) (by kernel_rfl) (λb d=>?_) ?_
    .obtain⟨k,l,m,n,o⟩:=e () b d;go_simp
    try simp only[Act.put,Uw,UE,UB]
    refine jJ (B F) (by kernel_rfl) (λb d=>?_) ?_
    .go_simp;refine Uq (V () b (X.c d)) ?_;rintro an bp ⟨rfl,aS⟩;exact⟨rfl,d.c aS⟩
    try simp only[Act.put,Uw,UE,UB]
    refine jJ (B F) (by kernel_rfl) (λb d=>?_) ?_
    .obtain⟨k,l,m,n,o⟩:=e () b d;go_simp
    try simp only[Act.put,Uw,UE,UB]
    refine jJ (P (some ⟨t,0,N⟩)) (by kernel_rfl) (λb d=>?_) ?_
    .obtain⟨k,l,m,n,o⟩:=e () b d;go_simp
    try simp only[Act.put,Uw,UE,UB]
    refine jJ (P (some ⟨t,0,N⟩)) (by kernel_rfl) (λb d=>?_) ?_
    .obtain⟨k,l,m,n,o⟩:=e () b d;go_simp
    try simp only[Act.put,Uw,UE,UB]
    refine jJ (P (some ⟨t,1,N⟩)) (by kernel_rfl) (λb d=>?_) ?_
    .obtain⟨k,l,m,n,o⟩:=e () b d;go_simp
    try simp only[Act.put,Uw,UE,UB]
    refine jJ (L (some ⟨z,A,N⟩) a.aK.length a.e) (by kernel_rfl) (λb d=>?_) ?_
    .obtain⟨k,l,m,n,o⟩:=e () b d;go_simp
    try simp only[Act.put,Uw,UE,UB]
    refine jJ (P (some ⟨u,1,N⟩)) (by kernel_rfl) (λb d=>?_) ?_
    .obtain⟨k,l,m,n,o⟩:=e () b d;go_simp
    try simp only[Act.put,Uw,UE,UB]
    refine jJ (I J g) (by kernel_rfl) (λb d=>?_) ?_
    .obtain⟨k,l,m,n,o⟩:=e () b d;go_simp
    try simp only[Act.put,Uw,UE,UB]
    refine jJ (P (some ⟨z,A+g*2,N⟩)) (by kernel_rfl) (λb d=>?_) ?_
    .obtain⟨k,l,m,n,o⟩:=e () b d;go_simp
    try simp only[Act.put,Uw,UE,UB]
    refine jJ (P (some ⟨u,0,N⟩)) (by kernel_rfl) (λb d=>?_) ?_
    .obtain⟨k,l,m,n,o⟩:=e () b d;go_simp
    try simp only[Act.put,Uw,UE,UB]
    refine jJ (I J f) (by kernel_rfl) (λb d=>?_) ?_
    .obtain⟨k,l,m,n,o⟩:=e () b d;go_simp
    try simp only[Act.put,Uw,UE,UB]
    refine jJ (B b2) (by kernel_rfl) (λb d=>?_) ?_
    .go_simp;refine Uq (aj () b (X.c d)) ?_;rintro an bp ⟨rfl,aS⟩;exact⟨rfl,d.c aS⟩
    try simp only[Act.put,Uw,UE,UB]
    refine jJ (B b2) (by kernel_rfl) (λb d=>?_) ?_
    .obtain⟨k,l,m,n,o⟩:=e () b d;go_simp
    try simp only[Act.put,Uw,UE,UB]
    refine wpQuiet_nil ?_;intro r q;cases b2 with
    |true=>
     have M:=@af _ (X.c q);have bj:=(e () r q).2.1;have bk:=(e () r q).2.2.1;have bl:=(e () r q).2.2.2.1;have bm:=(e () r q).2.2.2.2;have ak:=@af _ (W.a M λ_ _ p=>p);clear V aj e W ab q;obtain⟨aM,al⟩:=ah (cA ((a.d.take i).filter a.a.r));rw[<-al]at ak;go_wp2_with (at_builtin;refine jX _ rfl (.tmp 37) (.tmp 39) 26 rfl 30 (.agg #[I J 0,I J 0,I J 0]) 3 24 underlying26 qn rfl x av y rfl aM (ak.c _) ⟨r.heap.size,0,N⟩ 1 1 (by omega) rfl [I J f,I J g,I J w] rfl (gJ r [I J f,I J g,I J w] 30 _ rfl) (by intro aF am;simp at am;obtain rfl|rfl|rfl:=am<;>rfl) (by have:=E.2;omega) (by have:=E.2;omega) ?_;intro aN aO bo aP aQ aR);have Y:=ly.d Q.1 ⟨(f:Int),(g:Int),w⟩ M (by rw[<-E.1,<-al];exact aP) aQ (((((ae.a aa r).b _).d λ_ _ p=>p.elim).c aR));have H:(a.d.take (i+1)).filter a.a.r=(a.d.take i).filter a.a.r++[⟨(f:Int),(g:Int),w⟩]:=by rw[pM G.1,U2];simp[G.2]
     refine⟨⟨i+1,aN,aO,by have:=R;omega,by go_num,?_,by rw[H];exact Y⟩,by have:=R;simp[intOf];omega⟩;rw[H,Uu,<-E.1];rfl
    |false=>
     have M:=@af _ (X.c q);clear V aj e W ab q;go_wp2;have H:(a.d.take (i+1)).filter a.a.r=(a.d.take i).filter a.a.r:=by rw[pM G.1,U2];simp[G.2]
     refine⟨⟨i+1,x,y,by have:=R;omega,by go_num,?_,by rw[H];exact Q.1.e M⟩,by have:=R;simp[intOf];omega⟩;rw[H,<-E.1]
  .have bq(_:=()):i=a.d.length:=by have:=Q.2;omega
   have a9:¬((i:Int)<a.d.length):=by omega
   clear aG ag ad aB aD;go_wp2;go_ret;have Y:=Q.1;have ap:(a.d.take i).filter a.a.r=a.a.C:=by rw[bq,Vu,TF];rfl
   rw[ap]at Y|-;exact⟨x,y,rfl,Y⟩
def Ew{d:Value->World->Prop}(e k f)(g:Calls prog 31 #[P (S ⟨e,0,N⟩),.int J k] f λb c=>∃a,b= .returned a/\d a c):Calls prog 15 #[P (S ⟨e,0,N⟩),.int J k] f λb c=>∃a,b= .returned a/\d a c:=by have h:=@af _ g;clear g;go_enter func15,ntmps15;go_wp2_with fail;refine Uq h ?_;rintro b l ⟨a,rfl,i⟩;have j:=@af _ i;clear i h;go_wp2;go_ret;exact⟨a,rfl,j⟩
def Ek{d:Value->World->Prop}(e k f)(g:Calls prog 65 #[P (S ⟨e,0,N⟩),.int J k] f λb c=>∃a,b= .returned a/\d a c):Calls prog 32 #[P (S ⟨e,0,N⟩),.int J k] f λb c=>∃a,b= .returned a/\d a c:=by have h:=@af _ g;clear g;go_enter func32,ntmps32;go_wp2_with fail;refine Uq h ?_;rintro b l ⟨a,rfl,i⟩;have j:=@af _ i;clear i h;go_wp2;go_ret;exact⟨a,rfl,j⟩
def El{d:Value->World->Prop}(e k f)(g:Calls prog 68 #[P (S ⟨e,0,N⟩),.int J k] f λb c=>∃a,b= .returned a/\d a c):Calls prog 35 #[P (S ⟨e,0,N⟩),.int J k] f λb c=>∃a,b= .returned a/\d a c:=by have h:=@af _ g;clear g;go_enter func35,ntmps35;go_wp2_with fail;refine Uq h ?_;rintro b l ⟨a,rfl,i⟩;have j:=@af _ i;clear i h;go_wp2;go_ret;exact⟨a,rfl,j⟩
def Ea{d:Value->World->Prop}(e k f)(g:Calls prog 69 #[P (S ⟨e,0,N⟩),.int J k] f λb c=>∃a,b= .returned a/\d a c):Calls prog 36 #[P (S ⟨e,0,N⟩),.int J k] f λb c=>∃a,b= .returned a/\d a c:=by have h:=@af _ g;clear g;go_enter func36,ntmps36;go_wp2_with fail;refine Uq h ?_;rintro b l ⟨a,rfl,i⟩;have j:=@af _ i;clear i h;go_wp2;go_ret;exact⟨a,rfl,j⟩
def Ev{d:Value->World->Prop}(e k f)(g:Calls prog 66 #[P (S ⟨e,0,N⟩),.int J k] f λb c=>∃a,b= .returned a/\d a c):Calls prog 33 #[P (S ⟨e,0,N⟩),.int J k] f λb c=>∃a,b= .returned a/\d a c:=by have h:=@af _ g;clear g;go_enter func33,ntmps33;go_wp2_with fail;refine Uq h ?_;rintro b l ⟨a,rfl,i⟩;have j:=@af _ i;clear i h;go_wp2;go_ret;exact⟨a,rfl,j⟩
def AY{d:Value->World->Prop}(e k f g h)(i:Calls prog 70 #[P (S ⟨e,0,N⟩),.int J k,.int J f,.int .u8 g] h λb c=>∃a,b= .returned a/\d a c):Calls prog 37 #[P (S ⟨e,0,N⟩),.int J k,.int J f,.int .u8 g] h λb c=>∃a,b= .returned a/\d a c:=by have j:=@af _ i;clear i;go_enter func37,ntmps37;go_wp2_with fail;refine Uq j ?_;rintro b n ⟨a,rfl,l⟩;have m:=@af _ l;clear l j;go_wp2;go_ret;exact⟨a,rfl,m⟩
def KG{R:Value->World->Prop}(d e)(f:Calls prog 39 #[P (S ⟨d,0,N⟩)] e λb c=>∃a,b= .returned a/\R a c):Calls prog 24 #[P (S ⟨d,0,N⟩)] e λb c=>∃a,b= .returned a/\R a c:=by have g:=@af _ f;clear f;go_enter func24,ntmps24;go_wp2_with fail;refine Uq g ?_;rintro b j ⟨a,rfl,h⟩;have i:=@af _ h;clear h g;go_wp2;go_ret;exact⟨a,rfl,i⟩
def KW{R:Value->World->Prop}(d e)(f:Calls prog 34 #[P (S ⟨d,0,N⟩)] e λb c=>∃a,b= .returned a/\R a c):Calls prog 17 #[P (S ⟨d,0,N⟩)] e λb c=>∃a,b= .returned a/\R a c:=by have g:=@af _ f;clear f;go_enter func17,ntmps17;go_wp2_with fail;refine Uq g ?_;rintro b j ⟨a,rfl,h⟩;have i:=@af _ h;clear h g;go_wp2;go_ret;exact⟨a,rfl,i⟩
def Kx(j)(k:Nat)(g G e)(H:bn e j)(K:j.aK[k]?=S g)(M:dw j.a G):
 Calls prog 23 #[P (S ⟨j.nb,0,N⟩),.int J k] e λO Q=>∃c d,O= .returned (.tuple #[oS g.n c d,.int J 0])/\RV Q 3 1 c g.n.ai.length d (gT (g.n.ai.map (·.2)))/\ae aa e Q/\∀f,ag c f->e.heap.size<=f:=by
 have y(_:=()):∀h,ae aa e h->_:=λh aw=>O9 j k g G h (H.a aw λ_ _ s=>s) K M;obtain⟨aN,R⟩:=ah j.nb;rw[<-R]at y|-;clear H K M R;go_enter func23,ntmps23;go_wp2_with fail;obtain⟨h,u⟩:=ah (e.alloc (.cells #[I J 0,I J 0,I J 0,B F,I J 0,L N 0 0] 50));have U:ae aa e h:=by rw[u];exact(ae.a aa e).b _
 have V:aq h e.heap.size #[I J 0,I J 0,I J 0,B F,I J 0,L N 0 0] 50:=by rw[u];exact aq.e _ _ _
 rw[<-u];have z:=@af _ U;obtain⟨a,A⟩:=ah e.heap.size;rw[<-A]at V|-;have w:=@aC _ _ V A;clear u U A;refine Uq (y () h z) ?_;clear y;rintro O C ⟨c,d,rfl,W,D,X⟩;have b:=w.1.c D id;have ax:=@lP _ _ _ _ _ W (z.c D) X (w.1.b) (w.2);have Y:=b.a 0;have Z:=b.a 1;have ab:=b.a 2;have ac:=b.a 3;have ad:=b.a 4;have ai:=b.a 5;have ay:=b.d 0;have az:=b.d 1;have aA:=b.d 2;have aB:=b.d 3;have aD:=b.d 4;have aE:=b.d 5;have aF:=b.b;have aG:=@af _ b;simp only[V4,UN,U8,UH]at Y Z ab ac ad ai;obtain⟨aH,aI⟩:=ah (oS g.n c d);obtain⟨l,m,n,o,q,r,E⟩:∃(l m n:Nat)(o:Bool)(q r:Nat),oS g.n c d= .agg #[.int J l,.int J m,.int J n,B o,.int J q,L c r d]:=⟨_,_,_,_,_,_,rfl⟩
 have aJ:=@af _ E;rw[E];clear W D X b w aI aH E;go_wp2;obtain⟨aj,x⟩:=ah ((((((C.setCell ⟨a,0,N⟩ (I J l)).setCell ⟨a,1,N⟩ (I J m)).setCell ⟨a,2,N⟩ (I J n)).setCell ⟨a,3,N⟩ (B o)).setCell ⟨a,4,N⟩ (I J q)).setCell ⟨a,5,N⟩ (L c r d));have i:aq aj a #[I J l,I J m,I J n,B o,I J q,L c r d] 50:=by have:=(((((aG.f 0 (I J l)).f 1 (I J m)).f 2 (I J n)).f 3 (B o)).f 4 (I J q)).f 5 (L c r d);rw[<-x]at this;exact this
 have ak(_:=()):ae (ap a) C aj:=by rw[x];exact((((((ae.a (ap a) C).e (p:=⟨a,0,N⟩) (λ_=>rfl) _).e (p:=⟨a,1,N⟩) (λ_=>rfl) _).e (p:=⟨a,2,N⟩) (λ_=>rfl) _).e (p:=⟨a,3,N⟩) (λ_=>rfl) _).e (p:=⟨a,4,N⟩) (λ_=>rfl) _).e (p:=⟨a,5,N⟩) (λ_=>rfl) _
 rw[<-x];have al:=i.a 0;have am:=i.a 1;have an:=i.a 2;have ao:=i.a 3;have ar:=i.a 4;have au:=i.a 5;simp only[V4,UN,U8,UH]at al am an ao ar au;clear Y Z ab ac ad ai ay az aA aB aD aE aF x i;refine UO (v:= .tuple #[.agg #[I J l,I J m,I J n,B o,I J q,L c r d],I J 0]) (by simp[results,results23,go_sem,al,am,an,ao,ar,au]) rfl ?_;obtain⟨aK,aL,av,aO,aM⟩:=ax;refine⟨c,d,by rw[aJ],aK.a ak λf t s=>?_,?_,λf t=>UM z.size (av f t)⟩;have:=av f t;rw[show f=a from s]at this;omega;exact aL.g ak λf t s=>by rw[show f=a from s,aM]at t;omega
structure sQ(g:World)(a:Nt)(h:Nat):Prop where
 c:bn g a
 d:dw a.a h
 e:jb a.a
 b:tM a.a
 f:0<a.aK.length
def Nf{i w' a b}(e:tM a.a)(t:du i w' a b):tM b.a:=by
 have f:b.a.g=a.a.g:=t.h;have j:b.a.h=a.a.h:=by
  have g:=Vj (List.map (λc:Nat×Option Addr×Nat×List Nat=>c.2.2.2)) t.f;simp only[Wj]at g;have h:∀d:Nt,d.a.h=d.aK.map ((λc:Nat×Option Addr×Nat×List Nat=>c.2.2.2)∘Sp.e):=λd=>by simp[AN.h,Nt.a,Sp.a,Sd.b,Sp.e,Wu]
  rw[h,h,g]
 exact⟨by rw[f];exact e.b,by rw[f,j];exact e.a⟩
def AX{b c d}(a:dw b c)(j:c<=d):dw b d:=
 ⟨a.d,λe f g=>by obtain⟨h,i,k⟩:=a.a e f g;exact⟨h,i,by omega⟩,a.c,a.f,a.b,a.e,a.g⟩
def Nx(c w':World)(b:Nt)(d:Nat)(e:AN):Prop:=∃a,sQ w' a d/\a.a=e/\du c w' b a/\a.aG=b.aG
def sQ.g{c w' a d e}(b:sQ c a d)(k:ae aa c w')(f:d<=e):Nx c w' a e a.a:=
 ⟨a,⟨b.c.a k λ_ _ g=>g,AX b.d f,b.e,b.b,b.f⟩,rfl,du.g a k,rfl⟩
def sQ.a{c w' b a d e f}(g:sQ c b d)(h:bn w' a)(i:a.a=f)(t:du c w' b a)(j:a.aG=b.aG)(k:dw a.a e)(l:e<=d+4)(m:jb a.a):Nx c w' b (d+4) f:=
 ⟨a,⟨h,AX k l,m,Nf g.b t,by rw[t.p];exact g.f⟩,i,t,j⟩
def Gv(a:AN)(b):(a.j b).c=a.c:=by unfold AN.c;rw[(qj a b).1]
structure AL(f:Nat)(d:List Ed):Prop where
 a:d.length<=30
 b:∀e∈d,∃g h i:Nat,e=⟨(g:Int),(h:Int),(i:Int)⟩/\g<f/\h<f/\i<=1000
 c:d.Pairwise λe j=>e.c<=j.c
def mO(a:List Ed)(k:Nat):AS:=⟨ay.g (fZ (cN k a)),(cN k a).map λb=>((b.a+b.b-(k:Int)).toNat,En.e)⟩
def AN.i(b:Nat)(a:List Ed):AN:=⟨a,(List.range b).map (mO a),[]⟩
def uG{b c a d}(e:(AN.i b c).bd[a]?=S d):a<b/\d=mO c a:=by unfold AN.i at e;grind
def NF{b a}(c)(d:a<b):(AN.i b c).bd[a]?=S (mO c a):=by unfold AN.i;grind
def wk{k b a}:a∈cN k b↔a∈b/\(a.a=(k:Int)\/a.b=(k:Int)):=by unfold cN;rw[Vw,UV]
def NG{c d a e}(b:(AN.i c d).h[a]?=S e):a<c/\e=(cN a d).map (λf=>(f.a+f.b-(a:Int)).toNat):=by unfold AN.h at b;rw[Uz,UD]at b;obtain⟨i,g,rfl⟩:=b;obtain⟨h,rfl⟩:=uG g;exact⟨h,by simp[mO,Wu]⟩
def Bi{c a}(b)(e:a<c):(AN.i c b).h[a]?=S ((cN a b).map λd=>(d.a+d.b-(a:Int)).toNat):=by unfold AN.h;rw[Uz,NF b e];simp[mO,Wu]
def GO(k a):(cN k a).length<=a.length:=VP _ _
def T5{k c}(i:c.Pairwise λa b=>a.c<=b.c):∀(d e:Nat)(a b:Nat),d<e->(fZ (cN k c))[d]?=S a->(fZ (cN k c))[e]?=S b->a<=b:=by intro d e a b j f g;have h:(cN k c).Pairwise (λa b=>a.c<=b.c):=i.sublist List.filter_sublist;unfold fZ at f g;rw[Uz,UD]at f g;obtain⟨r,l,rfl⟩:=f;obtain⟨s,m,rfl⟩:=g;rw[Vv]at h;obtain⟨n,o⟩:=Ul.1 l;obtain⟨p,q⟩:=Ul.1 m;have:=h d e n p j;rw[o,q]at this;omega
def Ep{d e}(g:AL d e)(t:d<=10):dw (AN.i d e) 0:=by
 have u:=g.a;refine⟨by simp[AN.i];omega,?_,?_,?_,by simp[AN.i],?_,?_⟩;intro a k b;obtain⟨h,rfl⟩:=uG b;have:=GO a e;refine⟨PQ _ (T5 g.c) (by simp[fZ];omega),by simp[mO,ay.g,fZ],by simp[mO,ay.g]⟩;intro a k b n o c;obtain⟨h,rfl⟩:=uG b;simp only[mO,Uz,UD]at c;obtain⟨i,_,rfl⟩:=c;rfl;intro a k b n o c;obtain⟨h,rfl⟩:=uG b;simp only[mO,Uz,UD]at c;obtain⟨i,_,rfl⟩:=c;intro v p;simp[En.e]at p;intro l m;simp[AN.i]at m;intro a w x q j;obtain⟨h,rfl⟩:=NG q;obtain⟨i,f,rfl⟩:=Vb.1 j;obtain⟨f,r⟩:=wk.1 f;obtain⟨l,s,y,rfl,m,z,A⟩:=g.b i f;simp only at r|-;have j:((l:Int)+s-(a:Int)).toNat<d:=by omega
 refine⟨_,Bi e j,Vb.2 ⟨_,wk.2 ⟨f,?_⟩,?_⟩⟩;simp only;omega;simp only;omega
def KU(b c):jb (AN.i b c):=by intro e f a;unfold AN.c at a;rw[Uz,UD]at a;obtain⟨g,d,rfl⟩:=a;obtain⟨_,rfl⟩:=uG d;rfl
def Nb{c b}(d:AL c b):tM (AN.i c b):=by have j:=d.a;refine⟨by simp[AN.i];omega,?_⟩;intro e a;have a:=a;obtain⟨f,g,k,rfl,h,i,l⟩:=d.b e a;refine⟨f,g,rfl,rfl,⟨_,Bi b h,Vb.2 ⟨_,wk.2 ⟨a,Ur rfl⟩,?_⟩⟩,⟨_,Bi b i,Vb.2 ⟨_,wk.2 ⟨a,Up rfl⟩,?_⟩⟩⟩;simp only;omega;simp
end Go.Proofs.YtlfijfodklhplaaGreat
namespace Go.Proofs.YtlfijfodklhplaaGreat.Ghs
open bV
def Jr{a}(b:dC a):(cy a).c:=by
 have c:=WH b.2.2.2;have d:bL (a.a:Int)<=9:=by unfold bL;split<;>omega
 unfold cy;split<;>first|trivial|(show a.c<=10;omega)
def Jc(e)(a:xu e):dC e.a:=by
 cases e with
 |bG b=>
  have a:b<=9:=a;refine⟨by show 1<256;omega,by show b<256;omega,by show 0<65536;omega,U4 ?_⟩;simp[bV.a,bL,bm,bM];omega
 |aL b d i=>
  have a:b<=9/\1<=d/\d<=1000:=a;refine⟨by show 2<256;omega,by show b<256;omega,by show d<65536;omega,U4 ?_⟩;simp[bV.a,bL,bm,bM];omega
 |cW b d=>
  have a:b<=9/\d<=1000:=a;refine⟨by show 3<256;omega,by show b<256;omega,by show d<65536;omega,U4 ?_⟩;simp[bV.a,bL,bm,bM];omega
 |dG=>
  refine⟨by show 4<256;omega,by show 0<256;omega,by show 0<65536;omega,U4 ?_⟩;simp[bV.a,bL,bm,bM]
 |dK=>
  refine⟨by show 5<256;omega,by show 0<256;omega,by show 0<65536;omega,U4 ?_⟩;simp[bV.a,bL,bm,bM]
 |bH c=>
  have a:1<=c/\c<=1001:=a;have f:(if c=1001 then 0 else c)<=1000:=by split<;>omega
  generalize g:(if c=1001 then 0 else c)=z at f;have h:(bV.bH c).a=⟨6,0,z,F⟩:=by rw[<-g];rfl
  rw[h];refine⟨by show 6<256;omega,by show 0<256;omega,by show z<65536;omega,U4 ?_⟩;simp[bL,bm,bM];omega
 |dO=>
  refine⟨by show 7<256;omega,by show 0<256;omega,by show 0<65536;omega,U4 ?_⟩;simp[bV.a,bL,bm,bM]
def Jq{a}(b:a=(cy a).a)(c:xu (cy a)):dC a:=by rw[b];exact Jc _ c
def Jg{a b}(c:a<65536)(d:dC b):dx ⟨T,a,b⟩:=⟨c,Ur ⟨rfl,d⟩⟩
def Jf{a}(b:a<65536):dx ⟨F,a,Fr.dq⟩:=⟨b,Up ⟨rfl,rfl⟩⟩
def JE{a b}(c:mR a=mR b):a=b:=by obtain⟨d,e,⟨f,g,h,i⟩⟩:=a;obtain⟨j,k,⟨l,m,n,o⟩⟩:=b;simp only[mR,vJ.mk.injEq,Int.natCast_inj]at c;grind
def C5{a}(c:dx a):eK (Fr.bi a)=S a:=by
 have b:=uH (qo a c);cases d:eK (Fr.bi a)with
 |none=>rw[d]at b;exact absurd (pC a c) (b _)
 |some f=>
  rw[d]at b;obtain⟨g,h⟩:=b;have e:=pC f g;rw[h]at e;rw[JE (BZ e (pC a c))]
def Je{b}(e:dx b){k c}(h:k<(Fr.bi b).length)(l:c≠0)(m:c<256):eK ((Fr.bi b).modify k λa=>a ^^^ c)=N:=by
 obtain⟨a,f⟩:∃a,(Fr.bi b)[k]?=S a:=⟨_,Um h⟩
 have o:=Xq (n:=8) (qo b e a (Uo f)) m;have p:a ^^^ c≠a:=λd=>by
  have:a ^^^ (a ^^^ c)=a ^^^ a:=by rw[d]
  rw[<-Nat.xor_assoc,Nat.xor_self,Nat.zero_xor]at this;exact l this
 rw[pE f];have u:=M0 b e k (a ^^^ c) (by rw[<-lB];exact h) o (by rw[f];intro d;exact p (Wn d).symm);have q:∀g∈(Fr.bi b).set k (a ^^^ c),g<256:=λg r=>by obtain i|i:=VK r;exact qo b e g i;omega
 have j:=uH q;cases d:eK ((Fr.bi b).set k (a ^^^ c))with
 |none=>rfl
 |some s=>
  rw[d]at j;obtain⟨t,v⟩:=j;have:=pC s t;grind
noncomputable def cz(a:AN):LS:=⟨λb=>match a.bd[b]? with|some d=>d.n|none=>ay.g [],λb e=>match a.e b e with|some f=>f.2|none=>En.e,a.fu.map λc=>(c.f,c.t,eK c.l)⟩
def rO{a b c}(d:a.bd[b]?=S c):(cz a).jg b=c.n:=by simp[cz,d]
def vq{a b c d}(e:a.e b c=S d):(cz a).en b c=d.2:=by simp[cz,e]
def Aw(c:AN)(d e f a):(c.a d e f).bd[a]?=(c.bd[a]?).map (λb=>if d=a then {b with ss:=b.ss.modify e λg=>(g.1,f g.2)}else b):=by unfold AN.a;rw[VE];rfl
def ug(c:AN)(d e a):(c.b d e).bd[a]?=(c.bd[a]?).map (λb=>if d=a then {b with n:=e b.n}else b):=by unfold AN.b;rw[VE];rfl
def oh(a:AN)(b c):a.e b c=(a.bd[b]?).bind (λd=>d.ss[c]?):=rfl
def DG(b:AN)(e f g a c):(b.a e f g).e a c=(b.e a c).map (λd=>if e=a/\f=c then (d.1,g d.2)else d):=by
 rw[oh,oh,Aw];cases h:b.bd[a]? with
 |none=>simp
 |some i=>
  grind
def uf(a:AN)(d e b c):(a.b d e).e b c=a.e b c:=by
 rw[oh,oh,ug];cases f:a.bd[b]? with
 |none=>simp
 |some g=>
  split<;>rfl
def Jo{a b c f}(k:a.e b c=S f)(g):cz (a.a b c g)=⟨(cz a).jg,am (cz a).en b c (g f.2),(cz a).io⟩:=by
 unfold cz;simp only[LS.mk.injEq];refine⟨?_,?_,rfl⟩;funext d;rw[Aw];cases a.bd[d]? with
 |none=>rfl
 |some l=>simp only[Wv];split<;>rfl
 funext d e;rw[DG];simp only[am];by_cases h:d=b/\e=c;grind;rw[Us h];have j:¬(b=d/\c=e):=λi=>h ⟨i.1.symm,i.2.symm⟩;cases a.e d e<;>simp[j]
def Dm{a b c}(f:a.bd[b]?=S c)(d):cz (a.b b d)=⟨aj (cz a).jg b (d c.n),(cz a).en,(cz a).io⟩:=by unfold cz;simp only[LS.mk.injEq];refine⟨?_,?_,rfl⟩;funext e;rw[ug];simp only[aj];by_cases g:e=b;grind;grind;funext e h;rw[uf]
structure Sf{m:Gr}(n:bT m)(k:AN):Prop where
 h:∀c j,(k.e c j).map Prod.fst=if j<n.dg c then S (n.nb c j)else N
 a:∀l∈k.fu,(l.sp=F->∃o,dx o/\l.l=Fr.bi o)/\(l.sp=T->eK l.l=N)/\m.fg l.t l.f
 d:∀c j i,k.e c j=S i->lE i.2
 b:∀c j i,k.e c j=S i->∀q∈i.2.aI,dC q
 e:∀c j i,k.e c j=S i->i.2.aA=[]
 g:∀(c:Nat)(p:AS),k.bd[c]?=S p->lg p.n
 f:∀c j i,k.e c j=S i->i.2.aJ+i.2.aI.length<=65536
def Qt(b:AN):Prop:=∀(c:Nat)(a:AS),b.bd[c]?=S a->a.n.aD=[]
def Sf.c{h}{c:bT h}{d}(i:Sf c d){a b}(j:b<c.dg a):∃e f,d.e a b=S e/\e.1=c.nb a b/\d.bd[a]?=S f:=by have g:=i.h a b;rw[UG j]at g;obtain⟨e,k,l⟩:=UD.1 g;obtain⟨f,m,_⟩:=Ci k;grind
def Sf.i{g}{c:bT g}{f}(h:Sf c f){a b d}(i:f.e a b=S d):b<c.dg a/\d.1=c.nb a b:=by have e:=h.h a b;rw[i]at e;split at e;grind;cases e
def xd(b t):∀(c:List Fr.ff)(a:AN),(a.l b t c).bd=a.bd/\(a.l b t c).g=a.g
 |[],a=>⟨rfl,rfl⟩
 |d::g,a=>by have e:=xd b t g (a.j ⟨b,t,Fr.bi d,F⟩);have f:=qj a ⟨b,t,Fr.bi d,F⟩;exact⟨e.1.trans f.1,e.2.trans f.2⟩
def zK(d t):∀(h:List Fr.ff)(b:AN)(a:AP),a∈(b.l d t h).fu->a∈b.fu\/∃e∈h,a=⟨d,t,Fr.bi e,F⟩
 |[],b,a,f=>Ur f
 |e::i,b,a,f=>by obtain g|⟨j,g,c⟩:=zK d t i (b.j ⟨d,t,Fr.bi e,F⟩) a f;obtain c|c:=Gb g;exact Ur c;exact Up ⟨e,by simp,c⟩;exact Up ⟨j,by simp[g],c⟩
def Jm{i t a A}(h:∀b∈a,dx b):cz (A.l i t a)=⟨(cz A).jg,(cz A).en,(cz (A.l i t a)).io⟩/\∀c d b,(c,d,S b)∈(cz (A.l i t a)).io->(c,d,S b)∈(cz A).io\/(c=i/\d=t/\b∈a):=by have j:=(xd i t a A).1;constructor;unfold cz;simp only[LS.mk.injEq,XU];refine⟨?_,?_⟩;grind;funext c d;rw[oh,oh,j];intro c d b k;obtain⟨f,l,g⟩:=Vb.1 k;obtain e|⟨m,e,rfl⟩:=zK i t a A f l;exact Ur (Vb.2 ⟨f,e,g⟩);rw[C5 (h m e)]at g;grind
def vp{u}{j:bT u}{A}(n:Sf j A){b d g}(s:A.e b d=S g)(f)(v:∀k∈(f g.2).aA,dx k)(C:lE (f g.2))(D:∀E∈(f g.2).aI,dC E)(G:(f g.2).aJ+(f g.2).aI.length<=65536):
 ∃w,cz ((A.a b d f).d b d)=⟨(cz A).jg,am (cz A).en b d (f g.2).f,w⟩/\(∀a e k,(a,e,S k)∈w->(a,e,S k)∈(cz A).io\/(a=b/\e=j.nb b d/\k∈(f g.2).aA))/\Sf j ((A.a b d f).d b d)/\
  ((A.a b d f).d b d).bd.map AS.n=A.bd.map AS.n/\((A.a b d f).d b d).g=A.g:=by
 obtain⟨H,K⟩:=n.i s;rw[yh s f,K];have x:=(xd b (j.nb b d) (f g.2).aA (A.a b d λc=>(f c).f)).1;have y:∀a e,((A.a b d λc=>(f c).f).l b (j.nb b d) (f g.2).aA).e a e=(A.e a e).map (λg=>if b=a/\d=e then (g.1,(f g.2).f)else g):=λa e=>by rw[oh,x,<-oh,DG]
 have z:∀a,((A.a b d λc=>(f c).f).l b (j.nb b d) (f g.2).aA).bd[a]?=(A.bd[a]?).map (λl=>if b=a then {l with ss:=l.ss.modify d λg=>(g.1,(f g.2).f)}else l):=λa=>by rw[x,Aw]
 have p:∀a e c,((A.a b d λc=>(f c).f).l b (j.nb b d) (f g.2).aA).e a e=S c->(b=a/\d=e/\c=(g.1,(f g.2).f))\/(¬(b=a/\d=e)/\A.e a e=S c):=λa e c m=>by rw[y]at m;obtain⟨V,h,q⟩:=UD.1 m;by_cases W:b=a/\d=e;grind;grind
 have M:∀(a:Nat)(l:AS),((A.a b d λc=>(f c).f).l b (j.nb b d) (f g.2).aA).bd[a]?=S l->∃o:AS,A.bd[a]?=S o/\l.n=o.n:=λa l r=>by rw[z]at r;obtain⟨o,h,q⟩:=UD.1 r;refine⟨o,h,?_⟩;rw[<-q];split<;>rfl
 obtain⟨O,Q⟩:=Jm (A:=A.a b d λc=>(f c).f) (i:=b) (t:=j.nb b d) v;refine⟨(cz ((A.a b d λc=>(f c).f).l b (j.nb b d) (f g.2).aA)).io,?_,λa e k R=>?_,⟨λa e=>?_,λa U=>?_,λa e c m=>?_,λa e c m=>?_,λa e c m=>?_,λa l r=>?_,λa e c m=>?_⟩,?_,((xd b (j.nb b d) (f g.2).aA (A.a b d λc=>(f c).f)).2)⟩;rw[O,Jo s];have:=Q a e k R;assumption;rw[y];rw[<-n.h a e];cases A.e a e with
 |none=>rfl
 |some c=>simp only[Wv];split<;>rfl
 obtain h|⟨k,h,rfl⟩:=zK _ _ _ _ a U;exact n.a a h;exact⟨λ_=>⟨k,v k h,rfl⟩,(λc=>by cases c),u.iK _ _ (j.iU b d H)⟩;obtain⟨_,_,rfl⟩|⟨_,h⟩:=p a e c m;exact C;exact n.d a e c h;obtain⟨_,_,rfl⟩|⟨_,h⟩:=p a e c m;exact D;exact n.b a e c h;obtain⟨_,_,rfl⟩|⟨_,h⟩:=p a e c m;rfl;exact n.e a e c h;obtain⟨o,h,q⟩:=M a l r;rw[q];exact n.g a o h;obtain⟨_,_,rfl⟩|⟨_,h⟩:=p a e c m;exact G;exact n.f a e c h;apply Vc;intro a;rw[Uz,Uz,z];cases A.bd[a]? with
 |none=>rfl
 |some l=>simp only[Wv];split<;>rfl
def Ar{e:En}(d:e.aA=[])(f:∀a∈e.aI,dC a)(i:e.aJ+e.aI.length<=65536)(k):∀b∈(e.r k).aA,dx b:=λb g=>by obtain c|⟨j,a,l,h,rfl⟩:=sK e k b g;rw[d]at c;cases c;have:=(xD e).1;exact Jg (by omega) (f a (Uo h))
def JA{e:En}(f:e.aA=[])(g:∀a∈e.aI,dC a){b}(i:dC b)(j:e.aJ+e.aI.length<65536):(∀h∈(e.n b).aA,dx h)/\(∀a∈(e.n b).aI,dC a):=by
 have d:∀a∈(e.w b).aI,dC a:=λa c=>by obtain c|c:=UP.1 c;exact g a c;grind
 refine⟨Ar (e:=e.w b) f d ?_ _,d⟩;show e.aJ+(e.aI++[b]).length<=65536;simp;omega
def ID{e:En}(d:e.aA=[])(f:∀a∈e.aI,dC a)(g:e.aJ+e.aI.length<=65536)(k):(∀h∈(e.h k).aA,dx h)/\(∀a∈(e.h k).aI,dC a)/\(e.h k).aJ+(e.h k).aI.length=e.aJ+e.aI.length:=by
 unfold En.h;split;rename_i j;have l:=(xD e).1;have b:∀a∈(e.u (k-e.aJ)).aI,dC a:=λa i=>f a (WJ i);have c:(e.u (k-e.aJ)).aJ+(e.u (k-e.aJ)).aI.length=e.aJ+e.aI.length:=by show e.aJ+(k-e.aJ)+(e.aI.drop (k-e.aJ)).length=_;rw[U5];omega
 exact⟨Ar (e:=e.u (k-e.aJ)) d b (by rw[c];exact g) _,b,c⟩;grind
def Jj(a:En)(b c):(a.a b c).aA=a.aA/\(a.a b c).aI=a.aI/\(a.a b c).aJ=a.aJ:=by unfold En.a;grind
def IT{a:En}(j:a.aA=[])(c d):(∀e∈(a.i c d).aA,dx e)/\(a.i c d).aI=a.aI/\(a.i c d).aJ=a.aJ:=by obtain⟨k,f,g⟩:=Jj a c d;unfold En.i En.p;split;rename_i h;refine⟨λe b=>?_,f,g⟩;obtain b|b:=UP.1 b;have i:e∈(a.a c d).aA:=b;grind;rw[UY.1 b];exact Jf h;refine⟨λe b=>?_,f,g⟩;have i:e∈(a.a c d).aA:=b;grind
def Fu(S:LS)(a b:Nat):Prop:=65536<=(S.en a b).aJ+(S.en a b).aI.length
def Fl{e:Gr}(c:bT e)(S:LS)(f:Nat->Nat->List Fr.cF)(g:Nat)(h:List (Nat×Fr.cF)):Prop:=∀a b,b<c.dg a->∃d,f a (c.nb a b)=d++(if a=g then nF h b else [])/\(d≠[]->Fu S a b)
def xv(a:Prop)[Decidable a](b:Nat):(if a then nF [] b else [])=[]:=by split<;>rfl
def Fl.a{f}{d:bT f}{S c e g h}(i:Fl d S e g [])(j:∀a b,(c.en a b).aJ+(c.en a b).aI.length=(S.en a b).aJ+(S.en a b).aI.length):Fl d c e h []:=λa b k=>by obtain⟨l,m,n⟩:=i a b k;exact⟨l,by rw[m,xv,xv],λo=>by unfold Fu;rw[j];exact n o⟩
def DM{j}{i:bT j}{c}(g:Sf i c){a b d}(f:c.e a b=S d)(e)(h:e d.2=d.2){l m n}(r:fN j i (cz c) l m n):
 fN j i (cz ((c.a a b e).d a b)) l m n/\Sf i ((c.a a b e).d a b)/\((c.a a b e).d a b).bd.map AS.n=c.bd.map AS.n/\((c.a a b e).d a b).g=c.g/\(cz ((c.a a b e).d a b)).en=(cz c).en:=by
 have o:=g.e a b d f;obtain⟨s,k,y,t,u,v⟩:=vp g f e (by rw[h,o];intro w p;cases p) (by rw[h];exact g.d a b d f) (by rw[h];exact g.b a b d f) (by rw[h];exact g.f a b d f);have x:am (cz c).en a b (e d.2).f=(cz c).en:=by funext z A;simp only[am];split;rename_i q;rw[q.1,q.2,vq f,h];show (⟨d.2.aJ,d.2.aI,d.2.aT,d.2.aO,[]⟩:En)=d.2;rw[<-o];rfl
 rw[x]at k;refine⟨?_,t,u,v,by rw[k]⟩;rw[k];refine r.e s λC D w p=>?_;grind
def Jz{s}{h:bT s}{e}(k:Sf h e){b a n}(o:a.1<h.dg b)(Q:dC a.2){w x t}(y:fN s h (cz e) w x t)(hF:Fl h (cz e) t b (a::n)):
 ∃R z,fN s h (cz (e.o b a)) R x z/\Fl h (cz (e.o b a)) z b n/\Sf h (e.o b a)/\(e.o b a).bd.map AS.n=e.bd.map AS.n/\(e.o b a).g=e.g:=by
 obtain⟨g,ap,l,aq,ar⟩:=k.c o;have p:=vq l;have au:∀c f,¬(c=b/\f=a.1)->(if c=b then nF (a::n) f else [])=if c=b then nF n f else []:=λc f j=>by by_cases d:c=b;rw[UG d,UG d,Aq,Us λU=>j ⟨d,U.symm⟩];rfl;grind
 by_cases A:g.2.aJ+g.2.aI.length<65536;have i:g.2.m a.2=g.2.n a.2:=by unfold En.m;grind
 obtain⟨V,W⟩:=JA (k.e b a.1 g l) (k.b b a.1 g l) Q A;obtain⟨C,D,E,X,Y,Z⟩:=vp k l (λd=>d.m a.2) (by rw[i];exact V) (by rw[i];exact k.d b a.1 g l) (by rw[i];exact W) (by rw[i];show g.2.aJ+(g.2.aI++[a.2]).length<=_;simp;omega)
 rw[i]at D E;have G:cz (e.o b a)=⟨(cz e).jg,am (cz e).en b a.1 (g.2.n a.2).f,C⟩:=D;obtain⟨u,H,aa⟩:=hF b a.1 o;have ab:u=[]:=UC λd=>by have:=aa d;unfold Fu at this;rw[p]at this;omega
 rw[ab,UG rfl,Aq,UG rfl]at H;have K:=y.j o (m:=a.2) (r:=nF n a.1) H C (λc ac ad i=>by rw[p];exact E c ac ad i);rw[p]at K;refine⟨_,_,by rw[G];exact K,λc f q=>?_,X,Y,Z⟩;rw[G];by_cases j:c=b/\f=a.1;obtain⟨rfl,rfl⟩:=j;exact⟨[],by simp[am],λd=>(d rfl).elim⟩;have ae:¬(c=b/\h.nb c f=h.nb b a.1):=λ⟨M,af⟩=>j ⟨M,by subst M;exact h.jh _ _ _ q o af⟩;obtain⟨ag,v,O⟩:=hF c f q;refine⟨ag,?_,λd=>?_⟩;simp only[am,Us ae];simp_all;have:=O d;unfold Fu at this|-;simp only[am,Us j];exact this;have i:g.2.m a.2=g.2:=by unfold En.m;rw[Us λd=>A d.2]
 obtain⟨ah,ai,aj,ak,al⟩:=DM k l (λd=>d.m a.2) i y;refine⟨w,t,ah,λc f q=>?_,ai,aj,ak⟩;have an:Fu (cz e) c f->Fu (cz (e.o b a)) c f:=λao=>by show 65536<=((cz ((e.a b a.1 λd=>d.m a.2).d b a.1)).en c f).aJ+((cz ((e.a b a.1 λd=>d.m a.2).d b a.1)).en c f).aI.length;rw[al];exact ao
 obtain⟨u,v,O⟩:=hF c f q;by_cases j:c=b/\f=a.1;obtain⟨rfl,rfl⟩:=j;rw[UG rfl,Aq,UG rfl]at v;refine⟨u++[a.2],by rw[v,UG rfl];simp,λ_=>an ?_⟩;unfold Fu;rw[p];omega;simp_all
def DE{h}{d:bT h}{c l}:∀(b:List (Nat×Fr.cF)) {a:AN} {f e:Nat->Nat->List Fr.cF},Sf d a->(∀g∈b,g.1<d.dg c/\dC g.2)->fN h d (cz a) f l e->Fl d (cz a) e c b->
 ∃o m,fN h d (cz (a.p c b)) o l m/\Fl d (cz (a.p c b)) m c []/\Sf d (a.p c b)/\(a.p c b).bd.map AS.n=a.bd.map AS.n/\(a.p c b).g=a.g
 |[],a,f,e,i,j,k,hF=>⟨f,e,k,hF,i,rfl,rfl⟩
 |g::b,a,f,e,i,j,k,hF=>by have n:=j g (by simp);obtain⟨E,G,p,q,r,s,t⟩:=Jz i n.1 n.2 k hF;obtain⟨u,v,w,x,y,z,A⟩:=DE b r (λC D=>j C (by simp[D])) p q;exact⟨u,v,w,x,y,z.trans s,A.trans t⟩
def DF{o}{j:bT o}{g}(d:Sf j g){h k}(p:g.bd[h]?=S k)(l)(q:lg (l k.n)):Sf j (g.b h l):=by refine⟨λa c=>?_,d.a,λa c e b=>?_,λa c e b=>?_,λa c e b=>?_,λa s m=>?_,λa c e b=>?_⟩;rw[uf];exact d.h a c;rw[uf]at b;exact d.d a c e b;rw[uf]at b;exact d.b a c e b;rw[uf]at b;exact d.e a c e b;rw[ug]at m;obtain⟨r,i,f⟩:=UD.1 m;by_cases n:h=a;subst n;rw[p]at i;cases i;rw[UG rfl]at f;rw[<-f];exact q;rw[Us n]at f;rw[<-f];exact d.g a r i;rw[uf]at b;exact d.f a c e b
def vw{b d}(g:d.bd.map AS.n=b.bd.map AS.n)(h:Qt b):Qt d:=λc i j=>by
 have a:(d.bd.map AS.n)[c]?=(b.bd.map AS.n)[c]?:=by rw[g]
 rw[Uz,Uz,j]at a;cases e:b.bd[c]? with
 |none=>rw[e]at a;cases a
 |some f=>
  rw[e]at a;have:i.n=f.n:=by simpa using a
  rw[this];exact h c f e
def iT.e{b}{c:bT b}{e d f}(g:iT b c e d f)(a):(d a).ai.length=c.dg a:=by obtain⟨i,⟨j,k,l,h,m,n,o⟩,p⟩:=g.a;exact(h.a a).c
def Do:∀(b:Nat)(l:List (Nat×bV)),(∀a∈l,a.1<b)->(∀c,(gY l c).length<=3)->l.length<=3*b
 |0,l,d,_=>by
  cases l with
  |nil=>simp
  |cons a l=>have:=d a (by simp);omega
 |b+1,l,d,e=>by
  have m:=Do b (l.filter λa=> !(a.1==b)) (λa h=>by
   obtain⟨i,j⟩:=Vw.1 h;have:=d a i;simp at j;omega) (λc=>by
   refine UM ?_ (e c);unfold gY;rw[UX,UX];exact(List.filter_sublist.filter _).length_le)
  have f:=e b;unfold gY at f;rw[UX]at f;have g:=List.length_eq_countP_add_countP (l:=l) λa=>a.1==b;rw[Wi,Wi]at g;have k:(l.filter λa=>decide (¬(a.1==b)=T))=l.filter (λa=> !(a.1==b)):=List.filter_congr (λa _=>by cases (a.1==b)<;>rfl);rw[k]at g;omega
def xh(b c)(f:∀a,b a=T->c a=T):∀d:List bV,(d.filter c).countP b=d.countP b
 |[]=>rfl
 |a::d=>by
  have g:=xh b c f d;cases e:c a;have:b a=F:=by cases h:b a;rfl;rw[f a h]at e;cases e
  simp[e,this,g];simp[Vr,e,VN,g]
def JG{h c i j}(e:cL h c i j)(a b):(c.q a b).countP cC<=1:=by
 have o:(kT c.q a b).countP cC=(c.q a b).countP cC:=xh _ _ (λg f=>by simp[f]) _;by_cases k:(kT c.q a b).countP cC=0;omega;obtain⟨g,f,l⟩:=WP.1 (Nat.pos_of_ne_zero k);cases g with
 |cW m n=>
  obtain d|d:=e.c.b a b m n f;have:=e.c.d a b d.1;omega;have:=e.c.d b a d.1;rw[Us d.2.1]at this;omega
 |_=>simp[cC]at l
def Jt{i f j k}(h:cL i f j k)(d e b l)(m:f.q d e=b++l)(g:∀a∈b,dA a=T\/cC a=T\/dN a=T):b.length<=3:=by
 have n:(f.q d e).countP dA<=1:=by rw[<-xh dA (λa=>dA a||eF a) λa c=>by simp[c]];exact h.a.p d e
 have o:=JG h d e;have p:(f.q d e).countP dN<=1:=by rw[<-xh dN (λa=>dN a||eF a) λa c=>by simp[c]];exact h.b.c e d
 rw[m,U0]at n o p;have q:∀b:List bV,(∀a∈b,dA a=T\/cC a=T\/dN a=T)->b.length<=b.countP dA+b.countP cC+b.countP dN:=by
  intro b;induction b with
  |nil=>intro _;simp
  |cons a u r=>
   intro g;have:=r (λs t=>g s (by simp[t]));have c:=g a (by simp);simp only[VN,Vg];obtain c|c|c:=c;rw[UG c];omega;rw[UG c];omega;rw[UG c];omega
 have:=q b g;omega
def iT.i{e}{b:bT e}{f k}(d:iT e b (λ_=>True) f k)(a):(f a).an.length<=3*b.dg a:=by obtain⟨u,⟨v,w,x,l,m,y,z⟩,n⟩:=d.a;refine Do _ _ (λo p=>d.b a o p) λc=>?_;by_cases g:c<b.dg a;obtain⟨q,r,s⟩:=b.pU _ _ (e.iK _ _ (b.iU a c g));have i:=l.q (b.nb a c) q r;rw[s,n a c g,UJ]at i;refine Jt m _ _ _ _ i λj h=>?_;have t:=d.c a VU _ (vv.1 h);cases j<;>simp[ay.a,dA,cC,dN]at t|-;have:gY (f a).an c=[]:=Vp.2 λj h=>g (d.b a _ (vv.1 h));grind
open Classical in
def Jv{n}{b:bT n}(X:n.n<=1000){d}(v:Sf b d){u s}(k:d.bd[u]?=S s)(Y:∀a s,a≠u->d.bd[a]?=S s->s.n.aD=[])(Z:PS s.n){aa w i}(x:fN n b (cz d) aa w i)(hF:Fl b (cz d) i 0 []):
 ∃r R',fN n b (cz (d.m u)) r w R'/\Fl b (cz (d.m u)) R' 0 []/\Sf b (d.m u)/\Qt (d.m u)/\(d.m u).g=d.g:=by
 have o:=rO k;have y:=v.g u s k;have ab:=DF v k (λl=> {l with aD:=[]}) (Hq y);obtain⟨af,z,_⟩:=x.a;have A:=z.e u;rw[o]at A;have C:∀e∈s.n.aD,e.1<b.dg u:=λe j=>by rw[<-A];exact y.b.b e j
 have ac:∀e∈s.n.aD,e.1<b.dg u/\dC e.2:=λe j=>⟨C e j,Jq (Z e j) (z.n X (u:=u) (by rw[o];exact j) (C e j))⟩
 obtain⟨p,D,E⟩:∃p:Nat->Nat->List Fr.cF,(∀c,c<b.dg u->p u (b.nb u c)=i u (b.nb u c)++nF s.n.aD c)/\∀a,a≠u->p a=i a:=by
  refine⟨λa t=>if a=u then i a t++(if m:∃c,c<b.dg u/\b.nb u c=t then nF s.n.aD m.choose else [])else i a t,λc g=>?_,λa ag=>?_⟩;have m:∃G,G<b.dg u/\b.nb u G=b.nb u c:=⟨c,g,rfl⟩
  dsimp only;rw[UG rfl,dif_pos m,b.jh u _ c m.choose_spec.1 g m.choose_spec.2];grind
 have q:=x.i (u:=u) (R':=p) (λc g=>by rw[D c g,o]) E;have H:=Dm k λl=> {l with aD:=[]};rw[o,<-H]at q;have ad:d.m u=(d.b u λl=> {l with aD:=[]}).p u s.n.aD:=by unfold AN.m AN.O;rw[k]
 obtain⟨r,R',K,M,O,Q,R⟩:=DE s.n.aD ab ac q (λa c g=>by obtain⟨U,f,V⟩:=hF a c g;rw[xv,VJ]at f;rw[H];by_cases h:a=u;subst h;exact⟨U,by rw[D c g,f,UG rfl],V⟩;exact⟨U,by rw[E a h,f,Us h,VJ],V⟩)
 rw[<-ad]at K M O Q R;refine⟨r,R',K,M.a λ_ _=>rfl,O,?_,R⟩;refine vw Q λa ah W=>?_;rw[ug]at W;obtain⟨ae,q,f⟩:=UD.1 W;by_cases h:u=a;rw[UG h]at f;rw[<-f];rw[Us h]at f;rw[<-f];exact Y a ae (λe=>h e.symm) q
structure Bw(a:ay):Prop where
 c:a.bw<=1001
 b:∀d∈a.ai,d.1<=1000
def Rw:bV->Prop
 | .bH a=>1<=a/\a<=1001
 |_=>True
def Bw.a{a n'}(b:Bw a)(c:n'.ai=a.ai)(d:n'.bw=a.bw):Bw n':=⟨by rw[d];exact b.c,by rw[c];exact b.b⟩
def xe{c}(a:Bw c)(d e):Bw (c.e d e):=by refine⟨a.c,λf g=>?_⟩;obtain b|b:=VK g;exact a.b f b;rw[b];unfold ay.p;split;rename_i h i;exact a.b h (Uo i);omega
def vo{a}(b:Bw a)(c d):Bw (a.d c d):=b.a rfl rfl
def zP{b}(a:Bw b):Bw b.b:=by unfold ay.b;split;split;exact a.a rfl rfl;refine vo (xe ?_ _ _) _ _;exact a.a rfl rfl;exact a
def CS{a}(b:Bw a)(c d e f):Bw (a.j c d e f):=by unfold ay.j;split<;>exact b.a rfl rfl
def zN{a}(b:Bw a):Bw a.q:=by unfold ay.q;split;split<;>exact b.a rfl rfl;exact b
def zO{a}(b:Bw a):Bw a.l:=by unfold ay.l;split;exact zN (b.a rfl rfl);exact b.a rfl rfl
def CT(e f g h):∀(d) {a} (b),Bw a->Bw (a.o e f g h d b)
 |0,a,b,c=>c
 |d+1,a,b,c=>by rw[ay.o];refine CT e f g h d (b+1) ?_;split;exact CS c _ _ _ _;exact c
def IN{a}(f:Bw a)(c d e b):Bw (a.y c d e b):=by
 unfold ay.y;have g:Bw ({a with aM:=d,cX:=e,aP:=if b then 1 else 2,cq:=S c,dj:=N,bw:=1001}:ay):=⟨UF _,f.b⟩
 have h:=CT c d e b a.ai.length 0 g;by_cases i:b=T;rw[UG i];exact zO h;grind
def zM{a}(b:Bw a)(c):Bw (a.f c):=by unfold ay.f;split;exact xe b _ _;exact b
def CR{b}(a:Bw b)(d c):Bw (b.n d c):=by unfold ay.n;split;exact⟨by have:=a.c;show c<=1001;omega,a.b⟩;exact a
def CQ{b}(a:Bw b):Bw b.s:=by unfold ay.s;split;exact a;split;exact a.a rfl rfl;exact xe (vo a _ _) _ _
def zL{c}(a:Bw c)(d g):Bw (c.a d g).1:=by
 cases g with
 |bG e=>
  show Bw (c.m d e).1;unfold ay.m;have b:=zP a;dsimp only;split;exact CS (xe b _ _) _ _ _ _;split;exact b;exact vo b _ _
 |aL e f h=>exact IN a d e f h
 |cW e f=>
  show Bw (c.r d e f).1;unfold ay.r;have b:=zP a;dsimp only;split;exact b;split;exact vo b _ _;split;exact zO (zM b _);exact vo (zM b _) _ _
 |dG=>
  refine zN (CR ?_ _ _);exact a.a rfl rfl
 |dK=>exact zO (zM a _)
 |bH i=>
  show Bw (c.i d i).1;unfold ay.i;split;split;exact a;split;exact CQ a;split;exact a.a rfl rfl;exact a;refine zN (CR ?_ _ _);exact a.a rfl rfl
 |dO=>exact CQ a
structure wW(i:ay)(k:Nat)(l:bV):Prop where
 e:k<i.ai.length
 h:i.aP=0->i.aM=0/\i.bI=0/\∀m∈i.ai,m.2=0
 f:i.aM<1000
 a:Bw i
 g:Rw l
 d:∀j,i.cq=S j->j<i.ai.length
 b:∀j,i.dj=S j->j<i.ai.length
 c:CL i k l
def tS:Nat->ay->Nat->Prop
 |0,_,_=>True
 |d+1,b,c=>match b.an[c]? with
  |none=>True
  |some a=>wW b a.1 a.2/\((b.a a.1 a.2).2=F->tS d (b.a a.1 a.2).1 (c+1))
def tR:Nat->ay->Prop
 |0,_=>True
 |b+1,a=>tS a.an.length a 0/\((a.h a.an.length 0).2=T->tR b (a.h a.an.length 0).1)
def tT(a:ay)(b:Nat)(c:Fr.cF):Prop:=wW a b (cy c)/\((a.a b (cy c)).2=T->tR ((a.a b (cy c)).1.an.length+1) (a.a b (cy c)).1)
def zW{n:ay}{j}:∀a,(∀b∈a,(n.a j b).2=F)->ci a=[]
 |[],_=>rfl
 |c::a,d=>by
  have e:=zW a (λb f=>d b (by simp[f]));have g:=d c (by simp);cases c with
  |aL h i k=>simp[ay.a]at g
  |_=>simpa [ci]using e
def jf.c{h}{i:bT h}{d j}(k:jf h i d j)(a)(l:(d a).aP=0):(d a).aM=0/\(d a).bI=0/\∀b∈(d a).ai,b.2=0:=by
 obtain⟨e,u,v,m,f,_⟩:=k;have c:=m.a a;have n:e.aw a=F:=by cases b:e.aw a;rfl;exact(c.l.1 b l).elim
 have o:e.cg a=F:=by cases b:e.cg a;rfl;have:=c.f.1 b;omega
 obtain⟨p,w,x,y,z⟩:=f.a.o a n;have A:∀g,e.se a g=0:=λg=>by apply UC;intro b;have:=(f.a.e a g b).2;grind
 refine⟨by rw[<-c.b];exact p,by rw[c.m,f.b.g a o];rfl,λb q=>?_⟩;obtain⟨r,s,rfl⟩:=U3 q;have t:=c.a r (by rw[<-c.c];exact s);unfold ay.c at t;grind
def jf.a{c}{d:bT c}{f i}(g:jf c d f i)(t:c.n<=10){a e m}(h:e<d.dg a){A B}(l:i (d.nb a e) a=A++m::B)(n:ci A=[])(o:Bw (f a))(p:Rw m):wW (f a) e m:=by have q:=g.c a;have r:=IG g h l n;obtain⟨u,j,v,s,k,_⟩:=g;have b:=s.a a;refine⟨by rw[b.c];exact h,q,?_,o,p,by rw[b.c];exact b.i,by rw[b.c];exact b.n,r⟩;rw[<-b.b];have w:=k.h (c.lt _ _ (d.iU a e h));have x:=k.a.n a;have y:j.bB a<2 ^ j.bB a:=Nat.lt_two_pow_self;omega
def iT.l{h}{o:bT h}{D b p}(i:iT h o D b p)(q:h.n<=10){a}(r:(b a).aP≠0)(s:Bw (b a))(t:∀c∈(b a).an,Rw c.2):∀k d,(∀e,e<d->∀c,(b a).an[e]?=S c->((b a).a c.1 c.2).2=F)->tS k (b a) d
 |0,d,_=>VU
 |k+1,d,u=>by
  rw[tS];cases l:(b a).an[d]? with
  |none=>trivial
  |some c=>
   dsimp only;obtain⟨U,E⟩:=Ul.1 l;have v:=Uo l;have w:=i.b a c v;obtain⟨V,G,H⟩:=i.a;have K:(b a).an=(b a).an.take d++c::(b a).an.drop (d+1):=by rw[<-E,XG,Vd]
   have M:∀f∈(b a).an.take d,((b a).a f.1 f.2).2=F:=λf g=>by obtain⟨e,x,rfl⟩:=U3 g;rw[UK]at x;rw[Xy];exact u e (by omega) _ (Um (by omega))
   have y:=H a c.1 w;rw[K,pW,tZ,UG rfl]at y;refine⟨G.a q w (A:=gY ((b a).an.take d) c.1) (m:=c.2) (B:=gY ((b a).an.drop (d+1)) c.1++p (o.nb a c.1) a) (by rw[y];simp) (zW (n:=b a) (j:=c.1) _ λO Q=>M (c.1,O) (vv.1 Q)) s (t c v),λz=>?_⟩;have C:=(zI z).1;rw[uh r]at C;rw[C];refine iT.l i q r s t k (d+1) λe x f g=>?_;by_cases R:e=d;subst R;rw[l]at g;cases g;exact z;exact u e (by omega) f g
def iT.j{i}{g:bT i}(o:i.n<=10)(p:i.n<2 ^ 30)(q:∀w,g.dg w<2 ^ 30){a}:∀(k) {c} {f},iT i g (λx=>x≠a) c f->Bw (c a)->(∀b∈(c a).an,Rw b.2)->tR k (c a)
 |0,c,f,h,_,_=>VU
 |k+1,c,f,h,r,s=>by
  rw[tR];by_cases l:(c a).aP=0;have e:=h.d a l;have j:(c a).h (c a).an.length 0=(c a,F):=by rw[e];rfl
  rw[j,e];exact⟨VU,λn=>by cases n⟩;refine⟨h.l o l r s _ 0 (λy z=>by omega),λt=>?_⟩;obtain⟨e,j⟩|⟨X,b,Y,e,j,A,C⟩:=Ag l (c a).an.length 0 (by omega) (λy z=>by omega);rw[e]at t;cases t;rw[C];dsimp only;have D:b.1<g.dg a:=h.b a b (by rw[e];simp);have E:gY (c a).an b.1++f (g.nb a b.1) a=gY X b.1++b.2::(gY Y b.1++f (g.nb a b.1) a):=by rw[e,pW,tZ];simp
  have G:=iT.f p q (chan':=f) (m:=b.2) (X:=X) (Y:=Y) (B:=gY Y b.1++f (g.nb a b.1) a) h D
   E (by rw[pW];simp) (λK M H=>by rw[e,pW,pW,tZ,Us λn=>H n.symm];simp) (λ_ _ _=>rfl) j (λu d=>by rw[e];simp at d|-;obtain d|d:=d<;>simp[d]) A
  have v:=iT.j o p q k G (by rw[cS];exact(zL r b.1 b.2).a rfl rfl) (by rw[cS];intro u d;refine s u ?_;rw[e];simp at d|-;obtain d|d:=d<;>simp[d])
  rw[cS]at v;exact v
def iT.r{h}{b:bT h}(p:h.n<=10)(q:h.n<2 ^ 30)(s:∀z,b.dg z<2 ^ 30){c d}(f:iT h b (λ_=>True) c d){a j}(i:j<b.dg a){m r}(k:d (b.nb a j) a=cy m::r)(t:Bw (c a))(A:∀u∈(c a).an,Rw u.2)(C:Rw (cy m)):
 tT (c a) j m:=by
 have o:∀e,e<b.dg a->e≠j->am d (b.nb a j) a r (b.nb a e) a=d (b.nb a e) a:=λe o D=>by have:b.nb a e≠b.nb a j:=λE=>D (b.jh a _ _ o i E);simp[am,this]
 have G:∀g l,l≠a->am d (b.nb a j) a r g l=d g l:=λg l H=>by simp[am,H]
 have K:am d (b.nb a j) a r (b.nb a j) a=r:=by simp[am]
 have v:=rP (c a) j (cy m);refine⟨?_,λM=>?_⟩;obtain⟨ab,O,Q⟩:=f.a;have w:=Q a j i;rw[k]at w;exact O.a p i w (zW (n:=c a) (j:=j) _ λR U=>f.c a VU (j,R) (vv.1 U)) t C;have V:iT h b (λg=>g≠a) c d:=⟨f.a,f.b,f.d,λg _=>f.c g VU⟩
 have x:=iT.f q s (chan':=am d (b.nb a j) a r) (m:=cy m) (X:=(c a).an) (Y:=[]) (B:=r) V i
  (by rw[k]) (by rw[K,VJ]) (λe W Z=>by rw[o e W Z,VJ]) G (f.c a VU) (λu k=>by simpa using k) M
 have aa:({ ((c a).a j (cy m)).1 with an:=(c a).an++[]}:ay)=((c a).a j (cy m)).1:=by rw[VJ,<-v.1]
 rw[aa]at x;have y:=iT.j p q s (((c a).a j (cy m)).1.an.length+1) x (by rw[cS];exact zL t j (cy m)) (by rw[cS,v.1];exact A);rw[cS]at y;exact y
end Go.Proofs.YtlfijfodklhplaaGreat.Ghs
namespace Go.Proofs.YtlfijfodklhplaaGreat
open Go.RowKit Go.Sort
instance:Inhabited Ed:=⟨⟨0,0,0⟩⟩
def vS(a):(cA a).length=a.length*3:=by
 induction a with
 |nil=>rfl
 |cons b c d=>
  have:cA (b::c)=b.cells++cA c:=by simp[cA]
  rw[this,Uu,d];simp[Ed.cells];omega
def Fm(b):(flatK Ed.cells 3 b.toArray).toList=cA b:=by
 apply Vc;intro a;by_cases d:a<b.length*3;have e:a/3<b.length:=by omega
 obtain⟨f,g,h⟩:=uz b (a/3) _ (Um e);have k:a<(flatK Ed.cells 3 b.toArray).size:=by simpa using d
 have i:(flatK Ed.cells 3 b.toArray).toList[a]?=S ((flatK Ed.cells 3 b.toArray)[a]!):=by grind
 have j:b.toArray[a/3]! =b[a/3]:=by grind
 rw[i,get_flatK _ _ _ a (by simpa using d),j];have c:a%3=0\/a%3=1\/a%3=2:=by omega
 obtain c|c|c:=c;have:a=a/3*3:=by omega
 rw[c,show (cA b)[a]?=(cA b)[a/3*3]? from by rw[<-this],f];rfl;have:a=a/3*3+1:=by omega
 rw[c,show (cA b)[a]?=(cA b)[a/3*3+1]? from by rw[<-this],g];rfl;have:a=a/3*3+2:=by omega
 rw[c,show (cA b)[a]?=(cA b)[a/3*3+2]? from by rw[<-this],h];rfl;rw[VI (by simp;omega),VI (by rw[vS];omega)]
def NP{c d e g t a}(f:lz c d e t 3 (cA a) g):HoldsK Ed.cells 3 c d e a.toArray:=by
 intro b k;obtain⟨l,m,h,_,_⟩:=id f;have i:(flatK Ed.cells 3 a.toArray)[b]?=S ((flatK Ed.cells 3 a.toArray)[b]!):=by grind
 have j:(cA a)[b]?=S ((flatK Ed.cells 3 a.toArray)[b]!):=by rw[<-Fm,Array.getElem?_toList,i]
 exact⟨f.a b _ j,h.d _⟩
def Q8(a c d f b)(hF:b.toList=d)(h:d.length=c.length):putCells id a.length b (a++c++f).toArray=(a++d++f).toArray:=by
 have j:b.size=c.length:=by rw[<-h,<-hF];simp
 unfold putCells;apply Array.ext;simp;omega;intro e k l;simp only[Array.getElem_mapIdx,UW];by_cases g:e<a.length;rw[Us (by omega),V3 (by simp;omega),V3 g,V3 (by simp;omega),V3 g];by_cases m:e<a.length+c.length;rw[UG ⟨by omega,by omega⟩];have i:e-a.length<b.size:=by omega
 rw[getElem!_pos b _ i];rw[V3 (show e<(a++d).length by simp;omega),List.getElem_append_right (by omega)];subst hF;simp;grind
def SO{a c d i t f b}(q:lz a c d t 3 (cA f) i)(j:b.length=f.length)(e k):
 lz (sortWorldK Ed.cells 3 a c d e b.toArray k) c d t 3 (cA b) i/\ae (ap c) a (sortWorldK Ed.cells 3 a c d e b.toArray k):=by
 obtain⟨l,m,g,n,o⟩:=q;have r:=g.b;have p:(putRow id (Sort.ahead a e) c d (flatK Ed.cells 3 b.toArray)).heap.size=a.heap.size:=by rw[size_putRow];rfl
 refine⟨⟨l,m,?_,n,?_⟩,?_⟩;unfold aq at g|-;unfold sortWorldK grow putRowK;rw[WI (by rw[p];exact r)];unfold putRow mapBlock;have h:(Sort.ahead a e).heap=a.heap:=rfl;rw[h,Xe,UG rfl,g];simp only[Wv,onCells];rw[<-n,Q8 l (cA f) (cA b) m _ (Fm b) (by rw[vS,vS,j])];rw[vS,j];rw[vS]at o;exact o;refine⟨rfl,rfl,rfl,?_,?_⟩;unfold sortWorldK grow putRowK;simp;intro w s u;unfold sortWorldK grow putRowK;rw[WI (by rw[p];exact s)];unfold putRow mapBlock;have h:(Sort.ahead a e).heap=a.heap:=rfl;rw[h,Xe,Us λv=>u v.symm]
def pB(a b:Ed):Int:=Lib.compareInt a.c b.c
def yG(a b):ltOf pB a b=decide (a.c<b.c):=by unfold ltOf pB Lib.compareInt;by_cases c:a.c<b.c;simp[c];by_cases d:b.c<a.c<;>simp[c,d]
def Ie:SWO (ltOf pB) where
 irrefl x:=by rw[yG];simp
 trans x y z h1 h2:=by rw[yG]at *;simp at *;omega
 ntrans x y z h1 h2:=by rw[yG]at *;simp at *;omega
def gK(a:List Ed):List Ed:=(pdq (ltOf pB) a.toArray 0 a.toArray.size (Lib.bitLen a.toArray.size) T T).toList
def SX(a):(gK a).toArray=pdq (ltOf pB) a.toArray 0 a.toArray.size (Lib.bitLen a.toArray.size) T T:=by unfold gK;simp
def Ia(a):PermIn 0 a.toArray.size a.toArray (gK a).toArray/\SortedIn (ltOf pB) 0 a.toArray.size (gK a).toArray:=by exact pdq_sorts (ltOf pB) Ie a.toArray 0 a.toArray.size (Lib.bitLen a.toArray.size) T T (Vl _) (UF _) (Ur rfl)
def XW(a):(gK a).Perm a:=by obtain⟨⟨b,_,c⟩,_⟩:=Ia a;grind
def tF(a):(gK a).length=a.length:=(XW a).length_eq
def Ck(a):(gK a).Pairwise (λe f=>e.c<=f.c):=by rw[Vv];intro c d g b h;have i:=(Ia a).2 c d (Vl _) h (by rw[tF]at b;simpa using b);rw[yG,getElem!_pos (gK a).toArray d (by simpa using b),getElem!_pos (gK a).toArray c (by simpa using g)]at i;grind
def ym{b a}(d:gq b a 0):¬ia b a/\¬kO b a/\¬mr a:=by
 have e:¬ia b a:=λc=>by have:=d.1 c;omega
 have f:¬kO b a:=λc=>by have:=(d.2 e).1 c;omega
 exact⟨e,f,λc=>by have:=((d.2 e).2 f).1 c;omega⟩
def wK{a:Nat}{c}(h:gq (a:Int) c 0):AL a (gK c)/\1<=a/\a<=10:=by obtain⟨i,j,k⟩:=ym h;unfold ia at i;refine⟨⟨by rw[tF];omega,λb l=>?_,Ck c⟩,by omega,by omega⟩;have e:=(XW c).mem_iff.1 l;have f:¬kK (a:Int) b:=λd=>j ⟨b,e,d⟩;have g:¬qR b:=λd=>k (Ur ⟨b,e,d⟩);unfold kK at f;unfold qR at g;obtain⟨m,n,o⟩:=b;simp only at f g;refine⟨m.toNat,n.toNat,o.toNat,?_,by omega,by omega,by omega⟩;rw[VV (by omega),VV (by omega),VV (by omega)]
end Go.Proofs.YtlfijfodklhplaaGreat
