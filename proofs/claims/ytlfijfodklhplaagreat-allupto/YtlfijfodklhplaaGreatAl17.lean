import Derived.Test.YtlfijfodklhplaaGreatAl10
import Derived.Test.YtlfijfodklhplaaGreatAl16
set_option maxHeartbeats 2000000
set_option linter.all false
open Go.RowKit Go.Proofs.Tryz
open Go.Value renaming int->I,slice->L,pointer->P,bool->B
open Go.IntKind renaming i64->J
open Option renaming some->S,none->N
open Bool renaming true->T,false->F
namespace Go.Proofs.YtlfijfodklhplaaGreat
def bO.l{l w1 m n t d o f e}(b:bO l n t d o f e)(p h a' c')(z:RV w1 76 4 a' h.length c' (cH h))(q:∀a,ag a' a->ag e.wa a\/l.heap.size<=a)(i:ae (ag e.wa) l w1)(A:∀C∈h,dC C)(D:p+h.length<=65536)(r:ae (ap d) w1 m)(E:aq m d (ik n o (({f with aJ:=p,aI:=h}:En).cells {e with wa:=a',wc:=c'})) t):
 bO m n t d o {f with aJ:=p,aI:=h} {e with wa:=a',wc:=c'}/\fG l m d e {e with wa:=a',wc:=c'}:=by
 have Q:=b.iP.b;have s:=b.d;have u:∀a,ag a' a->a≠d:=λa j f=>(q a j).elim (λc=>b.wb (f▸c)) (λc=>by omega);have v:∀a,ma d {e with wa:=a',wc:=c'} a->ma d e a\/l.heap.size<=a:=λa i=>by obtain c|c|c:=i;exact Ur (Ur c);exact(q a c).imp (λG=>Up (Ur G)) id;exact Ur (Up (Up c))
 have w:=(i.d (ex':=ma d e) λ_ _ f=>Up (Ur f)).c (r.d λ_ _ f=>Ur f);refine⟨{iP:=E,lF:=b.lF,ft:=b.ft,jR:=z.a r λa j=>u a j,l8:=?_,gl:=b.gl,l6:=?_,wb:=λc=>u d c rfl,ob:=b.ob,wo:=?_,gw:=?_,gn:=b.gn,lH:=A,jn:=D,lp:=b.lp,kn:=b.kn,l7:=b.l7},⟨v,λa i=>Ur i,w⟩⟩;exact(b.l8.a i λa k g=>b.wo a g k).a r λa k H=>b.ob (H▸k);intro K x M y O;have g:=b.gw x (Uo y);exact(b.l6 K x M y O).a w g;intro a g k;obtain c|c:=q a g;exact b.wo a c k;have:=s a (Up (Up (Ur k)));omega;intro a j g;have R:=s a (Up (Up (Up j)));obtain c|c:=v a g;exact b.gw a j c;omega
def bO.r{f w1 i t a c g p}(d:bO f i t a c g p)(e b a' c')(l:RV w1 76 4 a' b.length c' (cH b))(m:∀h,ag a' h->ag p.wa h\/f.heap.size<=h)(j:ae (ag p.wa) f w1)(n:∀o∈b,dC o)(q:e+b.length<=65536):
 bO ((w1.setCell ⟨a,c,N⟩ (.int J e)).setCell ⟨a,c+1,N⟩ (L a' b.length c')) i t a c {g with aJ:=e,aI:=b} {p with wa:=a',wc:=c'}/\
 fG f ((w1.setCell ⟨a,c,N⟩ (.int J e)).setCell ⟨a,c+1,N⟩ (L a' b.length c')) a p {p with wa:=a',wc:=c'}:=by
 refine d.l e b a' c' l m j n q (((ae.a (ap a) w1).e (p:=⟨a,c,N⟩) (λ_=>rfl) _).e (p:=⟨a,c+1,N⟩) (λ_=>rfl) _) ?_;have r:=m6 g p d.ft;have k:=((d.iP.c j d.wb).i d.c 0 (by omega) (I J e))
 rw[Vn]at k;exact k.i (by simpa using d.c) 1 (by simp;omega) (L a' b.length c')
def bO.s{f w1 h t b c d p}(e:bO f h t b c d p)(a a' c')(j:RV w1 76 4 a' a.length c' (cH a))(k:∀g,ag a' g->ag p.wa g\/f.heap.size<=g)(i:ae (ag p.wa) f w1)(l:∀m∈a,dC m)(n:d.aJ+a.length<=65536):
 bO (w1.setCell ⟨b,c+1,N⟩ (L a' a.length c')) h t b c {d with aI:=a} {p with wa:=a',wc:=c'}/\
 fG f (w1.setCell ⟨b,c+1,N⟩ (L a' a.length c')) b p {p with wa:=a',wc:=c'}:=by
 refine e.l d.aJ a a' c' j k i l n ((ae.a (ap b) w1).e (p:=⟨b,c+1,N⟩) (λ_=>rfl) _) ?_;have o:=m6 d p e.ft;exact(e.iP.c i e.wb).i e.c 1 (by omega) (L a' a.length c')
def RV.f{f c d wc a}(i:RV f 76 4 (S ⟨c,d,N⟩) a.length wc (cH a))(k)(j:k<=a.length)(b)(l:b=d+k*4\/(wc=k/\b=d)):
 RV f 76 4 (S ⟨c,b,N⟩) (a.drop k).length (wc-k) (cH (a.drop k)):=by
 obtain⟨o,p,m⟩:=i;obtain⟨e,_⟩|⟨q,r,e,g⟩:=m;cases e;cases e;refine⟨Ga _,by simp;omega,Up ⟨c,b,rfl,?_⟩⟩;have h:=g.d k (by rw[Ga];exact V8 4 j);rw[F9]at h;obtain rfl|⟨rfl,rfl⟩:=l;exact h;have n:=U6 (by omega);rw[n,Ww];exact g.f
def Kh(j t d e a f)(b:Nat)(g)(c:bO g j t d e a f)(o:(b:Int)<=65536)(h:¬(a.aJ<b/\b<=a.aJ+a.c)):
 Cr 171 #[P (S ⟨d,e,N⟩),.int J b] g (.tuple #[]) λk=>g=k:=by
 have p:=c.h;have l:=c.e;have m:(a.aI.length:Int)<=65536:=by have:=c.jn;omega
 have q:(a.aJ:Int)<=65536:=by have:=c.jn;omega
 unfold En.c at h;have n:=@af _ h;clear h c;go_enter func171,ntmps171;go_wp2_with fail;refine(ze d e a.aI.length f.wc f.wa _ l m).mono ?_;rintro r s ⟨rfl,rfl⟩;generalize i:min a.aI.length 4=mn at *;have u:(mn:Int)<=4:=by omega
 by_cases v:(0:Int)<(b:Int)-a.aJ
 .have w:¬(b:Int)-a.aJ<=(mn:Int):=by have:=n;omega
  clear i;go_wp2;go_end0;exact⟨rfl,rfl⟩
 .clear i;go_wp2;go_end0;exact⟨rfl,rfl⟩
def bO.u{f g t h i c d}(j:bO f g t h i c d)(k:0<c.aI.length):∃a b,d.wa=S ⟨a,b,N⟩:=by obtain⟨_,e,_⟩|⟨a,b,e,_⟩:=j.jR.2.2;omega;exact⟨a,b,e⟩
def Ki(l t f e a g)(c:Nat)(h)(d:bO h l t f e a g)(ag:(c:Int)<=65536)(m:a.aJ<c/\c<=a.aJ+a.c)(u:(a.aA.length:Int)<1099511627000):
 Cr 171 #[P (S ⟨f,e,N⟩),.int J c] h (.tuple #[]) λv=>∃w,bO v l t f e (a.h c) w/\fG h v f g w:=by
 have x:=d.h;have i:=d.e;have y:=d.f e;have z:=d.f (e+1);have n:(a.aI.length:Int)<=65536:=by have:=d.jn;omega
 have A:(a.aJ:Int)<=65536:=by have:=d.jn;omega
 have R(_:=()):a.h c=(a.u (c-a.aJ)).r (a.c-(c-a.aJ)):=by unfold En.h;rw[UG m]
 unfold En.c at m;have U:(0:Int)<(c:Int)-a.aJ:=by omega
 obtain⟨b,C⟩:=ah (c-a.aJ);have ai:(c:Int)-a.aJ=(b:Int):=by omega
 have V:(c:Int)=a.aJ+(b:Int):=by omega
 have D:b<=a.aI.length:=by omega
 have E:=d.jR.2.1;have G:b<=min a.aI.length 4:=by omega
 have aj:(0:Int)<(b:Int):=by omega
 obtain⟨o,W,p⟩:=d.u (by omega);rw[p]at i;have j:=@af _ d;clear d;have X:=@aC _ _ C G;have k:=@lP _ _ _ _ _ D E u n A;clear C m U V D E u;go_enter func171,ntmps171;go_wp2_with fail;refine(ze f e a.aI.length g.wc _ _ i n).mono ?_;rintro H w1 ⟨rfl,rfl⟩;have ak:(b:Int)<=((min a.aI.length 4:Nat):Int):=by omega
 have al:((min a.aI.length 4:Nat):Int)<=4:=by omega
 generalize K:min a.aI.length 4=mn at *;have Y:=@af _ K;clear K G;go_wp2_with fail;refine(Mr f e o W a.aJ b a.aI.length g.wc _ x i y z A k.1 k.2.1 n).mono ?_;rintro H w1 ⟨rfl,q,M,r⟩;have s:=j.r (w1:=h) (a.aJ+b) (a.aI.drop b) (S ⟨o,q,N⟩) (g.wc-b) (RV.f (by have:=j.jR;rwa [p]at this) b k.1 q M) (λam O=>Ur (by rw[p];rw[cM]at O|-;exact O)) (ae.a _ _) (λZ aa=>j.lH Z (WJ aa)) (by have:=j.jn;simp;omega);rw[U5,Int.natCast_add,<-r]at s;have Q:=@af _ s;have an:=@af _ r;clear s r x i y z M;have ao:(mn:Int)-b=((mn-b:Nat):Int):=by omega
 go_wp2_with fail;refine(Cg l t f e (a.u b) {g with wa:=S ⟨o,q,N⟩,wc:=g.wc-b} (mn-b) w1 Q.1 k.2.2.1 (by omega)).mono ?_;rintro H ap ⟨rfl,ab,ac,ad⟩;go_wp2;go_end0;refine⟨rfl,ab,?_,Q.2.a ad⟩;rw[R,<-X.1];unfold En.c;rw[Y];exact ac
def Kg(g t c d a e)(b:Nat)(f)(h:bO f g t c d a e)(k:(b:Int)<=65536)(m:(a.aA.length:Int)<1099511627000):
 Cr 171 #[P (S ⟨c,d,N⟩),.int J b] f (.tuple #[]) λi=>∃l,bO i g t c d (a.h b) l/\fG f i c e l:=by
 by_cases j:a.aJ<b/\b<=a.aJ+a.c;exact Ki g t c d a e b f h k j m;refine(Kh g t c d a e b f h k j).mono ?_;rintro n i ⟨rfl,rfl⟩;refine⟨rfl,e,?_,fG.f _ _ _⟩;unfold En.h;rw[Us j];exact h
def F3(e t a b c f d)(i:bO d e t a b c f)(j:(c.aA.length:Int)<1099511627000):
 Cr 118 #[P (S ⟨a,b,N⟩)] d (.tuple #[]) λg=>∃h,bO g e t a b c.o h/\fG d g a f h:=by
 go_enter func118,ntmps118;go_wp2_with fail;refine(Cg e t a b c f 0 d i j (by omega)).mono ?_;rintro n o ⟨rfl,k,l,m⟩;go_wp2;go_end0;exact⟨rfl,k,l,m⟩
def bO.p{c h t b d e p}(a:bO c h t b d e p):bO (c.setCell ⟨b,d+23,N⟩ (L N 0 0)) h t b d e.f {p with oa:=N,oc:=0,gs:=[]}:=by have k:ae (ap b) c (c.setCell ⟨b,d+23,N⟩ (L N 0 0)):=(ae.a (ap b) c).e (p:=⟨b,d+23,N⟩) (λ_=>rfl) _;refine {iP:=?_,lF:=a.lF,ft:=a.ft,jR:=a.jR.a k λf g l=>a.wb (l▸g),l8:=RV.d _ _ _,gl:=rfl,l6:=λq r m n=>by simp at n,wb:=a.wb,ob:=b8 _,wo:=λf _=>b8 f,gw:=λf g=>by simp at g,gn:=Wz,lH:=a.lH,jn:=a.jn,lp:=a.lp,kn:=a.kn,l7:=λm o=>by simp[En.f]at o};have i:=a.iP.i a.c 23 (by rw[m6 e p a.ft];omega) (L N 0 0);have j:=EM e p a.ft [] N 0 [];rw[VD]at j;rw[j]at i;exact i
def FZ(f t a b e p c)(d:bO c f t a b e p):
 Cr 166 #[P (S ⟨a,b,N⟩)] c (L p.oa e.aA.length p.oc) λg=>bO g f t a b e.f {p with oa:=N,oc:=0,gs:=[]}/\ae (ap a) c g:=by
 have i:=d.i;have j:=d.f (b+23);have h:=@af _ d;clear d;go_enter func166,ntmps166;go_wp2;go_ret;exact⟨rfl,h.p,(ae.a (ap a) c).e (p:=⟨a,b+23,N⟩) (λ_=>rfl) _⟩
def F1(e f k a b c)(i:bJ k a b c=F)(d):
 Cr 111 #[P (S ⟨e,f,N⟩),.agg #[.int J k,.int J a,.int J b,B c]] d (.int J 10) λg=>ae aa d g:=by
 go_enter func111,ntmps111;go_wp2_with fail;refine(uM k a b c _).mono ?_;rintro j l ⟨rfl,h⟩;go_wp2;go_ret;exact⟨rfl,((ae.a aa d).b _).c h⟩
def F0(l t c d a e h)(i:dC h)(b)(j:bO b l t c d a e)(m:a.aJ+a.aI.length=65536):
 Cr 111 #[P (S ⟨c,d,N⟩),mv h] b (.int J 1) λn=>ae aa b n:=by
 have w:=i.2.2.2;have o:=@af _ j;have x:(a.aJ:Int)+a.aI.length=65536:=by omega
 clear i j m;go_enter func111,ntmps111;go_wp2_with fail;refine(uM _ _ _ _ _).mono ?_;rintro p y ⟨rfl,k⟩;have f:=((ae.a aa b).b _).c k;have g:=o.a f λ_ _ q=>q;have r:=g.h;have s:=g.e;have u:=@af _ f;clear g f k;go_wp2_with fail;refine(Gp c d a.aJ a.aI.length e.wc e.wa _ r s (by omega)).mono ?_;rintro p z ⟨rfl,v⟩;go_wp2;go_ret;exact⟨rfl,u.c v⟩
def F2(n t e f a d g)(o:dC g)(h)(p:bO h n t e f a d)(ac:a.aJ+a.aI.length<65536)(w:(a.aA.length:Int)<1099511627000):
 Cr 111 #[P (S ⟨e,f,N⟩),mv g] h (.int J 0) λx=>∃y,bO x n t e f (a.n g) y/\fG h x e d y:=by
 have au:=o.2.2.2;have j:=@af _ p;have ad:=@af _ o;have ag:=@af _ w;have av:¬(a.aJ:Int)+a.aI.length=65536:=by omega
 have ah:(a.aJ:Int)+a.aI.length<=65536:=by omega
 have z:(a.aI.length:Int)<=65536:=by omega
 have aw:=p.iP.b;clear o p ac w;go_enter func111,ntmps111;go_wp2_with fail;refine(uM _ _ _ _ _).mono ?_;rintro k w1 ⟨rfl,q⟩;have r:=((ae.a aa h).b _).c q;have s:=j.a r λ_ _ b=>b;have A:=s.h;have C:=s.e;have D:=(aq.e h (dy g).toArray 76).c q λb=>b;have E:=@af _ r;have G:=@af _ D;clear s r q D;go_wp2_with fail;refine(Gp e f a.aJ a.aI.length d.wc d.wa _ A C ah).mono ?_;rintro k ai ⟨rfl,l⟩;have c:=j.a (E.c l) λ_ _ b=>b;have H:=c.e;have i:=G.c l λb=>b;have u:=@af _ (E.c l);have K:=i.a 0;have M:=i.a 1;have O:=i.a 2;have Q:=i.a 3;simp[dy]at K M O Q;clear i l c A C G;go_wp2_with fail;refine(ze e f a.aI.length d.wc d.wa _ H z).mono ?_;rintro k aj ⟨rfl,rfl⟩;have c:=j.a u λ_ _ b=>b;have ak:=@af _ (Ss e f a.aJ a.aI.length d.wc d.wa (cH a.aI) g ai.drew c.e (c.f (f+1)) c.jR c.wb z);clear c;generalize R:min a.aI.length 4=mn at *;have U:=@af _ R;clear R;go_wp2_with fail;go_region_with (go_at_call 164;refine ak.mono ?_;rintro k aj ⟨rfl,V,W,al,X,Y,Z,rfl⟩);all_goals
  have c:=j.a (u.drew) λ_ _ b=>b;have v:=c.s (w1:=al) (a.aI++[g]) V W (by rw[wh,Uu];simpa [cH]using X) Y Z (λb am=>by obtain m|m:=UP.1 am;exact c.lH b m;simp at m;subst m;exact ad) (by simp;omega)
  rw[Uu,VH]at v;have ab:=@af _ v;have an:(mn:Int)<=4:=by have:=U;omega
  clear v c X Y Z K M O Q H;go_wp2_with fail;refine(Cg n t e f (a.w g) {d with wa:=V,wc:=W} mn _ ab.1 ag an).mono ?_;rintro k ax ⟨rfl,ao,ap,ar⟩;go_wp2;go_ret;refine⟨rfl,ao,?_,(fG.b e d u.drew).a (ab.2.a ar)⟩;unfold En.n En.c;rw[U];exact ap
def SF(c a e)(b:c[a]?=S e)(d)(i:d<5):(jC c)[a*5+d]?=(pK e)[d]?:=by
 induction c generalizing a with
 |nil=>simp at b
 |cons f j g=>
  have h:(pK f).length=5:=rfl;cases a with
  |zero=>
   simp at b;subst b;simp only[jC,Vs,Xr,Ve];rw[Ux (by omega)]
  |succ a=>
   have:=g a (by simpa using b);simp only[jC,Vs]at this|-;rw[Ut (by omega),<-this,h];congr 1;omega
def pA(b:En)(d c e)(f:b.aO[c]?=S e)(a)(g:a<5):(b.cells d)[3+c*5+a]?=(pK e)[a]?:=by
 have h:=(Ul.1 f).1;have i:=XV b.aO;have:(b.cells d)[3+c*5+a]?=(jC b.aO++[L d.oa b.aA.length d.oc])[c*5+a]?:=by rw[show 3+c*5+a=(c*5+a)+1+1+1 by omega];rfl
 rw[this,Ux (by omega),SF b.aO c e f a g]
def FH(e f a b:Nat)(k g h i c)(j:c.cell? ⟨e,f+2,N⟩=S (.int J b))(n:(a:Int)<=65536)(o:(b:Int)<=65536)(l:a<b\/b+4<=a):
 Cr 195 #[P (S ⟨e,f+2,N⟩),.int J a,.agg #[.int J k,.int J g,.int J h,B i]] c (.tuple #[]) λm=>ae aa c m:=by
 have p:=UL c _ j;have d:(a:Int)-b<0\/4<=(a:Int)-b:=by omega
 clear l;obtain d|d:=d
 .go_enter func195,ntmps195;go_wp2;go_end0;exact⟨rfl,(ae.a aa c).b _⟩
 .go_enter func195,ntmps195;go_wp2;go_end0;exact⟨rfl,(ae.a aa c).b _⟩
def Oq(b c d e k:Nat)(f g h i a)(j:a.cell? ⟨b,c+2,N⟩=S (.int J e))(m:(d:Int)<=65536)(n:(e:Int)<=65536)(o:(d:Int)-e=(k:Int))(p:(k:Int)<4)(q:a.cell? ⟨b,c+2+1+k*5+4,N⟩=S (B T)):
 Cr 195 #[P (S ⟨b,c+2,N⟩),.int J d,.agg #[.int J f,.int J g,.int J h,B i]] a (.tuple #[]) λl=>ae aa a l:=by
 have r:=UL a _ j;have s:(0:Int)<=(k:Int):=by omega
 go_enter func195,ntmps195;go_wp2;go_end0;exact⟨rfl,(ae.a aa a).b _⟩
def ys{f:Type}(a:List f)(g:a.length=4):∃b c d e,a=[b,c,d,e]:=by
 match a,g with
 |[b,c,d,e],_=>exact⟨b,c,d,e,rfl⟩
def rq(d:World)(a b:Nat)(c:Fr.cF)(e:Bool):World:=((((d.setCell ⟨a,b,N⟩ (I J (c.a:Int))).setCell ⟨a,b+1,N⟩ (I J (c.c:Int))).setCell ⟨a,b+2,N⟩ (I J (c.b:Int))).setCell ⟨a,b+3,N⟩ (B c.d)).setCell ⟨a,b+4,N⟩ (B e)
def LH(a:En)(c)(d:a.aO.length=4)(k)(e:k<4)(b):
 (((((a.cells c).set (3+k*5) (.int J b.a)).set (3+k*5+1) (.int J b.c)).set (3+k*5+2) (.int J b.b)).set (3+k*5+3) (B b.d)).set (3+k*5+4) (B T)=({a with aO:=a.aO.set k (S b)}:En).cells c:=by
 obtain⟨g,h,i,f,j⟩:=a;simp only at d;obtain⟨l,m,n,o,rfl⟩:=ys f d;match k,e with
 |0,_=>rfl
 |1,_=>rfl
 |2,_=>rfl
 |3,_=>rfl
def bO.m{l w1 m t b c e p}(a:bO l m t b c e p)(o:ae aa l w1)(k)(g:k<4)(d)(v:e.aT+k<65536):
 bO (rq w1 b (c+3+k*5) d T) m t b c {e with aO:=e.aO.set k (S d)} p/\fG l (rq w1 b (c+3+k*5) d T) b p p:=by
 have H:=m6 e p a.ft;have f:=a.a o λ_ _ w=>w;have i:ae (ap b) w1 (rq w1 b (c+3+k*5) d T):=by unfold rq;exact(((((ae.a (ap b) w1).e (p:=⟨b,c+3+k*5,N⟩) (λ_=>rfl) _).e (p:=⟨b,c+3+k*5+1,N⟩) (λ_=>rfl) _).e (p:=⟨b,c+3+k*5+2,N⟩) (λ_=>rfl) _).e (p:=⟨b,c+3+k*5+3,N⟩) (λ_=>rfl) _).e (p:=⟨b,c+3+k*5+4,N⟩) (λ_=>rfl) _
 have x:aq (rq w1 b (c+3+k*5) d T) b (ik m c (({e with aO:=e.aO.set k (S d)}:En).cells p)) t:=by rw[<-LH e p a.ft k g d];have y:=f.iP.i f.c (3+k*5) (by omega) (I J d.a);have z:=y.i (by simpa using f.c) (3+k*5+1) (by simp;omega) (I J d.c);have A:=z.i (by simpa using f.c) (3+k*5+2) (by simp;omega) (I J d.b);have C:=A.i (by simpa using f.c) (3+k*5+3) (by simp;omega) (B d.d);have q:=C.i (by simpa using f.c) (3+k*5+4) (by simp;omega) (B T);simp only[<-UI]at q;exact q
 refine⟨{iP:=x,lF:=a.lF,ft:=by simpa using a.ft,jR:=f.jR.a i λk g h=>a.wb (h▸g),l8:=f.l8.a i λk g h=>a.ob (h▸g),gl:=a.gl,l6:=λj r D s E=>(f.l6 j r D s E).a i λh=>a.gw r (Uo s) (Ur h),wb:=a.wb,ob:=a.ob,wo:=a.wo,gw:=a.gw,gn:=a.gn,lH:=a.lH,jn:=a.jn,lp:=a.lp,kn:=?_,l7:=a.l7},(fG.b b p o).a ⟨λ_ a=>Ur a,λ_ a=>Ur a,i.d λ_ _ e=>Ur e⟩⟩;intro j G n;simp only[Vi]at n;by_cases u:k=j;subst u;exact v;rw[Us u]at n;exact a.kn j G n
def Oo(j t d g a c)(i k:Nat)(e f)(b:bO f j t d g a c)(x:(i:Int)<65536)(y:(i:Int)-a.aT=(k:Int))(z:(k:Int)<4)(h:a.aO[k]?=S N):
 Cr 195 #[P (S ⟨d,g+2,N⟩),.int J i,mv e] f (.tuple #[]) λl=>bO l j t d g {a with aO:=a.aO.set k (S e)} c/\fG f l d c c:=by
 have A:=b.iP.b;have C:=b.g;have D:(a.aT:Int)<=65536:=by have:=b.lp;omega
 have o:=b.b _ _ ((pA a c k N h 0 (by omega)).trans rfl);have p:=b.b _ _ ((pA a c k N h 1 (by omega)).trans rfl);have q:=b.b _ _ ((pA a c k N h 2 (by omega)).trans rfl);have r:=b.b _ _ ((pA a c k N h 3 (by omega)).trans rfl);have s:=b.b _ _ ((pA a c k N h 4 (by omega)).trans rfl);simp only[<-UI,Vn]at o p q r s;have E:=λu=>b.f u;have v:=@af _ b;clear b;have G:(0:Int)<=(k:Int):=by omega
 go_enter func195,ntmps195;go_wp2_with fail;go_region;all_goals
  go_wp2;go_end0;have m:=v.m (ae.a aa f) k (by omega) e (by omega);have n:ae aa (rq f d (g+3+k*5) e T) ((rq f d (g+3+k*5) e T).alloc (.cells (dy e).toArray 76)).drew:=((ae.a aa _).b _).drew;exact⟨rfl,m.1.a n λ_ _ w=>w,m.2.a (fG.b d c n)⟩
def On(o t c k a d)(b:Nat)(e f)(g:bO f o t c k a d)(z:(b:Int)<65536):
 Cr 195 #[P (S ⟨c,k+2,N⟩),.int J b,mv e] f (.tuple #[]) λh=>bO h o t c k (a.a b e) d/\fG f h c d d:=by
 have q:(a.aT:Int)<=65536:=by have:=g.lp;omega
 have r:∀ {h:World},a.a b e=a->ae aa f h->bO h o t c k (a.a b e) d/\fG f h c d d:=λi l=>by rw[i];exact⟨g.a l λ_ _ A=>A,fG.b c d l⟩
 by_cases p:a.aT<=b;by_cases C:b<a.aT+4;obtain⟨j,l⟩:=ah (b-a.aT);have s:j<a.aO.length:=by rw[g.ft];omega
 have u:(b:Int)-a.aT=(j:Int):=by omega
 cases v:a.aO[j]with
 |none=>
  have m:a.aO[j]?=S N:=by rw[Um s,v]
  have i:a.a b e= {a with aO:=a.aO.set j (S e)}:=by unfold En.a;rw[UG p,<-l,m]
  rw[i];exact Oo o t c k a d b j e f g z u (by omega) m
 |some w=>
  have m:a.aO[j]?=S (S w):=by rw[Um s,v]
  have i:a.a b e=a:=by unfold En.a;rw[UG p,<-l,m]
  have x:=g.b _ _ ((pA a d j (S w) m 4 (by omega)).trans rfl);simp only[<-UI]at x;refine(Oq c k b a.aT j _ _ _ _ f g.g (by omega) q u (by omega) x).mono ?_;rintro y h ⟨rfl,n⟩;exact⟨rfl,r i n⟩
 have i:a.a b e=a:=by unfold En.a;rw[UG p,VI (by rw[g.ft];omega)]
 refine(FH c k b a.aT _ _ _ _ f g.g (by omega) q (Up (by omega))).mono ?_;rintro y h ⟨rfl,n⟩;exact⟨rfl,r i n⟩;have i:a.a b e=a:=by unfold En.a;rw[Us p]
 refine(FH c k b a.aT _ _ _ _ f g.g (by omega) q (Ur (by omega))).mono ?_;rintro y h ⟨rfl,n⟩;exact⟨rfl,r i n⟩
def Sc{P}(b l q r g h e c m s i n u j d t a)(v:P.underlying l=S (.slice g))(o:(P.info? g).map (·.size)=S h)(w:b.heap[e]?=S (.cells d t (0,0)))(x:Nat.min n m=j)(y:a.length=j*h)(z:∀p f,a[p]?=S f->b.cell? (i.add p)=S f)(A:c+a.length<=d.size)(C:∀f∈a,f.oneCell'=T):
 (Builtin.copy_ #[l,q] r #[L (S ⟨e,c,N⟩) m s,L (S i) n u]).run P b=
  .ok (goInt j) (b.setRow e (d.toList.take c++a++d.toList.drop (c+a.length)).toArray):=by
 have D:=run_loadCells_list (P:=P) b i a z;have E:=Xx P e c t a 0 d b w (by simpa using A) C;cases k:P.info? g with
 |none=>simp[k]at o
 |some G=>
  have H:G.size=h:=by simpa [k]using o
  simp[Builtin.copy_,Wk v,Builtin.lenOf,Builtin.firstCells,sizeOf,typeInfo,k,H,x,<-y,D,E]
def S8{P j a c b k q r}(s:a.guard=N)(l m f n)(u:a.op= .call {callee:= .builtin .copy,args:= #[l,m],argTypes:= #[f,n]})(elem size)(v:P.underlying f=S (.slice elem))(w:(P.info? elem).map (·.size)=S size)(g off dLen dCap sLen sCap ad)(x:c.eval l=L (S ⟨g,off,N⟩) dLen dCap)(y:c.eval m=L (S ad) sLen sCap)(d)(h:Nat.min sLen dLen=d)(cur t)(o:aq b g cur t)(cs)(z:cs.length=d*size)(A:∀p e,cs[p]?=S e->b.cell? (ad.add p)=S e)(C:off+cs.length<=cur.size)(D:∀e∈cs,e.oneCell'=T)(E:∀i,aq i g (cur.toList.take off++cs++cur.toList.drop (off+cs.length)).toArray t->ae (ap g) b i->k (c.put a.dst (goInt d)) i):
 if Region.wanted a (yielded j c.tmps)=T then Oper.wp P a c b k q else r:=by
 have G:Region.wanted a (yielded j c.tmps)=T:=by simp[Region.wanted,s]
 rw[UG G];have H:=Sc (P:=P) b f n a.type elem size g off dLen dCap ad sLen sCap d cur t cs v w o h z A C D;unfold Oper.wp;simp[execOp,u,resolve,invoke,builtin,x,y,H,Result.andThen];exact E _ (by rw[UJ];exact Xa b g _ _ t _ o) ⟨rfl,rfl,rfl,by simp[World.setRow],λK M h=>WQ b g K _ h⟩
def SE:(prog.info? 140).map (·.size)=S 5:=by kernel_rfl
def SG(c):∀a∈jC c,a.oneCell'=T:=by intro a d;obtain⟨e,_,b⟩:=VW.1 d;simp only[pK,dy,WN,VG,UZ,U9,Wc]at b;obtain rfl|rfl|rfl|rfl|rfl:=b<;>rfl
def Rc(c a b)(j:a+b.length<=c.size)(d e)(k:d+e.length<=b.length):
 ((ik c a b).toList.take (a+d)++e++(ik c a b).toList.drop (a+d+e.length)).toArray=ik c a (b.take d++e++b.drop (d+e.length)):=by
 have f:(c.toList.take a).length=a:=by simp;omega
 apply XS;simp only[ik];have g:(c.toList.take a++b++c.toList.drop (a+b.length)).take (a+d)=c.toList.take a++b.take d:=by rw[UJ,List.take_append,f,US (by omega),Wh,List.take_append_of_le_length (by omega)]
 have h:(c.toList.take a++b++c.toList.drop (a+b.length)).drop (a+d+e.length)=b.drop (d+e.length)++c.toList.drop (a+b.length):=by rw[UJ,We,f,U6 (by omega),VG,UI,Wh,We,Nat.sub_eq_zero_of_le (by omega),XP]
 rw[g,h];have i:(b.take d++e++b.drop (d+e.length)).length=b.length:=by simp;omega
 rw[i];simp
def En.v(a:En):En:= {a with aT:=a.aT+1,aO:=a.aO.drop 1++[N]}
def En.j(a:En)(b:Nat):En:= {a with aT:=a.aT+b,aO:=a.aO.drop b++List.replicate b N}
def uX(a:En):a.j 0=a:=by simp[En.j]
def yX(a:En)(b)(c:b<a.aO.length):(a.j b).v=a.j (b+1):=by unfold En.j En.v;congr 1;simp only;rw[VF (by simp;omega),WA,UJ,List.replicate_succ']
def QX(a:En)(b g c d e)(f:a.aO=[g,c,d,e]):
 (((((((a.cells b).set 2 (.int J ((a.aT:Int)+1))).take 3++jC [c,d,e]++((a.cells b).set 2 (.int J ((a.aT:Int)+1))).drop 18).set 18 (.int J 0)).set 19 (.int J 0)).set 20 (.int J 0)).set 21 (B F)).set 22 (B F)=a.v.cells b:=by
 obtain⟨h,i,j,k,l⟩:=a;simp only at f;subst f;rfl
def QY(h:En)(a b c d e)(k:h.aO=[b,c,d,e])(f g l)(m:(jC [c,d,e])[g]?=S l):((h.cells a).set 2 f)[8+g]?=S l:=by
 obtain⟨i,j,o,s,n⟩:=h;simp only at k;subst k;have p:=(Ul.1 m).1;have q:((⟨i,j,o,[b,c,d,e],n⟩:En).cells a).set 2 f=[I J i,L a.wa j.length a.wc,f]++pK b++(jC [c,d,e]++[L a.oa n.length a.oc]):=rfl;rw[q,Ut (by simp[pK,dy])];have r:8+g-([I J i,L a.wa j.length a.wc,f]++pK b).length=g:=by simp[pK,dy]
 rw[r,Ux p,m]
def wE(a:En)(d i e f c)(g:a.aO=[i,e,f,c])(h b)(j:b<5):(((a.cells d).set 2 h).take 3++jC [e,f,c]++((a.cells d).set 2 h).drop 18)[18+b]?=(pK c)[b]?:=by
 obtain⟨k,l,m,n,o⟩:=a;simp only at g;subst g;match b,j with
 |0,_=>rfl
 |1,_=>rfl
 |2,_=>rfl
 |3,_=>rfl
 |4,_=>rfl
def bO.q{l w1 g t f h b i}(a:bO l g t f h b i)(m)(q:b.aO[0]?=S (S m))(j:ae (ap f) l w1)(r:aq w1 f (ik g h (b.v.cells i)) t):bO w1 g t f h b.v i:=by
 have s:=a.ft;refine {iP:=r,lF:=a.lF,ft:=by simp[En.v,s],jR:=a.jR.a j λu k e=>a.wb (e▸k),l8:=a.l8.a j λu k e=>a.ob (e▸k),gl:=a.gl,l6:=λc n v o w=>(a.l6 c n v o w).a j λe=>a.gw n (Uo o) (Ur e),wb:=a.wb,ob:=a.ob,wo:=a.wo,gw:=a.gw,gn:=a.gn,lH:=a.lH,jn:=a.jn,lp:=?_,kn:=?_,l7:=a.l7};have:=a.kn 0 m q;show b.aT+1<=65536;omega;intro c p x;show b.aT+1+c<65536;have d:(b.aO.drop 1++[N])[c]?=S (S p):=x;by_cases y:c<(b.aO.drop 1).length;rw[Ux y,VC]at d;have:=a.kn (1+c) p d;omega;rw[Ut (by omega)]at d;have z:=(Ul.1 d).1;have:c-(b.aO.drop 1).length=0:=by simp at z|-;omega
 rw[this]at d;simp at d
def uK:Value->Nat
 | .slice _ a _=>a
 |_=>0
def B2(b:En)(a d)(g:En.dU b.aO=a++En.dU (b.j a.length).aO)(c:(b.j a.length).aO[0]?=S (S d))(h:a.length<b.aO.length):
 En.dU b.aO=(a++[d])++En.dU (b.j (a++[d]).length).aO:=by
 rw[g,UJ];congr 1;have i:(b.j a.length).aO=S d::(b.j a.length).aO.drop 1:=by
  cases e:(b.j a.length).aO with
  |nil=>rw[e]at c;simp at c
  |cons f j=>rw[e]at c;simp at c;subst c;rfl
 have k:∀a:List (Option Fr.cF),En.dU (a++[N])=En.dU a:=by
  intro a;induction a with
  |nil=>rfl
  |cons f j l=>cases f<;>simp[En.dU,l]
 rw[i,Uu,VH,<-yX b a.length h];simp only[En.dU,En.v,k,List.singleton_append]
def Tj(r t b c n p K)(M:bO K r t b c n p):
 Calls prog 196 #[P (S ⟨b,c+2,N⟩)] K λaz Y=>∃o D,az= .returned (.slice o (En.dU n.aO).length D)/\RV Y 76 4 o (En.dU n.aO).length D (cH (En.dU n.aO))/\(∀h,ag o h->K.heap.size<=h/\¬lZ b p h)/\bO Y r t b c n.g p/\fG K Y b p p:=by
 have G:=@af _ M;clear M;go_enter func196,ntmps196;go_wp2_with fail;go_loopw [3] (λA wr=>∃(f:List Fr.cF)(o:Option Addr)(D:Nat),A= .slice o f.length D/\f.length<=4/\RV wr 76 4 o f.length D (cH f)/\(∀h,ag o h->K.heap.size<=h)/\En.dU n.aO=f++En.dU (n.j f.length).aO/\bO wr r t b c (n.j f.length) p/\ae (ap b) K wr) λA _=>4-uK A;case atStart=>exact⟨[],N,0,rfl,by simp,RV.d _ _ _,λh E=>(b8 h E).elim,by simp[uX],by rw[VD,uX];exact G,ae.a _ _⟩
 case round=>
  obtain⟨f,o,D,rfl,aA,H,w,s,g,C⟩:=hrel;obtain⟨ai,i,j,k,d⟩:=ys _ g.ft;obtain⟨a,u⟩:=ah (n.j f.length);rw[<-u]at g d s;have aB:=g.b 7 _ (by rw[pA a p 0 ai (by rw[d];rfl) 4 (by omega)];rfl);cases ai with
  |none=>
   have x:=@af _ (⟨H,w,s,g,C,u,d⟩:_/\_/\_/\_/\_/\_/\_);clear H w s g C u d;go_wp2;go_ret;obtain⟨H,w,s,g,C,u,d⟩:=x;have aC:En.dU a.aO=[]:=by rw[d];rfl
   rw[aC,VJ]at s;have aD:n.g=n.j f.length:=by unfold En.g En.j;rw[s]
   refine⟨o,D,by rw[s];rfl,by rw[s];exact H,λh E=>⟨w h E,λe=>?_⟩,by rw[aD,<-u];exact g,⟨λ_ M=>Ur M,λ_ M=>Ur M,C.d λ_ _ e=>Ur e⟩⟩;have:=G.d h e;have:=w h E;omega
  |some m=>
   have aj:f.length<4:=by refine Nat.lt_of_le_of_ne aA λe=>?_;have aX:=G.ft;rw[u,e]at d;unfold En.j at d;simp only at d;rw[U6 (by omega)]at d;simp[List.replicate]at d
   have aY:=G.iP.b;have aZ:=C.size;have aE:=g.b 3 _ (by rw[pA a p 0 (S m) (by rw[d];rfl) 0 (by omega)];rfl);have aF:=g.b 4 _ (by rw[pA a p 0 (S m) (by rw[d];rfl) 1 (by omega)];rfl);have aG:=g.b 5 _ (by rw[pA a p 0 (S m) (by rw[d];rfl) 2 (by omega)];rfl);have aH:=g.b 6 _ (by rw[pA a p 0 (S m) (by rw[d];rfl) 3 (by omega)];rfl);have ak:=g.g;have aI:=λl=>g.f l;have Z:¬ag o b:=λe=>by have:=w b e;omega
   have a0:(a.aT:Int)<65536:=by have:=g.kn 0 m (by rw[d];rfl);omega
   have x:=@af _ (⟨H,w,s,g,C,u,d⟩:_/\_/\_/\_/\_/\_/\_);clear w s g C u d;have al(_:=()):∀v,ae (ag o) wr v->∀l,v.cell? ⟨b,l,N⟩=wr.cell? ⟨b,l,N⟩/\v.frozen? ⟨b,l,N⟩=F:=λv am l=>⟨am.f b l (by omega) Z,(am.h b l (by omega) Z).trans (aI l)⟩
   go_wp2_with (at_builtin;refine wO _ rfl (.tmp 10) (.tmp 17) 112 rfl 76 (.agg #[I J 0,I J 0,I J 0,B F]) 4 32 underlying112 wv rfl o f.length D rfl (cH f) (H.c _) ⟨wr.heap.size,0,N⟩ 1 1 (by omega) rfl (dy m) rfl (ke wr (dy m) 76 _ rfl) (by simpa [cH]using wj [m]) (by omega) (by omega) ?_;intro aJ aK v aL an aM;have O:ae (ag o) wr v:=((ae.a _ wr).b _).c aM;have a1:=((al () v O (c+2)).1).trans ak;have a2:=(al () v O (c+2)).2);have y(_:=()):bO v r t b c a p:=x.2.2.2.1.a O λl ao e=>by have a3:=x.2.1 l e;have a4:=G.d l ao;omega
   have aa:aq (v.setCell ⟨b,c+2,N⟩ (I J ((a.aT:Int)+1))) b (ik r c ((a.cells p).set 2 (I J ((a.aT:Int)+1)))) t:=y.iP.i y.c 2 (by rw[m6 a p y.ft];omega) _;have V:c+((a.cells p).set 2 (I J ((a.aT:Int)+1))).length<=r.size:=by simpa using y.c
   have ar:∀Q A,(jC [i,j,k])[Q]?=S A->(v.setCell ⟨b,c+2,N⟩ (I J ((a.aT:Int)+1))).drew.cell? ((⟨b,c+8,N⟩:Addr).add Q)=S A:=λQ A aN=>by rw[Va,Xf,UI];exact aa.l V (8+Q) A (QY a p (S m) i j k x.2.2.2.2.2.2 _ Q A aN)
   have au:c+3+(jC [i,j,k]).length<=(ik r c ((a.cells p).set 2 (I J ((a.aT:Int)+1)))).size:=by rw[Rb _ _ _ V,XV];have:=y.lF;simp;omega
   have W:=@af _ (⟨aa,ar,au,V⟩:_/\_/\_/\_);clear aa ar au V aE aF aG aH ak aB;go_region_law (refine S8 rfl (.tmp 29) (.tmp 33) 339 339 rfl 140 5 underlying339 SE b (c+2+1) 4 4 3 3 ⟨b,c+2+1+5,N⟩ (by simp[Act.eval,Act.put]) (by simp[Act.eval,Act.put]) 3 rfl (ik r c ((a.cells p).set 2 (I J ((a.aT:Int)+1)))) t (W.1.drew) (jC [i,j,k]) rfl W.2.1 W.2.2.1 (SG _) ?_;intro X ab aO);all_goals
    have ac:(jC [i,j,k]).length=15:=rfl;have z:aq X b (ik r c (((a.cells p).set 2 (I J ((a.aT:Int)+1))).take 3++jC [i,j,k]++((a.cells p).set 2 (I J ((a.aT:Int)+1))).drop 18)) t:=by have:=Rc r c ((a.cells p).set 2 (I J ((a.aT:Int)+1))) W.2.2.2 3 (jC [i,j,k]) (by rw[ac,UA,m6 a p y.ft];omega);rw[ac]at this ab;rw[<-this];exact ab
    have q:c+(((a.cells p).set 2 (I J ((a.aT:Int)+1))).take 3++jC [i,j,k]++((a.cells p).set 2 (I J ((a.aT:Int)+1))).drop 18).length<=r.size:=by have:=y.lF;have ad:=m6 a p y.ft;simp only[Uu,UK,U5,UA,XV,ad,Vg,VD];omega
    have a5:=z.l q 18 _ ((wE a p _ i j k x.2.2.2.2.2.2 _ 0 (by omega)).trans rfl);have a6:=z.l q 19 _ ((wE a p _ i j k x.2.2.2.2.2.2 _ 1 (by omega)).trans rfl);have a7:=z.l q 20 _ ((wE a p _ i j k x.2.2.2.2.2.2 _ 2 (by omega)).trans rfl);have a8:=z.l q 21 _ ((wE a p _ i j k x.2.2.2.2.2.2 _ 3 (by omega)).trans rfl);have a9:=z.l q 22 _ ((wE a p _ i j k x.2.2.2.2.2.2 _ 4 (by omega)).trans rfl);have ba:=λl=>z.d l;have aP:=@af _ (⟨z,q⟩:_/\_);clear ab z q;go_wp2;go_roundw;case rel=>
     obtain⟨H,w,s,g,C,u,d⟩:=x;obtain⟨z,q⟩:=aP;have bb:=O.size;obtain⟨av,R⟩:=ah (rq X b (c+18) Fr.dq F);have aQ:ae (ap b) X av:=by rw[R];unfold rq;exact(((((ae.a (ap b) X).e (p:=⟨b,c+18,N⟩) (λ_=>rfl) _).e (p:=⟨b,c+18+1,N⟩) (λ_=>rfl) _).e (p:=⟨b,c+18+2,N⟩) (λ_=>rfl) _).e (p:=⟨b,c+18+3,N⟩) (λ_=>rfl) _).e (p:=⟨b,c+18+4,N⟩) (λ_=>rfl) _
     have U:=(((ae.a (ap b) v).e (p:=⟨b,c+2,N⟩) (λ_=>rfl) _).drew.c aO).c aQ;have aR:aq av b (ik r c (a.v.cells p)) t:=by
      rw[<-QX a p (S m) i j k d,R];have bc:(((a.cells p).set 2 (I J ((a.aT:Int)+1))).take 3++jC [i,j,k]++((a.cells p).set 2 (I J ((a.aT:Int)+1))).drop 18).length=24:=by have ad:=m6 a p y.ft;simp only[Uu,UK,U5,UA,ad,ac];omega
      generalize ((a.cells p).set 2 (I J ((a.aT:Int)+1))).take 3++jC [i,j,k]++((a.cells p).set 2 (I J ((a.aT:Int)+1))).drop 18=L at *;have aS:=z.i q 18 (by omega) (I J 0);have aT:=aS.i (by rw[UA];exact q) 19 (by rw[UA];omega) (I J 0);have aU:=aT.i (by rw[UA,UA];exact q) 20 (by rw[UA,UA];omega) (I J 0);have aV:=aU.i (by rw[UA,UA,UA];exact q) 21 (by rw[UA,UA,UA];omega) (B F);exact aV.i (by rw[UA,UA,UA,UA];exact q) 22 (by rw[UA,UA,UA,UA];omega) (B F)
     have aw:a.aO[0]?=S (S m):=by rw[d];rfl
     have ax:=y.q m aw U aR;have aW:a.v=n.j (f++[m]).length:=by rw[u,Uu,VH];exact yX n f.length (by rw[G.ft];exact aj)
     refine⟨f++[m],aJ,aK,by simp,by simp;omega,?_,?_,?_,?_,?_⟩;rw[R]at U;rw[wh,Uu,VH];refine RV.a ?_ U λh E ay=>?_;simpa [cH]using aL;simp only[ap]at ay;subst ay;obtain e|e:=an _ E;exact Z e;simp only[Uv]at e;omega;intro h E;obtain e|e:=an h E;exact w h e;simp only[Uv]at e;omega;exact B2 n f m (by rw[<-u];exact s) (by rw[<-u];exact aw) (by rw[G.ft];exact aj);rw[<-aW];rw[R]at ax;exact ax;rw[R]at U;exact(C.g O λl ao e=>by have:=w l e;omega).c U
    case measure=>simp[uK];omega
def sZ(e w':World)(f:Nat)(g:Pl)(h:Value)(a:List Fr.cF):Prop:=∃b d,h=L b a.length d/\RV w' 76 4 b a.length d (cH a)/\∀c,ag b c->e.heap.size<=c/\¬lZ f g c
def Tl(a:En)(b:a.g.aT<65536):a.g.p= {a.g with aA:=a.g.aA++[⟨F,a.g.aT,Fr.dq⟩]}:=by unfold En.p;rw[UG b]
def Tm(a:En)(b:¬a.g.aT<65536):a.g.p=a.g:=by unfold En.p;rw[Us b]
def FJ(a:En)(b c):(a.a b c).g.aA=a.aA:=by unfold En.a En.g;split;split<;>rfl;rfl
def Lt(o t d l b g)(c:Nat)(a h)(r:bO h o t d l b g)(Y:(c:Int)<65536)(G:(b.aA.length:Int)<1099511627000):
 Calls prog 170 #[P (S ⟨d,l,N⟩),.agg (fc T (c:Int) (a.a:Int) (a.c:Int) (a.b:Int) a.d)] h λs y=>∃H z,s= .returned H/\sZ h y d z H (b.q c a)/\bO y o t d l (b.i c a) z/\fG h y d g z:=by
 have ak:=r.iP.b;have al:=@af _ r;have am:=@af _ G;have Z(_:=()):((b.a c a).g.aA.length:Int)<1099511627776:=by rw[FJ];omega
 have K(_:=()):∀A,ae aa h A->_:=λA ab=>On o t d l b g c a A (r.a ab λ_ _ p=>p) Y;clear r G;go_enter func170,ntmps170;go_wp2_with fail;go_region_with (go_at_call 195;refine(K () _ (((ae.a aa h).b _).drew)).mono ?_;rintro s ac ⟨rfl,M,O⟩);all_goals
  have C:=@af _ (⟨M,O⟩:_/\_);clear M O K;go_wp2_with fail;refine(Tj o t d l (b.a c a) g ac C.1).mono ?_;rintro s ad ⟨Q,R,rfl,j,e,k,m⟩;have U:=k.g;have V:((b.a c a).g.aT:Int)<=65536:=by have:=k.lp;omega
  have D:=@af _ (⟨j,e,k,m⟩:_/\_/\_/\_);clear j e k m;by_cases u:(b.a c a).g.aT<65536
  .have v:((b.a c a).g.aT:Int)<65536:=by omega
   have w:=@af _ u;clear u;obtain⟨W,E⟩:=ah ((b.a c a).g.aT);rw[<-E]at U v;have X:=@af _ E;clear E V;go_wp2_with fail;have ag:dx ⟨F,W,Fr.dq⟩:=⟨by have:=w;have:=X;simp only;omega,Up ⟨rfl,rfl⟩⟩
   refine(Fx o t d l (b.a c a).g g ⟨F,W,Fr.dq⟩ ag ad D.2.2.1 Z).mono ?_;rintro s an ⟨rfl,ai,x,n⟩;have aj:=@af _ (⟨x,n⟩:_/\_);clear x n;go_wp2;go_ret;obtain⟨j,e,k,m⟩:=D;obtain⟨x,n⟩:=aj;have q:=(fG.b d g (((ae.a aa h).b _).drew)).a C.2;refine⟨_,ai,rfl,⟨Q,R,rfl,j.a n.c λf i p=>(e f i).2 p.a,λf i=>⟨UM q.c.size (e f i).1,λp=>(n.g f p).elim (e f i).2 λao=>by have:=j.b f i;omega⟩⟩,?_,(q.a m).a n⟩;unfold En.i;rw[Tl _ w,<-X];exact x
  .have v:((b.a c a).g.aT:Int)=65536:=by omega
   have w:=@af _ u;rw[v]at U;clear u V v;go_wp2;go_ret;obtain⟨j,e,k,m⟩:=D;have q:=(fG.b d g (((ae.a aa h).b _).drew)).a C.2;refine⟨_,g,rfl,⟨Q,R,rfl,j,λf i=>⟨UM q.c.size (e f i).1,(e f i).2⟩⟩,?_,q.a m⟩;unfold En.i;rw[Tm _ w];exact k
structure qf(g:World)(h i b:Nat)(f:List Nat):Prop where
 e:fE g h i f
 d:h<g.heap.size
 b:f.length<=b
 c:f.length<140737488355328
 a:∀j∈f,j<256
def FY(i j d e f b c)(a:qf c d e f b)(g:∀k,¬ie b k):
 Cr 116 #[P (S ⟨i,j,N⟩),L (S ⟨d,e,N⟩) b.length f] c (L N 0 0) λl=>ae aa c l:=by
 have h:=@af _ (EV d e f b c a.e a.d a.b a.c a.a g);clear a g;go_enter func116,ntmps116;go_wp2_with fail;refine h.mono ?_;rintro n o ⟨rfl,m⟩;clear h;go_wp2;go_ret;exact⟨rfl,m.b _⟩
def FW(i t a e f g j k l d h b)(m:bO b i t a e f g)(c:qf b j k l h)(n:ie h (mR ⟨F,d,Fr.dq⟩))(E:(d:Int)<65536)(o:(f.aA.length:Int)<1099511627000):
 Cr 116 #[P (S ⟨a,e,N⟩),L (S ⟨j,k,N⟩) h.length l] b (L N 0 0) λp=>∃q,bO p i t a e (f.h d) q/\fG b p a g q:=by
 have r:=@af _ (A7 j k l h b c.e c.d c.b c.c c.a _ n);have u:=@af _ m;have v:=@af _ o;clear m c n o;go_enter func116,ntmps116;go_wp2_with fail;refine r.mono ?_;rintro w x ⟨rfl,y⟩;clear r;simp only[mR];go_wp2_with fail;have s:ae aa b (x.alloc (.cells (fc F (d:Int) 0 0 0 F) 78)):=y.b _;refine(Kg i t a e f g d _ (u.a s λ_ _ z=>z) (by omega) v).mono ?_;rintro w G ⟨rfl,A,C,D⟩;go_wp2;go_ret;exact⟨rfl,A,C,(fG.b a g s).a D⟩
def FX(j t b g f h k l m d a i c)(s:bO c j t b g f h)(e:qf c k l m i)(u:ie i (mR ⟨T,d,a⟩))(A:(d:Int)<65536)(v:(f.aA.length:Int)<1099511627000):
 Calls prog 116 #[P (S ⟨b,g,N⟩),L (S ⟨k,l,N⟩) i.length m] c λn o=>∃p q,n= .returned p/\sZ c o b q p (f.q d a)/\bO o j t b g (f.i d a) q/\fG c o b h q:=by
 have w:=@af _ (A7 k l m i c e.e e.d e.b e.c e.a _ u);have C:=@af _ s;have D:=@af _ v;clear s e u v;go_enter func116,ntmps116;go_wp2_with fail;refine w.mono ?_;rintro n E ⟨rfl,G⟩;clear w;simp only[mR];go_wp2_with fail;have r:ae aa c (E.alloc (.cells (fc T (d:Int) (a.a:Int) (a.c:Int) (a.b:Int) a.d) 78)):=G.b _;refine(Lt j t b g f h d a _ (C.a r λ_ _ H=>H) A D).mono ?_;rintro n V ⟨p,K,rfl,⟨M,O,rfl,Q,x⟩,R,U⟩;go_wp2;go_ret;exact⟨_,K,rfl,⟨M,O,rfl,Q,λy z=>⟨UM r.size (x y z).1,(x y z).2⟩⟩,R,(fG.b b h r).a U⟩
end Go.Proofs.YtlfijfodklhplaaGreat
namespace Go.Proofs.YtlfijfodklhplaaGreat.Ghs
open bV
def aj{a:Type}(c:Nat->a)(d:Nat)(e:a):Nat->a:=λb=>if b=d then e else c b
def am{a:Type}(d:Nat->Nat->a)(e f:Nat)(g:a):Nat->Nat->a:=λb c=>if b=e/\c=f then g else d b c
structure St where
 aw:Nat->Bool
 bE:Nat->Nat
 eU:Nat->Nat
 cg:Nat->Bool
 se:Nat->Nat->Nat
 j6:Nat->Option Nat
 j5:Nat->Option Nat
 bw:Nat->Nat
 fh:Nat->Option Nat
 ip:Nat->Nat
 qK:Nat->Bool
 q:Nat->Nat->List bV
structure Gh where
 fr:Nat->Nat->Prop
 bB:Nat->Nat
 j4:Nat->Nat
 ph:Nat->Nat
 W:Nat->Nat
 bQ:Nat->Option Nat
 gV:Nat->Nat
structure Gs where
 Z:Nat->Prop
 be:Nat->Nat
 tg:Nat->Prop
 tk:Nat->Prop
 ps:Nat->Prop
structure Gr where
 n:Nat
 fg:Nat->Nat->Prop
 w:Nat->Nat->Nat
 iK:∀a b,fg a b->fg b a
 jN:∀a,¬fg a a
 lt:∀a b,fg a b->a<n
 ws:∀a b,w a b=w b a
 w1:∀a b,fg a b->1<=w a b/\w a b<=1000
 wd:∀a b c d,fg a b->fg c d->w a b=w c d->(a=c/\b=d)\/(a=d/\b=c)
 tP:Nat->Nat->Prop
 CK:∀(e:Nat->Prop)(a b:Nat),fg a b->e a->¬e b->(∀c d,fg c d->e c->¬e d->w a b<=w c d)->tP a b
def ci:List bV->List (Nat×Nat×Bool)
 |[]=>[]
 | .aL b c d::a=>(b,c,d)::ci a
 |_::a=>ci a
def sI(b:Nat×Nat):List (Nat×Nat×Bool)->Nat×Nat->Prop
 |[],a=>b=a
 |(c,d,_)::e,a=>b.1<c/\sI (c,d) e a
def cC:bV->Bool| .cW _ _=>T|_=>F
def dm:bV->Bool| .dG=>T| .dK=>T|_=>F
def dA:bV->Bool| .bG _=>T|_=>F
def eF:bV->Bool| .aL _ _ _=>T|_=>F
def dN:bV->Bool| .bH _=>T|_=>F
def jO:bV->Bool| .dO=>T|_=>F
def kS(b:Nat->Nat->List bV)(c d:Nat):List bV:=(b c d).filter λa=>dA a||eF a
def kR(b:Nat->Nat->List bV)(c d:Nat):List bV:=(b c d).filter λa=>dN a||eF a
def kT(b:Nat->Nat->List bV)(c d:Nat):List bV:=(b c d).filter λa=>cC a||dm a
def kX(a:Nat->Nat->List bV)(b c:Nat):List bV:=(a b c).filter jO
def mz(a:Nat->Nat->Nat)(b c:Nat):Prop:=a b c=1/\a c b≠1
def ji(a:Nat->Nat->Nat)(b c:Nat):Prop:=a b c=1/\a c b=1
def eV(a:Gh)(b c:Nat):Prop:=a.bQ b=S c/\a.bQ c=S b
def bY(a:Gh)(b c:Nat):Prop:=a.bQ c=S b/\a.bQ b≠S c
structure sH(V:Gr)(ae:Nat->Bool)(W ac:Nat->Nat)(Y:Nat->Nat->Nat)(k:Nat->Nat->List bV)(O:Gh):Prop where
 C:∀t z ag,ag∈k t z->V.fg t z/\ae t=T
 e:∀t z,Y t z≠0->V.fg t z/\ae t=T
 o:∀t,ae t=F->W t=0/\O.bB t=0/\O.bQ t=N/\O.ph t=2/\O.W t=0
 d:∀t,O.fr t t
 g:∀t z,O.fr t z->O.fr z t
 q:∀t z Q,O.fr t z->O.fr z Q->O.fr t Q
 c:∀t z,O.fr t z->O.bB t=O.bB z/\O.j4 t=O.j4 z/\O.ph t=O.ph z/\O.W t=O.W z
 j:∀t z,O.bB t=0->O.fr t z->t=z
 n:∀t,W t<=O.bB t
 v:∀t,W t=O.bB t->1<=O.bB t->ac t=O.j4 t
 D:∀t z,Y t z=2->O.fr t z
 E:∀t z,Y t z<=2
 b:∀t z,ji Y t z->O.fr t z/\(O.bQ t=S z\/O.bQ z=S t)
 a:∀t z,O.bQ t=S z->ji Y t z
 m:∀t z,mz Y t z->O.ph t=2/\O.bQ t=N/\¬O.fr t z/\bG (O.bB t)∈k t z/\V.w t z=O.W t/\O.bB t<=W z/\W t=O.bB t
 l:∀t z R,bG R∈k t z->Y t z=1/\(Y z t=1->eV O t z/\R+1=O.bB t/\W t=R/\W z=R)/\(Y z t≠1->R=O.bB t)
 p:∀t z,(k t z).countP dA<=1
 h:∀t z,eV O t z->O.ph t=0/\O.j4 t=V.w t z/\((W z=O.bB z/\ci (k t z)=[]/\∀R,bG R∉k z t)\/(W z+1=O.bB z/\ci (k t z)=[(O.bB z,O.j4 z,T)]/\∀R,bG R∉k z t)\/(W z+1=O.bB z/\ci (k t z)=[]/\bG (W z)∈k z t))
 s:∀t z Q U,eV O t z->eV O Q U->O.fr t Q->(t=Q/\z=U)\/(t=U/\z=Q)
 y:∀Q U,bY O Q U->ci (k U Q)=[]/\sI (W U,ac U) (ci (k Q U)) (W Q,ac Q)
 f:∀Q U R aa ab,aL R aa ab∈k Q U->O.bQ U=S Q/\R<=O.bB U/\(R=O.bB U->aa=O.j4 U)
 r:∀t z,O.bQ t=N->O.bQ z=N->O.fr t z->t=z
 i:∀t,O.ph t=0->1<=O.bB t/\O.bQ t≠N
 G:∀Q U,bY O Q U->O.gV Q<O.gV U
 w:∀z,1<=W z->∃X Z,V.fg X Z/\ji Y X Z/\ac z=V.w X Z/\O.fr z X
 A:∀Q U R aa ab,aL R aa ab∈k Q U->∃X Z,V.fg X Z/\ji Y X Z/\aa=V.w X Z/\O.fr U X
 M:∀z,1<=O.bB z->∃X Z,V.fg X Z/\ji Y X Z/\O.j4 z=V.w X Z/\O.fr z X
 u:∀t ad z,O.ph t≠0->O.fr t ad->V.fg ad z->¬O.fr ad z->O.W t<=V.w ad z
 x:∀t,t<V.n->∃R:List Nat,R.Nodup/\R.length=2 ^ O.bB t/\∀Q∈R,O.fr t Q/\Q<V.n
 H:∀t z,Y t z=1->V.tP t z\/V.tP z t
 K:∀t z ah af R aa ab,k t z=ah++aL R aa ab::af->∀ai,bG ai∉af
structure IB(K:Gr)(z:Nat->Nat)(w:Nat->Bool)(M:Nat->Option Nat)(A O:Nat->Nat)(k:Nat->Nat->List bV)(u:Gh)(v:Nat->Prop)(D:Nat->Nat):Prop where
 a:∀t,w t=T->u.ph t=0/\z t=u.bB t/\¬v t
 d:∀t,u.ph t=0->z t=u.bB t->w t=F->v t
 j:∀s r,u.ph s=0->bY u s r->v s->v r/\D s<=D r
 i:∀s r,u.ph s=0->bY u s r->¬v s->w s=F->¬v r
 p:∀s r y H,aL y H F∈k s r->u.ph r=0->y=u.bB r->v r
 q:∀s r y H,aL y H T∈k s r->u.ph r=0/\y=u.bB r/\¬v r/\(bY u s r->w s=T)
 g:∀t,w t=F->O t=0
 l:∀t C,u.ph t=0->v t->K.fg t C->¬u.fr t C->D t<=K.w t C
 e:∀t,u.ph t=0->z t=u.bB t->M t=u.bQ t
 n:∀t C,eV u t C->z t=u.bB t->w t=F->D t=A t
 b:∀s r x,bH x∈k r s->(u.ph r=0/\u.bQ r=S s/\z r=u.bB r/\w r=F/\x=A r/\D r=A r/\(bY u s r->w s=T)/\∀E G,k r s=E++bH x::G->ci G=[])\/(bY u r s/\M s=S r/\w s=F/\x<A s/\x<1001/\(z s=u.bB s->z r=u.bB r/\x=A r/\u.ph s≠0)/\∀E G,k r s=E++bH x::G->ci E=[])
 c:∀s r,(k r s).countP dN<=1
 m:∀s r,w s=T->bY u s r->v r->(∀x,bH x∉k r s)->A s<=D r
 h:∀s,w s=T->∃y:List Nat,y.Nodup/\y.length=O s/\∀r,r∈y↔(bY u s r/\(¬v r\/∃x,bH x∈k r s))
 f:∀r,A r<=1001
 o:∀t C,eV u t C->z t≠u.bB t->¬v t
structure IC(o:Gr)(q u:Nat->Nat)(v:Nat->Bool)(m:Nat->Nat->Nat)(w:Nat->Nat)(l:Nat->Option Nat)(k:Nat->Nat->List bV)(p:Gh)(r:Nat->Prop):Prop where
 a:∀i,v i=F->l i=N/\¬r i
 c:∀i j,l i=S j->o.fg i j/\(m i j=0\/(m i j=1/\m j i=1/\l j≠S i))/\∀n,o.fg i n->m i n=0->o.w i j<=o.w i n
 h:∀i n,v i=T->l i=N->¬r i->o.fg i n->m i n=0->w i<=o.w i n
 g:∀i,r i->l i=N
 b:∀i j s t,cW s t∈k i j->(l i=S j/\s=q i/\t=u i)\/(l j=S i/\l i≠S j/\p.fr i j/\t=u j/\s<=q j/\m i j≠0)
 e:∀i j,dG∈k j i->l i=S j/\¬p.fr i j/\p.bB i<=q j
 f:∀i j,dK∈k j i->l i=S j/\p.fr i j/\m j i≠0
 d:∀i j,l i=S j->(k i j).countP cC+(k j i).countP dm+(if l j=S i then 0 else (k j i).countP cC)=1
structure IA(m:Gr)(p:Nat->Bool)(l:Nat->Nat)(q:Nat->Bool)(r:Nat->Nat->Nat)(o:Nat->Option Nat)(j:Nat->Nat)(s:Nat->Bool)(k:Nat->Nat->List bV)(f:Gh)(t u:Nat->Prop):Prop where
 c:∀e,1<=f.bB e->l e=f.bB e->f.ph e<=1->j e<1001->∃g,o e=S g/\m.fg e g/\(u e\/(r e g=0/\j e=m.w e g/\¬f.fr e g/\f.bB e<=l g)\/(bY f e g/\l g=f.bB g/\q g=F/\j g=j e))
 b:∀h,t h->p h=T/\f.ph h=1/\f.bQ h=N/\l h=f.bB h/\(1<=f.bB h->j h=f.W h/\j h<1001)/\∀g,dO∉k h g
 a:∀e i,dO∈k e i->f.ph e=1/\f.bQ e=N/\o e=S i/\bY f e i/\l i=f.bB i/\j i=f.W i/\j i<1001/\(k e i).countP jO=1
 d:∀h,s h=T->∀n g,f.fr h n->m.fg n g->f.fr n g
structure zH(n:Nat->Option Nat)(m:Nat->Nat)(k:Nat->Nat->List bV)(e:Gh)(o g:Nat->Prop):Prop where
 b:∀f,g f->e.ph f=1
 d:∀f h,¬g f->e.ph f=1->e.bQ f≠N->bY e f h->¬g h
 a:∀i,o i->e.ph i=1/\¬g i/\∀h,n i=S h->bY e i h->¬g h
 c:∀j l,dO∈k j l->e.ph j=1/\¬g l/\m j=m l
structure cL(h:Gr)(f:St)(i:Gh)(g:Gs):Prop where
 e:∀j k l,l∈f.q j k->h.fg j k/\f.aw j=T
 a:sH h f.aw f.bE f.eU f.se (kS f.q) i
 b:IB h f.bE f.cg f.j6 f.bw f.ip (kR f.q) i g.Z g.be
 c:IC h f.bE f.eU f.cg f.se f.bw f.fh (kT f.q) i g.tg
 d:IA h f.aw f.bE f.cg f.se f.j5 f.bw f.qK (kX f.q) i g.tk g.ps
 n:zH f.j5 f.bw (kX f.q) i g.tk g.ps
def cS{c}(d a)(b:c):aj d a b a=b:=by simp[aj]
def dW{d}(b){c a}(e:d)(f:a≠c):aj b c e a=b a:=by simp[aj,f]
def xr(a d)(e f:Nat)(g:List bV)(h:g.filter a=(d e f).filter a):(λb c=>(am d e f g b c).filter a)=λb c=>(d b c).filter a:=by funext b c;simp only[am];split;grind;rfl
def zZ(b c d e)(f:e.filter (λa=>dA a||eF a)=(b c d).filter λa=>dA a||eF a):kS (am b c d e)=kS b:=xr _ b c d e f
def zY(b c d e)(f:e.filter (λa=>dN a||eF a)=(b c d).filter λa=>dN a||eF a):kR (am b c d e)=kR b:=xr _ b c d e f
def Dc(b c d e)(f:e.filter (λa=>cC a||dm a)=(b c d).filter λa=>cC a||dm a):kT (am b c d e)=kT b:=xr _ b c d e f
def Ac(a b c d)(e:d.filter jO=(a b c).filter jO):kX (am a b c d)=kX a:=xr _ a b c d e
def Ab(a b c d):kT (am a b c d)=am (kT a) b c (d.filter λe=>cC e||dm e):=by funext f g;simp only[kT,am];split<;>rfl
def pY{h:Gr}{c:St}(i:∀a b d,d∈c.q a b->h.fg a b/\c.aw a=T){e f j k d}(n:c.q e f=j++d::k):∀a b d,d∈am c.q e f (j++k) a b->h.fg a b/\c.aw a=T:=by intro a b l g;simp only[am]at g;split at g;rename_i m;rw[m.1,m.2];refine i e f l ?_;grind;exact i a b l g
def gG(a:Nat->Nat->List bV)(b c:Nat)(d:bV):Nat->Nat->List bV:=am a b c (a b c++[d])
def xq(a){b:Nat->Nat->List bV}{c d e f g}(h:b c d=e++g::f)(i:a g=F):(e++f).filter a=(b c d).filter a:=by grind
def xp(a)(b:Nat->Nat->List bV)(c d){e}(f:a e=F):(b c d++[e]).filter a=(b c d).filter a:=by simp[f]
def vu{a c d b}(e:(dA b||eF b)=F):kS (gG a c d b)=kS a:=zZ _ _ _ _ (xp _ a c d e)
def tW{a c d b}(e:(dN b||eF b)=F):kR (gG a c d b)=kR a:=zY _ _ _ _ (xp _ a c d e)
def tX{a c d b}(e:(cC b||dm b)=F):kT (gG a c d b)=kT a:=Dc _ _ _ _ (xp _ a c d e)
def lV{a b c d}(e:jO d=F):kX (gG a b c d)=kX a:=Ac _ _ _ _ (xp _ a b c e)
def rN{q b c d e a}(f:q b c=d++a::e)(g:(dA a||eF a)=F):kS (am q b c (d++e))=kS q:=zZ _ _ _ _ (xq _ f g)
def sJ{a c d e f b}(g:a c d=e++b::f)(h:(dN b||eF b)=F):kR (am a c d (e++f))=kR a:=zY _ _ _ _ (xq _ g h)
def tY{q b c d e a}(f:q b c=d++a::e)(g:(cC a||dm a)=F):kT (am q b c (d++e))=kT q:=Dc _ _ _ _ (xq _ f g)
def kZ{q a b c d e}(f:q a b=c++e::d)(g:jO e=F):kX (am q a b (c++d))=kX q:=Ac _ _ _ _ (xq _ f g)
def Db{b c d a}(e:(cC a||dm a)=T):kT (gG b c d a)=am (kT b) c d (kT b c d++[a]):=by unfold gG;rw[Ab];congr 1;simp[kT,e]
def Aa{b c d f g a}(h:b c d=f++a::g)(k:(cC a||dm a)=T):∃i,kT (am b c d (f++g))=am (kT b) c d i/\(∀j,j∈i->j∈kT b c d)/\a∈kT b c d/\(∀e,(kT b c d).countP e=i.countP e+(if e a=T then 1 else 0)):=by refine⟨(f++g).filter λa=>cC a||dm a,Ab b c d _,?_,?_,?_⟩;intro j l;simp only[kT,h];simp at l|-;grind;simp only[kT,h];simp at k|-;grind;intro e;simp only[kT,h,U2,U0,Vr,k,VR,VN];omega
def qN{c:Gr}{d:St}{i}(k:∀a b e,e∈i a b->c.fg a b/\d.aw a=T){f j e}(l:c.fg f j)(m:d.aw f=T):∀a b g,g∈gG i f j e a b->c.fg a b/\d.aw a=T:=by intro a b g h;simp only[gG,am]at h;split at h;grind;exact k a b g h
def qL{b}{c:List bV}(f:c.countP b=0):∀a,a∈c->b a=F:=λa d=>by cases e:b a;rfl;have:=WP.2 ⟨_,d,e⟩;omega
def vr{d b e f}(c:cL d b e f){a}(g:b.cg a=T):b.aw a=T:=by cases h:b.aw a;have:=(c.a.o a h).2.2.2.1;have:=(c.b.a a g).1;omega;rfl
def pZ{c a d e}(f:cL c a d e){b v}(g:a.fh b=S v):a.cg b=T:=by cases h:a.cg b;have:=(f.c.a b h).1;rw[g]at this;cases this;rfl
def sH.R{i j o p d k l}(a:sH i j o p d k l){e f}(t:l.fr e f)(u:i.fg e f)(v:j e=T)(w:d e f=0):sH i j o p (am d e f 2) k l:=by
 have g:∀b c,ji (am d e f 2) b c↔ji d b c:=by intro b c;simp only[ji,am];grind
 have q:∀b c,mz (am d e f 2) b c↔mz d b c:=by intro b c;simp only[mz,am];grind
 have h:∀b c,am d e f 2 b c=1↔d b c=1:=by intro b c;simp only[am];grind
 have:=a.e;have:=a.D;have:=a.E;refine⟨a.C,?_,a.o,a.d,a.g,a.q,a.c,a.j,a.n,a.v,?_,?_,?_,?_,?_,?_,a.p,a.h,a.s,a.y,a.f,a.r,a.i,a.G,?_,?_,?_,a.u,a.x,?_,a.K⟩;intro b c;simp only[am];grind;intro b c;simp only[am];grind;intro b c;simp only[am];grind;intro b c;rw[g];exact a.b b c;intro b c;rw[g];exact a.a b c;intro b c;rw[q];exact a.m b c;intro b c m n;rw[h,h];have:=a.l b c m n;simp only[ne_eq,h];exact this;intro b;simp only[g];exact a.w b;intro b c m r s n;simp only[g];exact a.A b c m r s n;intro b;simp only[g];exact a.M b;intro b c;rw[h];exact a.H b c
def zH.e{g h k c i j}(d:zH g h k c i j){a}(s:c.ph a=0)(o:∀b l,dO∈k b l->c.ph l=1)(p w'):zH (aj g a p) (aj h a w') k c i j:=by
 refine⟨d.b,d.d,?_,?_⟩;intro m q;have:=d.a m q;have e:m≠a:=by rintro rfl;omega
 simp only[aj,Us e];exact this;intro b f n;have:=d.c b f n;have t:=o b f n;have e:b≠a:=by rintro rfl;omega
 have r:f≠a:=by rintro rfl;omega
 simp only[aj,Us e,Us r];exact this
def vx{f d e g}(c:cL f d e g):∀b a,dO∈kX d.q b a->e.ph a=1:=λb a h=>by have i:=c.d.a b a h;have j:=(c.a.b a b (c.a.a a b i.2.2.2.1.1)).1;have k:=c.a.c a b j;omega
def IV{o f O Q}(R:cL o f O Q){h a p r}(s:f.q h a=p++dG::r)(A C)(ak:(o.w a h<f.bw a/\A=o.w a h/\C=S h)\/(¬o.w a h<f.bw a/\A=f.bw a/\C=f.j5 a)):
 cL o {f with fh:=aj f.fh a N,bw:=aj f.bw a A,j5:=aj f.j5 a C,q:=am f.q h a (p++r)} O Q:=by
 have al:=vx R;obtain⟨an,u,i,j,v,ao⟩:=R;have D:kT f.q h a=p.filter (λd=>cC d||dm d)++dG::r.filter (λd=>cC d||dm d):=by simp[kT,s,cC,dm]
 have k:dG∈kT f.q h a:=by rw[D];simp
 obtain⟨E,ap,aH⟩:=j.e a h k;obtain⟨aI,aq,ar⟩:=j.c a h E;have aJ:f.se a h=0:=by obtain c|c:=aq;exact c;exact(ap (u.b a h ⟨c.1,c.2.1⟩).1).elim
 have au:=j.d a h E;have av:f.cg a=T:=by cases c:f.cg a;have:=(j.a a c).1;rw[E]at this;cases this;rfl
 have aw:=i.a a av;have aK:(kT f.q h a).countP dm=(p.filter λd=>cC d||dm d).countP dm+1+(r.filter λd=>cC d||dm d).countP dm:=by rw[D,U0,VN,UG (show dm dG=T from rfl)];omega
 refine⟨pY an s,?_,?_,?_,?_,?_⟩;rw[zZ];exact u;rw[s];simp[dA,eF];rw[zY];dsimp only;refine⟨i.a,i.d,i.j,i.i,i.p,i.q,i.g,i.l,i.e,?_,?_,i.c,?_,i.h,?_,i.o⟩;intro y e ax ay az;rw[dW];exact i.n y e ax ay az;grind;intro e b aA w;obtain⟨G,U,V,W,X,Y,Z,aL⟩|⟨G,U,V,W,X,Y,Z⟩:=i.b e b aA w;have:b≠a:=by grind
 simp only[dW _ _ this];grind;right;have:e≠a:=by grind
 have t:=u.c e b ((u.b e b (u.a e b G.1)).1);simp only[dW _ _ this];refine⟨G,U,V,W,X,?_,Z⟩;intro c;have:b≠a:=by grind
 simp only[dW _ _ this];exact Y c;intro e b aB aC g w;have:=i.m e b aB aC g w;by_cases c:e=a;subst c;simp only[cS];omega;simp only[dW _ _ c];exact this;intro b;by_cases c:b=a;subst c;simp only[cS];have:=i.f b;omega;simp only[dW _ _ c];exact i.f b;rw[s];simp[dN,eF];rw[Ab];dsimp only;have aM:∀m n,cW m n∉kT f.q a h:=λm n k=>by have:=WP.2 ⟨_,k,(show cC (cW m n)=T from rfl)⟩;omega
 have aN:(p.filter (λd=>cC d||dm d)++r.filter λd=>cC d||dm d).countP dm=0:=by rw[U0];omega
 have aO:(p.filter (λd=>cC d||dm d)++r.filter λd=>cC d||dm d).countP cC=(kT f.q h a).countP cC:=by rw[D,U0,U0,VN,Us (show ¬cC dG=T by decide)];omega
 have aP:f.fh h≠S a->∀m n,cW m n∉kT f.q h a:=λc m n k=>by have:=WP.2 ⟨_,k,(show cC (cW m n)=T from rfl)⟩;rw[Us c]at au;omega
 refine⟨?_,?_,?_,?_,?_,?_,?_,?_⟩;intro b g;by_cases c:b=a;grind;rw[dW _ _ c];exact j.a b g;intro b e g;by_cases c:b=a;subst c;rw[cS]at g;cases g;rw[dW _ _ c]at g;have:=j.c b e g;simp only[aj];grind;intro b e g aa aD ab ac;by_cases c:b=a;subst c;rw[cS];have:=ar e ab ac;omega;rw[dW _ _ c]at aa|-;exact j.h b e g aa aD ab ac;intro b g;by_cases c:b=a;subst c;rw[cS];rw[dW _ _ c];exact j.g b g;intro b e m n k;simp only[am]at k;simp only[aj];grind [j.b b e m n];intro b e k;simp only[am]at k;simp only[aj];grind [j.e b e,dm];intro b e k;simp only[am]at k;simp only[aj];grind [j.f b e,dm];intro b e g;have aE:b≠a:=by rintro rfl;rw[cS]at g;cases g
 rw[dW _ _ aE]at g;have ad:=j.d b e g;simp only[am,aj];grind;rw[Ac];refine⟨?_,?_,?_,v.d⟩;intro b ae af ag t;by_cases c:b=a;subst c;simp only[cS]at t|-;obtain⟨aF,H,ah⟩|⟨aF,H,ah⟩:=ak;grind;rw[H]at t;obtain⟨x,K,z,l⟩:=v.c b ae af ag t;refine⟨x,by rw[ah];exact K,z,?_⟩;obtain l|l|l:=l;grind;grind;right;right;have:x≠b:=by rintro rfl;exact o.jN _ z
 rw[dW _ _ this,H];exact l;simp only[dW _ _ c]at t|-;obtain⟨x,K,z,l⟩:=v.c b ae af ag t;refine⟨x,K,z,?_⟩;obtain l|l|l:=l;grind;grind;right;right;have:x≠a:=by grind
 rw[dW _ _ this];exact l;intro y aG;have:=v.b y aG;have M:y≠a:=by grind
 simp only[dW _ _ M];exact this;intro b ai w;have ad:=v.a b ai w;have M:ai≠a:=by grind
 have g:b≠a:=by grind
 simp only[dW _ _ M,dW _ _ g];exact ad;rw[s];simp[jO];rw[kZ s rfl];exact ao.e aw.1 al _ _
def I2{u c v s}(p:cL u c v s){e b w x}(k:c.q e b=w++dK::x)(l)(m:(c.se b e=0/\l=am c.se b e 2)\/(c.se b e≠0/\l=c.se)):
 cL u {c with fh:=aj c.fh b N,se:=l,q:=am c.q e b (w++x)} v {s with tg:=λd=>d=b\/s.tg d}:=by
 obtain⟨D,E,ak,j,y⟩:=Aa k (show (cC dK||dm dK)=T from rfl);obtain⟨t,G,al⟩:=p.c.f b e j;have H:=vr p (pZ p t);obtain⟨K,z,M,i,r,O⟩:=p;obtain⟨Q,an,ao⟩:=i.c b e t;have R:=i.d b e t;have U:=y dm;have V:=y cC;simp only[show dm dK=T from rfl,show cC dK=F from rfl,VR,Xi,V7]at U V;refine⟨pY K k,?_,?_,?_,?_,by rw[kZ k rfl];exact O⟩;rw[rN k rfl];obtain⟨n,rfl⟩|⟨_,rfl⟩:=m;exact z.R G Q H n;exact z;rw[sJ k rfl];exact M;rw[E];dsimp only;have ap:=qL (show (kT c.q b e).countP cC=0 by omega);have aq:=qL (show D.countP dm=0 by omega);have ar:c.fh e≠S b->∀A,A∈kT c.q e b->cC A=F:=λn=>qL (by rw[Us n]at R;omega);have W:∀f g,l f g=0->c.se f g=0:=λf g=>by obtain⟨_,rfl⟩|⟨_,rfl⟩:=m<;>(try simp only[am])<;>grind
 have X:∀f g,¬(f=b/\g=e)->l f g=c.se f g:=λf g=>by obtain⟨_,rfl⟩|⟨_,rfl⟩:=m<;>(try simp only[am])<;>grind
 refine⟨?_,?_,?_,?_,?_,?_,?_,?_⟩;intro a h;simp only[aj];have:=i.a a h;grind;intro a d h;have o:a≠b:=by rintro rfl;simp[aj]at h
 rw[dW _ _ o]at h;have:=i.c a d h;simp only[aj];grind;intro a d h C Y Z m;have o:a≠b:=by omega
 rw[dW _ _ o]at C;exact i.h a d h C (λn=>Y (Up n)) Z (W _ _ m);intro a h;simp only[aj];have:=i.g a;grind;intro a d aa ab j;have:=i.b a d aa ab;simp only[am]at j;simp only[aj];grind [cC];intro a d j;have:=i.e a d;simp only[am]at j;simp only[aj];grind [dm];intro a d j;have:=i.f a d;simp only[am]at j;simp only[aj];grind;intro a d h;have ac:a≠b:=by rintro rfl;rw[cS]at h;cases h
 rw[dW _ _ ac]at h;have au:=i.d a d h;simp only[am,aj];grind;rw[kZ k rfl];refine⟨?_,r.b,r.a,r.d⟩;intro a o ad ae af;obtain⟨ag,ah,ai,av⟩:=r.c a o ad ae af;refine⟨ag,ah,ai,?_⟩;have X:∀f g,¬(f=b/\g=e)->l f g=c.se f g:=λf g=>by obtain⟨_,rfl⟩|⟨_,rfl⟩:=m<;>(try simp only[am])<;>grind
 grind
def Ja{j b p m}(n:cL j b p m){a k}(r:m.tg a)(s:j.fg a k)(t:b.se a k=0)(H:∀c,j.fg a c->b.se a c=0->j.w a k<=j.w a c):
 cL j {b with fh:=aj b.fh a (S k),q:=gG b.q a k (cW (b.bE a) (b.eU a))} p {m with tg:=λc=>c≠a/\m.tg c}:=by
 have K:=n.c.g a r;have u:b.cg a=T:=by cases o:b.cg a;exact((n.c.a a o).2 r).elim;rfl
 have v:=vr n u;obtain⟨w,x,y,f,z,A⟩:=n;refine⟨qN w s v,?_,?_,?_,?_,by rw[lV rfl];exact A⟩;rw[vu rfl];exact x;rw[tW rfl];exact y;rw[Db rfl];have C:∀g h,cW g h∉kT b.q a k:=λg h e=>by have:=f.b a k g h e;grind
 have D:b.fh k≠S a->∀g h,cW g h∉kT b.q k a:=λo g h e=>by have:=f.b k a g h e;grind
 have E:(kT b.q a k).countP cC=0:=V1.2 λl e=>by cases l<;>simp[cC];exact C _ _ e
 have M:(kT b.q k a).countP dm=0:=V1.2 λl e=>by have O:=f.e a k;have Q:=f.f a k;cases l<;>simp[dm]<;>grind
 have R:b.fh k≠S a->(kT b.q k a).countP cC=0:=λo=>V1.2 λl e=>by cases l<;>simp[cC];exact D o _ _ e
 refine⟨?_,?_,?_,?_,?_,?_,?_,?_⟩;intro d i;simp only[aj];have:=f.a d i;grind;intro d c i;simp only[aj]at i|-;have:=f.c d c;grind;intro d c i G U V W;simp only[aj]at G;have:=f.h d c;grind;intro d i;simp only[aj];have:=f.g d;grind;intro d c g h e;have:=f.b d c g h;simp only[am]at e;simp only[aj];grind;intro d c e;have:=f.e d c;simp only[am]at e;simp only[aj];grind;intro d c e;have:=f.f d c;simp only[am]at e;simp only[aj];grind;intro d c i;have t:=f.d d c;have X:(kT b.q a k++[cW (b.bE a) (b.eU a)]).countP cC=1:=by rw[U0,E];rfl
 have Y:(kT b.q a k++[cW (b.bE a) (b.eU a)]).countP dm=(kT b.q a k).countP dm:=by rw[U0];rfl
 simp only[aj]at i;simp only[am,aj];grind;rw[lV rfl];exact z
def Jb{f g j h}(k:cL f g j h){e}(v:∀b,f.fg e b->g.se e b≠0):
 cL f g j {h with tg:=λb=>b≠e/\h.tg b}:=by
 obtain⟨l,m,n,a,o,p⟩:=k;refine⟨l,m,n,⟨λc d=>⟨(a.a c d).1,λi=>(a.a c d).2 i.2⟩,a.c,?_,λc d=>a.g c d.2,a.b,a.e,a.f,a.d⟩,o,p⟩;intro c b d q r s t;by_cases i:c=e;grind;exact a.h c b d q (λu=>r ⟨i,u⟩) s t
def De{c a b h i d f}(k:a≠b)(l:c a b=h++d::i)(m:(cC d||dm d)=T)(n:(cC f||dm f)=T):∃e,kT (gG (am c a b (h++i)) b a f)=am (am (kT c) a b e) b a (kT c b a++[f])/\(∀j,j∈e->j∈kT c a b)/\d∈kT c a b/\(∀g,(kT c a b).countP g=e.countP g+(if g d=T then 1 else 0)):=by obtain⟨e,o,p,q,r⟩:=Aa l m;refine⟨e,?_,p,q,r⟩;rw[Db n,o];simp[am,k.symm]
def I7{l c o p}(m:cL l c o p){a b d e r s}(g:c.q b a=r++cW d e::s)(v:c.aw a=T)(Q:d<=c.bE a)(R:e≠c.eU a):
 cL l {c with q:=gG (am c.q b a (r++s)) a b dG} o p:=by
 have w:=(m.e b a (cW d e) (by rw[g];simp)).1;have x:b≠a:=by rintro rfl;exact l.jN _ w
 obtain⟨U,y,V,h,t⟩:=De x g (show (cC (cW d e)||dm (cW d e))=T from rfl) (show (cC dG||dm dG)=T from rfl);have W:=m.c.b b a d e h;have n:c.fh b=S a/\d=c.bE b/\e=c.eU b:=by grind
 obtain⟨n,X,Y⟩:=n;have z:=pZ m n;obtain⟨A,k,u,f,C,D⟩:=m;have E:=u.a b z;have Z:=k.i b E.1;have aa:¬o.fr b a:=λG=>by have ab:=k.c b a G;have ac:=k.n a;have ad:=k.v b;have ae:=k.v a;grind
 obtain⟨H,af,ag⟩:=f.c b a n;have K:=t dm;have M:=t cC;simp only[show dm (cW d e)=F from rfl,show cC (cW d e)=T from rfl,VR,Xi,V7]at K M;refine⟨qN (pY A g) (l.iK _ _ H) v,?_,?_,?_,?_,by rw[lV rfl,kZ g rfl];exact D⟩;rw[vu rfl,rN g rfl];exact k;rw[tW rfl,sJ g rfl];exact u;rw[y];have ah:(kT c.q a b++[dG]).countP cC=(kT c.q a b).countP cC:=by rw[U0];rfl
 have ai:(kT c.q a b++[dG]).countP dm=(kT c.q a b).countP dm+1:=by rw[U0];rfl
 refine⟨f.a,f.c,f.h,f.g,?_,?_,?_,?_⟩;intro i j d e h;have:=f.b i j d e;simp only[am]at h;grind [cC];intro i j h;have:=f.e i j;simp only[am]at h;grind;intro i j h;have:=f.f i j;simp only[am]at h;grind;intro i j O;have aj:=f.d i j O;simp only[am];grind;rw[lV rfl,kZ g rfl];exact C
def sH.V{f j d e l k g}(a:sH f j d e l k g){b c}(m:1<=d b)(n:1<=d c)(o:e b=e c):g.fr b c:=by obtain⟨h,i,p,q,r,w⟩:=a.w b m;obtain⟨s,t,u,x,v,y⟩:=a.w c n;have z:=f.wd h i s t p u (by rw[<-r,<-v,o]);have A:=(a.b h i q).1;have C:=a.g;have D:=a.q;grind
def I8{p b v w}(s:cL p b v w){c a h i x y}(k:b.q a c=x++cW h i::y)(z:b.aw c=T)(ao:h<=b.bE c)(G:i=b.eU c)(ap:b.fh c≠S a)(l)(n:(b.se c a=0/\l=am b.se c a 2)\/(b.se c a≠0/\l=b.se)):
 cL p {b with se:=l,q:=gG (am b.q a c (x++y)) c a dK} v w:=by
 have H:=(s.e a c (cW h i) (by rw[k];simp)).1;have K:a≠c:=by rintro rfl;exact p.jN _ H
 obtain⟨aq,M,ar,m,A⟩:=De K k (show (cC (cW h i)||dm (cW h i))=T from rfl) (show (cC dK||dm dK)=T from rfl);have C:=s.c.b a c h i m;have t:b.fh a=S c/\h=b.bE a/\i=b.eU a:=by grind
 obtain⟨t,au,O⟩:=t;have Q:=pZ s t;obtain⟨R,o,D,j,u,U⟩:=s;have V:=D.a a Q;have av:=o.i a V.1;have W:v.fr a c:=o.V (by omega) (by omega) (by rw[<-O,G]);obtain⟨E,aw,ax⟩:=j.c a c t;have X:=A dm;have Y:=A cC;simp only[show dm (cW h i)=F from rfl,show cC (cW h i)=T from rfl,VR,Xi,V7]at X Y;have r:∀e f,l e f=0->b.se e f=0:=by intro e f;obtain⟨_,rfl⟩|⟨_,rfl⟩:=n<;>(try simp only[am])<;>grind
 have Z:∀e f,b.se e f=0->¬(e=c/\f=a)->l e f=0:=by intro e f;obtain⟨_,rfl⟩|⟨_,rfl⟩:=n<;>(try simp only[am])<;>grind
 have ay:l c a≠0:=by obtain⟨_,rfl⟩|⟨_,rfl⟩:=n<;>(try simp only[am])<;>grind
 refine⟨qN (pY R k) (p.iK _ _ E) z,?_,?_,?_,?_,by rw[lV rfl,kZ k rfl];exact U⟩;rw[vu rfl,rN k rfl];obtain⟨aa,rfl⟩|⟨_,rfl⟩:=n;exact o.R (o.g _ _ W) (p.iK _ _ E) z aa;exact o;rw[tW rfl,sJ k rfl];exact D;rw[M];have az:(kT b.q c a++[dK]).countP cC=(kT b.q c a).countP cC:=by rw[U0];rfl
 have aA:(kT b.q c a++[dK]).countP dm=(kT b.q c a).countP dm+1:=by rw[U0];rfl
 refine⟨j.a,?_,?_,j.g,?_,?_,?_,?_⟩;intro d g ab;have:=j.c d g ab;have aB:∀e f,b.se e f=1->l e f=1:=by intro e f;obtain⟨_,rfl⟩|⟨_,rfl⟩:=n<;>(try simp only[am])<;>grind
 grind;intro d g ac ad ae af ag;exact j.h d g ac ad ae af (r _ _ ag);intro d g h i m;have:=j.b d g h i;have aC:=r d g;simp only[am]at m;clear n Z r;grind [cC];intro d g m;have:=j.e d g;simp only[am]at m;grind;intro d g m;have:=j.f d g;simp only[am]at m;grind;intro d g r;have aD:=j.d d g r;simp only[am];grind;rw[lV rfl,kZ k rfl];refine⟨?_,u.b,u.a,u.d⟩;intro d ah ai aj C;obtain⟨ak,al,an,aE⟩:=u.c d ah ai aj C;refine⟨ak,al,an,?_⟩;have aF:=o.g;grind
def I9{E c y p}(r:cL E c y p){a b k l G H}(m:c.q b a=G++cW k l::H)(aE:k<=c.bE a)(Z:l=c.eU a)(z:c.fh a=S b)(n)(s:(c.se a b=0/\n=am c.se a b 2)\/(c.se a b≠0/\n=c.se)):
 cL E {c with se:=n,fh:=aj c.fh a N,q:=am c.q b a (G++H)} y {p with tg:=λe=>e=a\/p.tg e}:=by
 have aF:=(r.e b a (cW k l) (by rw[m];simp)).1;obtain⟨aa,ab,aG,t,K⟩:=Aa m (show (cC (cW k l)||dm (cW k l))=T from rfl);have A:=r.c.b b a k l t;have M:=pZ r z;have ac:=vr r M;have O:c.fh b=S a->c.cg b=T:=pZ r;obtain⟨ad,o,v,f,w,ae⟩:=r;have aH:=v.a a M;have Q:y.fr b a:=by obtain⟨R,af,C⟩|⟨R,af,C,_⟩:=A;have U:=v.a b (O R);have aI:=o.i b U.1;exact o.V (by omega) (by omega) (by rw[<-C,Z]);exact C
 obtain⟨ag,aJ,aK⟩:=f.c a b z;have aL:=f.d a b z;have ah:=K dm;have ai:=K cC;simp only[show dm (cW k l)=F from rfl,show cC (cW k l)=T from rfl,VR,Xi,V7]at ah ai;have aM:=o.c b a Q;have aN:=o.g;have aO:∀g h,n g h=0->c.se g h=0:=λg h=>by obtain⟨_,rfl⟩|⟨_,rfl⟩:=s<;>(try simp only[am])<;>grind
 have D:∀g h,¬(g=a/\h=b)->n g h=c.se g h:=λg h=>by obtain⟨_,rfl⟩|⟨_,rfl⟩:=s<;>(try simp only[am])<;>grind
 have V:∀g h,c.se g h=1->n g h=1:=λg h=>by obtain⟨_,rfl⟩|⟨_,rfl⟩:=s<;>(try simp only[am])<;>grind
 have aP:n a b≠0:=by obtain⟨_,rfl⟩|⟨_,rfl⟩:=s<;>(try simp only[am])<;>grind
 refine⟨pY ad m,?_,?_,?_,?_,by rw[kZ m rfl];exact ae⟩;rw[rN m rfl];obtain⟨i,rfl⟩|⟨_,rfl⟩:=s;exact o.R (o.g _ _ Q) ag ac i;exact o;rw[sJ m rfl];exact v;rw[ab];dsimp only;have aQ:c.fh b=S a->(kT c.q a b).countP cC=1/\(kT c.q b a).countP cC=1:=λi=>by
  have W:=f.d b a i;have aR:(kT c.q b a).countP dm=0:=V1.2 λx t=>by
   have aS:=f.e a b;have aT:=f.f a b;have aU:c.se b a=0:=by obtain p|p:=(f.c b a i).2.1;exact p;grind
   cases x<;>simp[dm]<;>grind
  grind
 have ak:(kT c.q b a).countP cC=1/\(kT c.q b a).countP dm=0/\(c.fh b≠S a->(kT c.q a b).countP cC=0):=by by_cases i:c.fh b=S a;grind;grind
 have al:=qL (show aa.countP cC=0 by omega);have an:c.fh b≠S a->∀x,x∈kT c.q a b->cC x=F:=λi=>qL (ak.2.2 i);have aV:c.fh b=S a->c.eU a=c.eU b/\c.bE a<=c.bE b:=λi=>by have U:=v.a b (O i);grind
 refine⟨?_,?_,?_,?_,?_,?_,?_,?_⟩;intro d j;simp only[aj];have:=f.a d j;grind;intro d e j;simp only[aj]at j|-;have:=f.c d e;grind;intro d e j ao aW aX s;simp only[aj]at ao;have:=f.h d e;grind;intro d j;simp only[aj];have:=f.g d;grind;intro d e ap aq u;have ar:=f.b d e ap aq;simp only[am]at u;simp only[aj];by_cases X:d=b/\e=a;rw[UG X]at u;have:=al _ u;simp[cC]at this;rw[Us X]at u;have au:=ar u;by_cases V:d=a;subst V;obtain⟨W,av,aw⟩|⟨W,av,aw⟩:=au;have:e=b:=by grind
 subst this;by_cases ax:c.fh e=S d;grind;have:=an ax _ u;simp[cC]at this;grind;grind;intro d e t;have:=f.e d e;simp only[am]at t;simp only[aj];grind;intro d e t;have:=f.f d e;simp only[am]at t;simp only[aj];grind [dm];intro d e j;have ay:d≠a:=by rintro rfl;simp[aj]at j
 rw[dW _ _ ay]at j;have aY:=f.d d e j;simp only[am,aj];by_cases D:d=b/\e=a;obtain⟨rfl,rfl⟩:=D;grind;grind;rw[kZ m rfl];refine⟨?_,w.b,w.a,w.d⟩;intro d az aA aB A;obtain⟨Y,aC,aD,aZ⟩:=w.c d az aA aB A;refine⟨Y,aC,aD,?_⟩;have:=D d Y;grind
def C8(a b c d):kR (am a b c d)=am (kR a) b c (d.filter λe=>dN e||eF e):=by funext f g;simp only[kR,am];split<;>rfl
def zX{b c d a}(e:(dN a||eF a)=T):kR (gG b c d a)=am (kR b) c d (kR b c d++[a]):=by unfold gG;rw[C8];congr 1;simp[kR,e]
def rL{a b c d e f}:aL d e f∈kR a b c↔aL d e f∈kS a b c:=by simp[kR,kS,dN,eF,dA]
def jE{b c d}(a):(b,c,d)∈ci a↔aL b c d∈a:=by
 induction a with
 |nil=>simp[ci]
 |cons e g f=>cases e<;>simp[ci,f]
def nC(a b):ci (a++b)=ci a++ci b:=by
 induction a with
 |nil=>rfl
 |cons c e d=>cases c<;>simp[ci,d]
def pV(b)(e:∀f g h,b (aL f g h)=T)(a):ci (a.filter b)=ci a:=by
 induction a with
 |nil=>rfl
 |cons c j d=>
  rw[Vr];split;cases c<;>simp[ci,d];rename_i i;cases c<;>simp[ci,d];exact(i (e _ _ _)).elim
def C7(a b c):ci (kR a b c)=ci (kS a b c):=by
 unfold kR kS;rw[pV,pV]
 .intros;rfl
 .intros;rfl
def sH.Q{m n f o p k d}(c:sH m n f o p k d){a b}(g:bY d a b)(s:f b=d.bB b):ci (k a b)=[]/\f a=d.bB a:=by
 obtain⟨_,e⟩:=c.y a b g;have q:ci (k a b)=[]:=by
  match h:ci (k a b)with
  |[]=>rfl
  |(i,j,l)::t=>
   rw[h]at e;have r:aL i j l∈k a b:=(jE _).1 (by rw[h];simp);have:=c.f a b i j l r;have:=e.1;grind
 rw[q]at e;have u:=Prod.mk.inj e;have v:=c.c b a ((c.b b a (c.a b a g.1)).1);grind
def sH.O{m n f o p k c}(d:sH m n f o p k c){b a}(q:f a=c.bB a){g h i}:aL g h i∉k b a:=by intro e;have j:=(d.f b a g h i e).1;by_cases l:c.bQ b=S a;have s:=(d.h b a ⟨l,j⟩).2.2;have r:=(jE _).2 e;grind;have:=(d.Q ⟨j,l⟩ q).1;have r:=(jE _).2 e;grind
def I4{Q g r z}(Y:cL Q g r z){a j}(y:g.cg a=T)(ag:g.fh a=N)(ah:¬z.tg a)(ai:g.ip a=0)(ak:g.j6 a=S j):
 cL Q {g with cg:=aj g.cg a F,q:=gG g.q a j (bH (g.bw a))} r {z with Z:=λc=>c=a\/z.Z c,be:=aj z.be a (g.bw a)}:=by
 have al:=vr Y y;obtain⟨an,k,d,p,M,ao⟩:=Y;have A:=d.a a y;have K:r.bQ a=S j:=by rw[<-d.e a A.1 A.2.1];exact ak
 have ap:=k.a a j K;have aa:=(k.e a j (by unfold ji at ap;omega)).1;have aq:j≠a:=by rintro rfl;exact Q.jN _ aa
 have ar:∀s,bH s∉kR g.q a j:=λs h=>by obtain⟨_,_,_,b,_⟩|⟨b,_⟩:=d.b j a s h;grind;exact b.2 K
 obtain⟨aI,aJ,au,aK⟩:=d.h a y;rw[ai]at au;have aM:∀c,bY r a c->z.Z c/\∀s,bH s∉kR g.q c a:=λc m=>by grind
 have aN:∀e t C ab,aL t C ab∉kR g.q e a:=λe t C ab h=>k.O A.2.1 (rL.1 h);have av:∀c,bY r c a->g.bE c=r.bB c:=λc m=>(k.Q m A.2.1).2;have ac:∀c,bY r c a->r.ph c=0:=λc m=>by have:=k.c a c ((k.b a c (k.a a c m.1)).1);omega
 refine⟨qN an aa al,?_,?_,?_,?_,by rw[lV rfl];exact ao⟩;rw[vu rfl];exact k;rw[zX rfl];refine⟨?_,?_,?_,?_,?_,?_,?_,?_,d.e,?_,?_,?_,?_,?_,d.f,?_⟩;intro e R;simp only[aj]at R;have:=d.a e;grind;intro e u D v;simp only[aj]at v;have:=d.d e;grind;intro b f i n w;simp only[aj];have E:=d.j b f i n;have aw:=d.m a f y;grind;intro b f i n w G;simp only[aj]at G;have E:=d.i b f i n;have U:=d.d b i;grind;intro b f t C h i n;simp only[am]at h;have E:=d.p b f t C;grind;intro b f t C h;simp only[am]at h;simp only[aj];have E:=d.q b f t C;grind;intro e R;simp only[aj]at R;have:=d.g e;grind;intro e l i n w G;simp only[aj];have E:=d.l e l i;split;rename_i o;subst o;refine p.h e l y ag ah w ?_;have u:=k.D e l;have D:=k.E e l;have v:=k.b e l;have H:=k.m e l;unfold ji at v;unfold mz at H;grind;grind;intro e l i n w;simp only[aj]at w|-;have E:=d.n e l i n;grind;intro b f s h;by_cases o:f=a/\b=j;obtain⟨rfl,rfl⟩:=o;simp only[am]at h|-;have ax:s=g.bw f:=by grind
 left;refine⟨A.1,K,A.2.1,by simp[aj],ax,by simp[aj],λm=>?_,?_⟩;simp only[aj,Us aq];have U:=d.d b (ac b m) (av b m);have aw:=d.j b f (ac b m) m;grind;intro aO aP ay;obtain⟨V,W,x⟩|⟨V,W,x⟩:=Wq.1 ay;cases V with
 |nil=>simp at x;rw[x.2];rfl
 |cons X az=>simp at x
 cases V with
 |nil=>simp at x;rw[x.2];rfl
 |cons X az=>
  grind
 simp only[am]at h|-;rw[Us o]at h;rw[Us o];obtain⟨u,D,v,H,ad,ae,af,aA⟩|⟨u,D,v,H,ad,ae,af⟩:=d.b b f s h;left;have:f≠a:=by rintro rfl;rw[y]at H;cases H
 simp only[aj,Us this];refine⟨u,D,v,H,ad,ae,λm=>?_,aA⟩;split;grind;exact(af m);have:b≠a:=by rintro rfl;rw[y]at v;cases v
 simp only[aj,Us this];grind;intro b f;simp only[am];split;rename_i o;rw[U0];have:(kR g.q a j).countP dN=0:=V1.2 λX h=>by cases X<;>simp[dN];exact ar _ h
 rw[this];simp[dN];exact d.c b f;intro b f i n w G;simp only[aj]at i|-;simp only[am]at G;have E:=d.m b f;by_cases o:f=a;subst o;have:b=j:=by have:=n.1;rw[K]at this;cases this;rfl
 grind;grind;intro b O;simp only[aj]at O;have aB:b≠a:=by rintro rfl;simp at O
 rw[Us aB]at O;obtain⟨t,aC,aD,aE⟩:=d.h b O;refine⟨t,aC,aD,λc=>?_⟩;rw[aE c];simp only[am];by_cases o:c=a;subst o;by_cases U:b=j;grind;constructor;rintro⟨aF,aQ⟩;have:=aF.1;rw[K]at this;cases this;exact(U rfl).elim;grind;grind;intro e l u D;have:=d.o e l u D;grind;rw[tX rfl];refine⟨?_,p.c,?_,p.g,p.b,p.e,p.f,p.d⟩;intro c aG;simp only[aj]at aG;have:=p.a c;grind;intro c l u;simp only[aj]at u;have:=p.h c l;grind;rw[lV rfl];refine⟨?_,M.b,M.a,M.d⟩;intro c i n w G;obtain⟨aH,W,x,aR⟩:=M.c c i n w G;refine⟨aH,W,x,?_⟩;simp only[aj];grind
def xy{a b c i e h}(f:a b c=e++bH i::h):∃g,kR (am a b c (e++h))=am (kR a) b c g/\ci g=ci (kR a b c)/\(∀j k l,aL j k l∈g↔aL j k l∈kR a b c)/\(∀m,m∈g->m∈kR a b c)/\bH i∈kR a b c/\(kR a b c).countP dN=g.countP dN+1/\∃n o,kR a b c=n++bH i::o/\ci n=ci e:=by
 refine⟨(e++h).filter λd=>dN d||eF d,C8 a b c _,?_,?_,?_,?_,?_,e.filter λd=>dN d||eF d,h.filter λd=>dN d||eF d,?_,?_⟩;simp only[kR,f];rw[pV,pV,nC,nC];rfl
 .intros;rfl
 .intros;rfl
 intro j k l;simp only[kR,f];simp[dN,eF];intro m p;simp only[kR,f];simp at p|-;grind;simp only[kR,f];simp[dN];simp only[kR,f,U2,U0,Vr,VN,dN,XM,VR];omega;simp only[kR,f];simp[dN];exact pV _ (by intros;rfl) e
def Ae{a:List bV}(c:a.countP dN=0):∀b,bH b∉a:=λb d=>by have:=qL c _ d;simp[dN]at this
def cL.g{n c d o}(p:cL n c d o){a b i f g}(q:c.q b a=f++bH i::g)(r:ci f=[])(x:d.ph b=0)(h:d.bQ b=S a)(s:c.bE b=d.bB b)(t:∀f g,kR c.q b a=f++bH i::g->ci g=[]):c.bE a=d.bB a/\d.ph a=0/\d.fr b a/\ci (kR c.q b a)=[]:=by
 obtain⟨y,z,A,C,D,E,G,u,v,j,w⟩:=xy q;obtain⟨H,e,K,M,O,Q⟩:=p;have k:ci (kR c.q b a)=[]:=by rw[j,nC,w,r];have:=t u v j;assumption
 have l:=(e.b b a (e.a b a h)).1;have R:=e.c b a l;refine⟨?_,by omega,l,k⟩;by_cases m:d.bQ a=S b;have U:=e.h b a ⟨h,m⟩;have V:ci (kS c.q b a)=[]:=by rw[<-C7];exact k
 have W:=e.l a b (c.bE a);grind;exact(e.Q ⟨h,m⟩ s).2
def I3{H d r K}(D:cL H d r K){a b k y z}(l:d.q b a=y++bH k::z)(aq:ci y=[])(ar:d.j6 a≠S b)(M O)(au:(k<d.bw a/\M=k/\O=S b)\/(¬k<d.bw a/\M=d.bw a/\O=d.j5 a)):
 cL H {d with ip:=aj d.ip a (d.ip a-1),bw:=aj d.bw a M,j5:=aj d.j5 a O,q:=am d.q b a (y++z)} r K:=by
 obtain⟨av,aw,aM,aN,aO,Z,aP,aQ,aR,aS,aT⟩:=xy l;have aa:=D.b.b a b k Z;have ax:r.ph b=0/\r.bQ b=S a/\d.bE b=r.bB b/\d.cg b=F/\k=d.bw b/\K.be b=d.bw b/\(bY r a b->d.cg a=T)/\∀y z,kR d.q b a=y++bH k::z->ci z=[]:=by grind
 obtain⟨ab,ac,Q,ad,aU,aV,ae,ay⟩:=ax;obtain⟨az,af,aW,aX⟩:=D.g l aq ab ac Q ay;have aA:=vx D;obtain⟨ag,s,c,m,A,aB⟩:=D;have E:bY r a b:=⟨ac,λh=>ar (by rw[c.e a af az];exact h)⟩
 have aY:=c.d b ab Q ad;have aC:=(ag b a (bH k) (by rw[l];simp)).1;have aD:av.countP dN=0:=by have:=c.c a b;omega
 have aZ:=Ae aD;refine⟨pY ag l,?_,?_,?_,?_,by rw[kZ l rfl];exact aB.e af aA _ _⟩;rw[rN l rfl];exact s;rw[aw];refine⟨c.a,c.d,c.j,c.i,?_,?_,?_,c.l,c.e,?_,?_,?_,?_,?_,?_,c.o⟩;intro e g v R t;simp only[am]at t;have:=c.p e g v R;grind;intro e g v R t;simp only[am]at t;have:=c.q e g v R;grind;intro w U;simp only[aj];have:=c.g w U;grind;intro w V n o p;simp only[aj];have:=c.n w V n o p;grind;intro e g aE t;simp only[am]at t|-;by_cases h:g=b/\e=a;grind;rw[Us h]at t;rw[Us h];obtain⟨u,x,j,G,ah,aF,ai,a0⟩|⟨u,x,j,G,ah,aF,ai⟩:=c.b e g aE t;have:g≠a:=by rintro rfl;rw[(ae E)]at G;cases G
 simp only[aj,Us this];grind;right;have:e≠a:=by rintro rfl;rw[(ae E)]at j;cases j
 simp only[aj,Us this];refine⟨u,x,j,G,ah,λa1=>?_,ai⟩;have aG:=s.c e g ((s.b e g (s.a e g u.1)).1);grind;intro e g;simp only[am];split;omega;exact c.c e g;intro e g n o p i;simp only[am]at i;simp only[aj];by_cases h:g=b/\e=a;grind;rw[Us h]at i;have:=(c.m e g n o p) i;split;rename_i ak;subst ak;omega;exact this;intro e aH;obtain⟨v,al,an,aI⟩:=c.h e aH;by_cases h:e=a;subst h;refine⟨v.erase b,al.erase b,?_,λf=>?_⟩;rw[List.length_erase_of_mem ((aI b).2 ⟨E,Up ⟨k,Z⟩⟩),an];simp[aj];simp only[am];by_cases ak:f=b;grind;grind;refine⟨v,al,by simp only[aj,Us h];exact an,λf=>?_⟩;simp only[am];grind;intro f;simp only[aj];have:=c.f f;have:=c.f a;grind;rw[tY l rfl];refine⟨m.a,m.c,?_,m.g,m.b,m.e,m.f,m.d⟩;intro f V n o p i aJ;have:=m.h f V n o p i aJ;simp only[aj];grind;rw[kZ l rfl];refine⟨?_,?_,?_,A.d⟩;intro f n o p i;by_cases h:f=a;subst h;simp only[aj,VR]at i|-;obtain⟨aK,ao,W⟩|⟨aK,ao,W⟩:=au;refine⟨b,W,H.iK _ _ aC,Up (Up ⟨E,Q,ad,?_⟩)⟩;grind;rw[ao]at i;obtain⟨X,u,x,j⟩:=A.c f n o p i;refine⟨X,by rw[W];exact u,x,?_⟩;grind;simp only[aj,Us h]at i|-;obtain⟨X,u,x,j⟩:=A.c f n o p i;refine⟨X,u,x,?_⟩;obtain j|j|j:=j;grind;grind;grind;intro w U;have:=A.b w U;have Y:w≠a:=by rintro rfl;omega
 simp only[aj,Us Y];exact this;intro f C aa;have ap:=A.a f C aa;have aG:=s.c C f ((s.b C f (s.a C f ap.2.2.2.1.1)).1);have Y:C≠a:=by rintro rfl;omega
 have aL:f≠a:=by rintro rfl;omega
 simp only[aj,Us Y,Us aL];exact ap
def zS{n g o p}(w:cL n g o p){d e x r s}(h:g.q e d=r++bH x::s)(V:g.j6 d=S e)(t:g.cg d=F):
 cL n {g with q:=am g.q e d (r++s)} o p:=by
 obtain⟨y,z,W,X,Y,Z,aa,ab,ac,ad,ae⟩:=xy h;obtain⟨A,C,a,D,E,G⟩:=w;have H:y.countP dN=0:=by have:=a.c d e;omega
 have af:=Ae H;refine⟨pY A h,?_,?_,?_,?_,by rw[kZ h rfl];exact G⟩;rw[rN h rfl];exact C;rw[z];refine⟨a.a,a.d,a.j,a.i,?_,?_,a.g,a.l,a.e,a.n,?_,?_,?_,?_,a.f,a.o⟩;intro b c i j f;simp only[am]at f;have:=a.p b c i j;grind;intro b c i j f;simp only[am]at f;have:=a.q b c i j;grind;intro b c K f;simp only[am]at f|-;by_cases u:c=e/\b=d;grind;rw[Us u]at f;rw[Us u];exact a.b b c K f;intro b c;simp only[am];split;omega;exact a.c b c;intro b c k M O l;simp only[am]at l;have:¬(c=e/\b=d):=by rintro⟨rfl,rfl⟩;rw[t]at k;cases k
 rw[Us this]at l;exact a.m b c k M O l;intro b m;obtain⟨i,Q,R,U⟩:=a.h b m;refine⟨i,Q,R,λv=>?_⟩;rw[U v];have:¬(v=e/\b=d):=by rintro⟨rfl,rfl⟩;rw[t]at m;cases m
 simp only[am,Us this];rw[tY h rfl];exact D;rw[kZ h rfl];exact E
def CP{o p f g}(q:cL o p f g){d h m}(l:eV f d h)(x:g.Z d)(y:g.Z h)(z:m<=g.be d)(A:m<=g.be h):∀k a,f.gV a<=k->f.fr d a->g.Z a/\m<=g.be a:=by
 obtain⟨C,b,r,D,E,G⟩:=q;have H:=(b.h d h l).1;intro k;induction k with
 |zero=>
  intro a s i;have t:=b.c d a i;cases e:f.bQ a with
  |none=>exact(((b.i a (by omega)).2) e).elim
  |some c=>
   by_cases j:f.bQ c=S a;have:=b.s d h a c l ⟨e,j⟩ i;grind;have:=b.G c a ⟨e,j⟩;omega
 |succ k u=>
  intro a s i;have t:=b.c d a i;cases e:f.bQ a with
  |none=>exact(((b.i a (by omega)).2) e).elim
  |some c=>
   by_cases j:f.bQ c=S a;have:=b.s d h a c l ⟨e,j⟩ i;grind;have K:=b.G c a ⟨e,j⟩;have n:=b.q _ _ _ i ((b.b a c (b.a a c e)).1);have M:=b.c d c n;obtain⟨v,O⟩:=u c (by omega) n;obtain⟨w,Q⟩:=r.j c a (by omega) ⟨e,j⟩ v;exact⟨w,by omega⟩
def cL.f{u c d f}(k:cL u c d f){a b e o v}(p:c.q b a=o++bH e::v)(w:ci o=[])(x:c.j6 a=S b)(q:c.cg a=F):
 (e<c.bw a/\e<1001)\/(eV d a b/\c.bE a=d.bB a/\c.bE b=d.bB b/\c.cg b=F/\d.ph a=0/\f.Z a/\f.Z b/\f.be a=c.bw a/\f.be b=c.bw b/\e=c.bw b):=by
 have y:bH e∈kR c.q b a:=by simp only[kR,p];simp[dN]
 obtain⟨l,g,h,m,r,s,z,A⟩|⟨l,g,h,m,r,s,z⟩:=k.b.b a b e y;right;obtain⟨i,n,C,D⟩:=k.g p w l g h A;obtain⟨E,G,j,H,K,M⟩:=k;have t:d.bQ a=S b:=by rw[<-j.e a n i];exact x
 exact⟨⟨t,g⟩,i,h,m,n,j.d a n i q,j.d b l h m,j.n a b ⟨t,g⟩ i q,s,r⟩;grind
def I1{f a p r}(e:cL f a p r){c g h s}(t:a.q g c=h++bH 1001::s)(w:ci h=[])(u:a.j6 c=S g)(v:a.cg c=F)(K:a.bw c=1001):
 cL f {a with qK:=aj a.qK c T,q:=am a.q g c (h++s)} p r:=by
 have b:=zS e t u v;obtain⟨_,i⟩|⟨x,M,O,Q,R,y,z,U,V,W⟩:=(e.f t w u v)
 omega;have A:=CP e (m:=1001) x y z (by omega) (by omega);obtain⟨X,C,D,Y,E,Z⟩:=e;refine⟨b.e,b.a,b.b,b.c,⟨b.d.c,b.d.b,b.d.a,?_⟩,b.n⟩;intro j k d l n o;simp only[aj]at k;by_cases i:j=c;subst i;apply UC;intro G;obtain⟨H,aa⟩:=A _ d (UF _) n;have ab:=C.c j d n;have:=D.l d l (by omega) H o G;have:=(f.w1 d l o).2;omega;rw[Us i]at k;exact E.d j k d l n o
open Classical in
def C2{av:Gr}{j:St}{g:Gh}{U:Gs}(G:cL av j g U){b p C:Nat}{Q aw:List bV}(H:j.q p b=Q++bH C::aw)(aS:ci Q=[])(aH:j.j6 b=S p)(ah:j.cg b=F)(ai:j.bw b<C):
 cL av {j with q:=am j.q p b (Q++aw)} {g with ph:=λa=>if g.fr b a then 1 else g.ph a,W:=λa=>if g.fr b a then j.bw b else g.W a,bQ:=aj g.bQ b N,gV:=λa=>if a=b then 0 else g.gV a+1} {U with tk:=λa=>a=b\/U.tk a}:=by
 have aT:=G.f H aS aH ah;have bv:C<=1001:=by
  have t:bH C∈kR j.q p b:=by simp only[kR,H];simp[dN]
  have:=G.b.f p;obtain⟨_,_,_,_,aU,_⟩|⟨_,_,_,_,aU,_⟩:=G.b.b b p C t<;>omega
 have aV:=zS G H aH ah;obtain⟨aW,aX,bw,bx,bz,aY,bA,bB,bC,bD,bE⟩:=xy H;obtain⟨_,h⟩|⟨x,Z,ak,aZ,bF,a0,a1,bG,bI,bJ⟩:=aT
 .omega
 have a2:=CP G (m:=j.bw b) x a0 a1 (by omega) (by omega);have ax:∀a,g.fr b a->U.Z a/\j.bw b<=U.be a:=λa=>a2 _ a (UF _);have a3:b≠p:=by have:=G.e p b (bH C) (by rw[H];simp);rintro rfl;exact av.jN _ this.1
 have a4:=rN (q:=j.q) H (show (dA (bH C)||eF (bH C))=F from rfl);have a5:=tY (q:=j.q) H (show (cC (bH C)||dm (bH C))=F from rfl);have aI:=kZ (q:=j.q) H (show jO (bH C)=F from rfl);have a6:aW.countP dN=0:=by have:=G.b.c b p;omega
 have a7:=Ae a6;obtain⟨bK,d,s,K,aa,ab⟩:=G;have al:∀a,g.fr b a->j.cg a=F:=λa z=>by
  cases h:j.cg a
  .rfl
  .exact((s.a a h).2.2 (ax a z).1).elim
 have aJ:=(d.b b p (d.a b p x.1)).1;have v:∀a,g.fr b a->g.ph a=0/\1<=g.bB a/\g.bQ a≠N:=λa z=>by have an:=d.c b a z;have:=d.i a (by omega);exact⟨by omega,this⟩
 have ac:=d.g;have V:=d.q;have aK:∀a,g.fr b a->j.aw a=T:=λa z=>by
  cases h:j.aw a
  .have:=(d.o a h).2.1;have:=v a z;omega
  .rfl
 refine⟨aV.e,?_,?_,?_,?_,?_⟩
 .rw[a4];dsimp only;refine⟨d.C,d.e,?_,d.d,d.g,d.q,?_,d.j,d.n,d.v,d.D,d.E,?_,?_,?_,?_,d.p,?_,?_,?_,?_,?_,?_,?_,d.w,d.A,d.M,?_,d.x,d.H,d.K⟩
  .intro e w;have:=d.o e w;have:¬g.fr b e:=λh=>by rw[aK e h]at w;cases w
   simp only[aj];grind
  .intro e i a8;have:=d.c e i a8;grind
  .intro e i a9;have:=d.b e i a9;have:=d.a;simp only[aj];unfold eV at x;grind
  .intro e i ba;simp only[aj]at ba;have:=d.a e i;grind
  .intro e i bb;have:=d.m e i bb;have:=v e;simp only[aj];grind
  .intro e i y t;have:=d.l e i y t;have an:=d.c b p aJ;unfold eV at *;simp only[aj];refine⟨this.1,λh=>?_,this.2.2⟩;have aY:=this.2.1 h;have ay:=d.s e i b p;unfold eV at ay;grind
  .intro e i az;unfold eV at *;simp only[aj]at az;have aM:g.bQ e=S i/\g.bQ i=S e:=by grind
   have:=d.h e i aM;have ay:=d.s e i b p aM x;have:¬g.fr b e:=λh=>by have:=ay (ac _ _ h);grind
   grind
  .intro e i c f bc bd ah;unfold eV at *;simp only[aj]at bc bd;exact d.s e i c f ⟨by grind,by grind⟩ ⟨by grind,by grind⟩ ah
  .intro c f k;unfold bY at k;simp only[aj]at k;by_cases h:c=b/\f=p
   .obtain⟨rfl,rfl⟩:=h;have ao:ci (kS j.q c f)=[]:=by have:=d.h c f x;grind
    have aN:ci (kS j.q f c)=[]:=by have:=d.h f c ⟨x.2,x.1⟩;grind
    rw[ao,aN];have an:=d.c c f aJ;have be:=d.v c Z (v c (d.d c)).2.1;have bf:=d.v f ak (by have:=(v c (d.d c)).2.1;omega);refine⟨rfl,?_⟩;show (j.bE f,j.eU f)=(j.bE c,j.eU c)
    rw[be,bf,Z,ak,an.1,an.2.1]
   .refine d.y c f ⟨by grind,?_⟩;unfold eV at x;grind
  .intro c f y E ap t;have:=d.f c f y E ap t;have:f≠b:=by rintro rfl;exact d.O Z t
   simp only[aj];grind
  .intro e i o n r;simp only[aj]at o n;have:=d.r e i;have bL:=v e;have bM:=v i;grind
  .intro e w;have:=d.i e;simp only[aj];have:=d.d b;grind
  .intro c f k;unfold bY at k;simp only[aj]at k;by_cases h:c=b
   .subst h;have:f≠c:=by grind
    simp[this]
   .have:f≠b:=by grind
    simp only[Us h,Us this];have:=d.G c f ⟨by grind,by grind⟩;omega
  .intro e a i o n r u;dsimp only at o n u|-;have M:=d.u e a i;by_cases h:g.fr b e
   .rw[UG h];have z:=V _ _ _ h n;obtain⟨ao,aN⟩:=ax a z;have:=s.l a i (v a z).1 ao r u;omega
   .rw[Us h]at o|-;exact M o n r u
 .rw[aX];dsimp only;have X:∀c f,bY {g with ph:=λa=>if g.fr b a then 1 else g.ph a,W:=λa=>if g.fr b a then j.bw b else g.W a,bQ:=aj g.bQ b N,gV:=λa=>if a=b then 0 else g.gV a+1} c f->¬g.fr b c->bY g c f:=by
   intro c f k l;unfold bY at *;simp only[aj]at k;have:=d.d b;have ai:f≠b:=by grind
   grind
  have bg:∀c f,bY {g with ph:=λa=>if g.fr b a then 1 else g.ph a,W:=λa=>if g.fr b a then j.bw b else g.W a,bQ:=aj g.bQ b N,gV:=λa=>if a=b then 0 else g.gV a+1} c f->g.fr c f:=by
   intro c f k;unfold bY at *;simp only[aj]at k;have ai:f≠b:=by grind
   have:=(d.b f c (d.a f c (by grind))).1;exact ac _ _ this
  refine⟨?_,?_,?_,?_,?_,?_,s.g,?_,?_,?_,?_,?_,?_,?_,s.f,λe i az=>s.o e i (by unfold eV at *;simp only[aj]at az;grind)⟩
  .intro e w;have:=s.a e w;have:=al e;grind
  .intro e o n r;have:=s.d e;grind
  .intro c f o n r;have l:¬g.fr b c:=by grind
   exact s.j c f (by grind) (X c f n l) r
  .intro c f o n r u;have l:¬g.fr b c:=by grind
   exact s.i c f (by grind) (X c f n l) r u
  .intro c f y E t o n;simp only[am]at t;have:=s.p c f y E;grind
  .intro c f y E t;have bh:aL y E T∈kR j.q c f:=by simp only[am]at t;grind
   have:=s.q c f y E bh;have ao:=ax f;refine⟨by grind,this.2.1,this.2.2.1,λk=>?_⟩;by_cases h:g.fr b c
   .have:=bg c f k;have:=V _ _ _ h this;grind
   .exact this.2.2.2 (X c f k h)
  .intro e i o n r u;have:=s.l e i;grind
  .intro e o n;have:=s.e e;have:=d.d b;simp only[aj];grind
  .intro e i o n r;unfold eV at o;simp only[aj]at o;exact s.n e i ⟨by grind,by grind⟩ n r
  .intro c f bi t;simp only[am]at t|-;by_cases h:f=p/\c=b
   .rw[UG h]at t;exact(a7 _ t).elim
   .rw[Us h]at t;rw[Us h];obtain⟨M,O,A,aA,aq,aB,ar,bj⟩|⟨M,O,A,aA,aq,aB,ar⟩:=s.b c f bi t
    .have aO:=(d.b f c (d.a f c O)).1;by_cases ad:g.fr b f
     .right;have ae:=V _ _ _ ad aO;have aC:g.bQ c=S f:=by apply UC;intro l;have:=ar ⟨O,l⟩;rw[al c ae]at this;cases this
      have:=d.s b p f c x ⟨O,aC⟩ ad;have af:f=b/\c=p:=by
       obtain⟨aD,aE⟩|⟨aD,aE⟩:=this
       .exact⟨aD.symm,aE.symm⟩
       .exact(h ⟨aE.symm,aD.symm⟩).elim
      obtain⟨rfl,rfl⟩:=af;refine⟨?_,?_,aZ,by omega,by omega,λ_=>⟨Z,aq,?_⟩,?_⟩
      .unfold bY;simp only[aj];simp[a3.symm,aC]
      .have:=(v c ae).1;rw[s.e c this ak];exact aC
      .simp[ae]
      .intro Q aw bk;match bl:ci Q with
       |[]=>rfl
       |(y,E,ap)::bN=>
        have bm:aL y E ap∈kR j.q f c:=by rw[bk];have:=(jE Q).1 (show (y,E,ap)∈ci Q by rw[bl];simp);simp[this]
        exact(d.O ak (rL.1 bm)).elim
     .left;have ae:¬g.fr b c:=λaf=>ad (V _ _ _ af (ac _ _ aO));have ai:f≠b:=by rintro rfl;exact ad (d.d f)
      refine⟨by rw[Us ad];exact M,by simp only[aj,Us ai];exact O,A,aA,aq,aB,λk=>ar (X c f k ae),bj⟩
    .right;have ag:c≠b:=by
      rintro rfl;have:f=p:=by have:=M.1;rw[x.1]at this;cases this;rfl
      subst this;exact M.2 x.2
     refine⟨?_,O,A,aA,aq,λaf=>?_,ar⟩
     .unfold bY at *;simp only[aj,Us ag];grind
     .have:=aB af;grind
  .intro c f;simp only[am];split
   .omega
   .exact s.c c f
  .intro c f o n r u;have l:¬g.fr b c:=λh=>by rw[al c h]at o;cases o
   simp only[am]at u;have:¬(f=p/\c=b):=by rintro⟨rfl,rfl⟩;exact l (d.d _)
   rw[Us this]at u;exact s.m c f o (X c f n l) r u
  .intro c ag;have l:¬g.fr b c:=λh=>by rw[al c h]at ag;cases ag
   obtain⟨y,bn,bo,bp⟩:=s.h c ag;refine⟨y,bn,bo,λa=>?_⟩;rw[bp a];have:¬(a=p/\c=b):=by rintro⟨rfl,rfl⟩;exact l (d.d _)
   simp only[am,Us this];have bq:c≠b:=by rintro rfl;exact l (d.d _)
   have:bY {g with ph:=λa=>if g.fr b a then 1 else g.ph a,W:=λa=>if g.fr b a then j.bw b else g.W a,bQ:=aj g.bQ b N,gV:=λa=>if a=b then 0 else g.gV a+1} c a↔bY g c a:=by
    constructor
    .intro k;exact X c a k l
    .intro k;unfold bY at *;simp only[aj,Us bq];have:a≠b:=by rintro rfl;have:=(d.b a c (d.a a c k.1)).1;exact l this
     rw[Us this];exact k
   rw[this]
 .rw[a5];exact⟨K.a,K.c,K.h,K.g,K.b,K.e,K.f,K.d⟩
 .rw[aI];dsimp only;refine⟨?_,?_,?_,aa.d⟩
  .intro a o n r u;dsimp only at o n r;have br:g.ph a<=1:=by
    by_cases h:g.fr b a
    .have:=(v a h).1;omega
    .rw[Us h]at r;exact r
   obtain⟨aP,M,O,A⟩:=aa.c a o n br u;refine⟨aP,M,O,?_⟩;obtain A|A|A:=A
   .exact Ur A
   .exact Up (Ur A)
   .right;right;refine⟨?_,A.2⟩;have k:=A.1;unfold bY at *;have Y:aP≠b:=by
     rintro rfl;have:a=p:=by have:=k.1;rw[x.1]at this;cases this;rfl
     subst this;exact k.2 x.2
    simp only[aj,Us Y];grind
  .intro e w;obtain rfl|w:=w
   .refine⟨aK e (d.d e),by simp[d.d e],by simp[aj],Z,λ_=>⟨by simp[d.d e],by omega⟩,λi t=>?_⟩;have:=(aa.a e i t).1;omega
   .have D:=aa.b e w;have l:¬g.fr b e:=λh=>by have:=(v e h).1;omega
    have aQ:e≠b:=by rintro rfl;exact l (d.d _)
    simp only[aj,Us aQ,Us l];exact D
  .intro a R aF;have D:=aa.a a R aF;have bs:=(d.b R a (d.a R a D.2.2.2.1.1)).1;have l:¬g.fr b a:=λh=>by have:=(v a h).1;omega
   have aR:¬g.fr b R:=λh=>l (V _ _ _ h bs);have aG:a≠b:=by rintro rfl;exact l (d.d _)
   have bt:R≠b:=by rintro rfl;exact aR (d.d _)
   unfold bY at *;simp only[aj,Us aG,Us l,Us bt,Us aR];exact D
 .rw[aI];dsimp only;have au:∀a,g.fr b a->¬U.ps a:=λa z h=>by have:=ab.b a h;have:=(v a z).1;omega
  refine⟨?_,?_,?_,?_⟩
  .intro a z;have:=ab.b a z;have:=au a;dsimp only;grind
  .intro a i o n r u;dsimp only at n r;by_cases h:g.fr b a
   .have bu:g.fr a i:=by
     unfold bY at u;simp only[aj]at u;have Y:i≠b:=by grind
     have:=(d.b i a (d.a i a (by grind))).1;exact ac _ _ this
    exact au i (V _ _ _ h bu)
   .have aG:a≠b:=by rintro rfl;exact h (d.d _)
    rw[Us h]at n;rw[dW _ _ aG]at r;refine ab.d a i o n r ?_;unfold bY at *;simp only[aj]at u;have Y:i≠b:=by grind
    grind
  .intro e w;dsimp only;obtain rfl|w:=w
   .refine⟨by simp[d.d e],au e (d.d e),λi _ k=>au i ?_⟩;unfold bY at k;simp only[aj]at k;have Y:i≠e:=by grind
    exact ac _ _ (d.b i e (d.a i e (by grind))).1
   .have D:=ab.a e w;have l:¬g.fr b e:=λh=>by have:=(v e h).1;omega
    have aQ:e≠b:=by rintro rfl;exact l (d.d _)
    refine⟨by rw[Us l];exact D.1,D.2.1,λi Y k=>D.2.2 i Y ?_⟩;unfold bY at *;simp only[aj]at k;grind
  .intro a R aF;have D:=ab.c a R aF;have l:¬g.fr b a:=λh=>by have:=(v a h).1;omega
   dsimp only;rw[Us l];exact D
def Df(a b c d):kX (am a b c d)=am (kX a) b c (d.filter jO):=by funext e f;simp only[kX,am];split<;>rfl
def I6{o d i n}(A:cL o d i n){a c}(r:n.tk a)(s:d.j5 a=S c)(t:d.se a c=1):
 cL o {d with q:=gG d.q a c dO} i {n with tk:=λe=>e≠a/\n.tk e}:=by
 obtain⟨C,g,D,E,j,k⟩:=A;obtain⟨G,H,K,M,O,Q⟩:=j.b a r;obtain⟨Z,aa,ab⟩:=k.a a r;have u:=(g.e a c (by omega)).1;have v:1<=i.bB a:=by by_cases h:i.bB a=0;by_cases w:d.se c a=1;have:=(g.b a c ⟨t,w⟩).1;have:=g.j a c h this;subst this;exact(o.jN _ u).elim;have:=(g.m a c ⟨t,w⟩).1;omega;omega
 obtain⟨ac,R⟩:=O v;obtain⟨b,x,ad,l⟩:=j.c a v M (by omega) R;have U:b=c:=by rw[s]at x;cases x;rfl
 subst U;have V:bY i a b/\d.bE b=i.bB b/\d.cg b=F/\d.bw b=d.bw a:=by obtain l|l|l:=l;grind;omega;exact l
 obtain⟨y,W,ae,af⟩:=V;have ag:=g.c b a ((g.b b a (g.a b a y.1)).1);have z:kX (gG d.q a b dO)=am (kX d.q) a b (kX d.q a b++[dO]):=by unfold gG;rw[Df];congr 1;simp[kX,jO]
 have X:(kX d.q a b).countP jO=0:=V1.2 λY f=>by cases Y<;>simp[jO];exact Q b f
 refine⟨qN C u G,?_,?_,?_,?_,?_⟩;rw[vu rfl];exact g;rw[tW rfl];exact D;rw[tX rfl];exact E;rw[z];refine⟨j.c,?_,?_,j.d⟩;intro e p;have m:=j.b e p.2;refine⟨m.1,m.2.1,m.2.2.1,m.2.2.2.1,m.2.2.2.2.1,λah f=>?_⟩;simp only[am]at f;grind;intro e c f;simp only[am]at f|-;by_cases h:e=a/\c=b;obtain⟨rfl,rfl⟩:=h;refine⟨H,K,s,y,W,by omega,by omega,?_⟩;simp only[and_self,VR,U0,X];rfl;rw[Us h]at f;rw[Us h];exact j.a e c f;rw[z];refine⟨k.b,k.d,λe p=>k.a e p.2,?_⟩;intro e c f;simp only[am]at f;by_cases h:e=a/\c=b;grind;rw[Us h]at f;exact k.c e c f
def I5{an p k ae}(aC:cL an p k ae){f e K M}(O:p.q f e=K++dO::M):
 cL an {p with q:=am p.q f e (K++M)} {k with bQ:=aj (aj k.bQ f (S e)) e N,gV:=λg=>if g=e then 0 else k.gV g+1} {ae with tk:=λg=>g=e\/ae.tk g,ps:=λg=>g=f\/ae.ps g}:=by
 obtain⟨aD,c,m,z,w,Q⟩:=aC;have r:dO∈kX p.q f e:=by simp only[kX,O];simp[jO]
 obtain⟨aZ,Z,aE,R,aa,aF,ax,aG⟩:=w.a f e r;obtain⟨a0,ay,a1⟩:=Q.c f e r;have az:kX (am p.q f e (K++M))=am (kX p.q) f e ((K++M).filter jO):=Df _ _ _ _;have aH:((K++M).filter jO).countP jO=0:=by simp only[kX,O,U2,U0,Vr,jO,VR,VN]at aG;simp only[U2,U0];omega
 have aA:dO∉(K++M).filter jO:=λr=>by have:=qL aH _ r;simp[jO]at this
 have ab:=c.a e f R.1;have A:=(c.b e f ab).1;have ao:=c.c e f A;have U:=c.g;have a2:=c.q;have aI:f≠e:=by rintro rfl;exact R.2 R.1
 have C:=R.1;have V:∀g,k.fr f g->k.ph g=1:=λg af=>by have:=c.c f g af;omega
 have aJ:∀a b,eV k a b->a≠f/\a≠e/\b≠f/\b≠e:=λa b u=>by have a3:=(c.h a b u).1;have a4:=(c.h b a ⟨u.2,u.1⟩).1;refine⟨?_,?_,?_,?_⟩<;>rintro rfl<;>omega
 have aK:=c.Q R aa;refine⟨pY aD O,?_,?_,?_,?_,?_⟩;rw[rN O rfl];refine⟨c.C,c.e,?_,c.d,c.g,c.q,c.c,c.j,c.n,c.v,c.D,c.E,?_,?_,?_,?_,c.p,?_,?_,?_,?_,?_,?_,?_,c.w,c.A,c.M,c.u,c.x,c.H,c.K⟩;intro d t;have:=c.o d t;simp only[aj];grind;intro d h ab;have:=c.b d h ab;simp only[aj];grind;intro d h W;simp only[aj]at W;have:=c.a d h;unfold ji at *;grind;intro d h aL;have:=c.m d h aL;have:d≠f:=by rintro rfl;omega
 simp only[aj];grind;intro d h D r;have i:=c.l d h D r;refine⟨i.1,λn=>?_,i.2.2⟩;have X:=i.2.1 n;have:=aJ d h X.1;unfold eV at *;simp only[aj];grind;intro d h u;unfold eV at u;simp only[aj]at u;have aM:eV k d h:=by unfold eV;grind
 exact c.h d h aM;intro d h a b ag ac aN;unfold eV at ag ac;simp only[aj]at ag ac;exact c.s d h a b (by unfold eV;grind) (by unfold eV;grind) aN;intro a b j;unfold bY at j;simp only[aj]at j;by_cases n:b=f;subst n;have ah:a=e:=by grind
 subst ah;obtain⟨aO,aB⟩:=c.y b a R;rw[aK.1]at aB|-;rw[aO];refine⟨rfl,?_⟩;have:(p.bE a,p.eU a)=(p.bE b,p.eU b):=aB;show (p.bE b,p.eU b)=(p.bE a,p.eU a)
 exact this.symm;exact c.y a b ⟨by grind,by grind⟩;intro a b D ai G ad;have:=c.f a b D ai G ad;have:b≠e:=λn=>c.O aa (by rw[n]at ad;exact ad);simp only[aj];grind;intro d h o s E;simp only[aj]at o s;have a5:=c.r d h;have a6:=c.r d f;have a7:=c.r h f;grind;intro d t;have:=c.i d t;have:d≠e:=by rintro rfl;have:=V d (U _ _ A);dsimp only at t;omega
 simp only[aj];grind;intro a b j;unfold bY at j;simp only[aj]at j;dsimp only;have ap:b≠e:=by grind
 rw[Us ap];by_cases n:a=e;simp[n];rw[Us n];have:=c.G a b ⟨by grind,by grind⟩;omega;rw[sJ O rfl];have Y:∀a b,bY {k with bQ:=aj (aj k.bQ f (S e)) e N,gV:=λg=>if g=e then 0 else k.gV g+1} a b->k.ph a=0->bY k a b:=by
  intro a b j W;unfold bY at *;simp only[aj]at j;have:a≠e:=by rintro rfl;have:=V a (U _ _ A);omega
  have:a≠f:=by rintro rfl;omega
  grind
 have aP:∀a b,bY k a b->k.ph a=0->bY {k with bQ:=aj (aj k.bQ f (S e)) e N,gV:=λg=>if g=e then 0 else k.gV g+1} a b:=by
  intro a b j W;have G:=(c.b b a (c.a b a j.1)).1;have ao:=c.c b a G;unfold bY at *;simp only[aj];have:a≠e:=by rintro rfl;have:=V a (U _ _ A);omega
  have:a≠f:=by rintro rfl;omega
  have:b≠e:=by rintro rfl;have:=V b (U _ _ A);omega
  have:b≠f:=by rintro rfl;omega
  grind
 refine⟨m.a,m.d,λa b o s E=>m.j a b o (Y a b s o) E,λa b o s=>m.i a b o (Y a b s o),m.p,?_,m.g,m.l,?_,?_,?_,m.c,λa b o s=>m.m a b o (Y a b s (m.a a o).1),?_,m.f,λd h u=>m.o d h (by unfold eV at *;simp only[aj]at u;grind)⟩;intro a b D ai r;have i:=m.q a b D ai r;refine⟨i.1,i.2.1,i.2.2.1,λj=>i.2.2.2 ?_⟩;have:k.bQ b=S a:=(c.f a b D ai T (rL.1 r)).1;have G:=(c.b b a (c.a b a this)).1;have ao:=c.c b a G;exact Y a b j (by omega);intro d o s;have:=m.e d o s;have:d≠e:=by rintro rfl;have:=V d (U _ _ A);dsimp only at o;omega
 have:d≠f:=by rintro rfl;dsimp only at o;omega
 simp only[aj];grind;intro d h u s E;unfold eV at u;simp only[aj]at u;exact m.n d h (by unfold eV;grind) s E;intro a b aQ r;obtain⟨x,H,l,aq,ar,ak,au,aR⟩|⟨x,H,l,aq,ar,ak,au⟩:=m.b a b aQ r;left;have G:=(c.b b a (c.a b a H)).1;have ao:=c.c b a G;have:b≠e:=by rintro rfl;have:=V b (U _ _ A);omega
 have:b≠f:=by rintro rfl;omega
 refine⟨x,by simp only[aj];grind,l,aq,ar,ak,λj=>au (Y a b j (by omega)),aR⟩;right;refine⟨?_,H,l,aq,ar,ak,au⟩;have a8:a≠e:=by
  rintro rfl;have:b=f:=by have:=x.1;rw[C]at this;cases this;rfl
  subst this;have:=ak aa;omega
 have a9:a≠f:=by rintro rfl;have:=x.1;rw[Z]at this;cases this
 unfold bY at *;simp only[aj];grind;intro a ah;have W:=(m.a a ah).1;obtain⟨D,aS,aT,aU⟩:=m.h a ah;refine⟨D,aS,aT,λg=>?_⟩;rw[aU g];have:bY {k with bQ:=aj (aj k.bQ f (S e)) e N,gV:=λg=>if g=e then 0 else k.gV g+1} a g↔bY k a g:=⟨λj=>Y a g j W,λj=>aP a g j W⟩
 rw[this];rw[tY O rfl];exact⟨z.a,z.c,z.h,z.g,z.b,z.e,z.f,z.d⟩;rw[az];refine⟨?_,?_,?_,w.d⟩;intro g o s E al;obtain⟨av,x,H,l⟩:=w.c g o s E al;refine⟨av,x,H,?_⟩;by_cases n:g=f;exact Ur (Ur n);obtain l|l|l:=l;exact Ur (Up l);exact Up (Ur l);right;right;refine⟨?_,l.2⟩;have j:=l.1;unfold bY at *;have:av≠e:=by rintro rfl;rw[C]at j;grind
 have:av≠f:=by rintro rfl;rw[Z]at j;grind
 simp only[aj];grind;intro d t;obtain rfl|t:=t;refine⟨(c.e d f (by unfold ji at ab;omega)).2,by dsimp only;omega,by simp[aj],aa,λ_=>⟨aF,ax⟩,λh r=>?_⟩;simp only[am]at r;have:=(w.a d h)
 grind;have i:=w.b d t;have:d≠f:=by rintro rfl;exact(i.2.2.2.2.2 e) r
 have:d≠e:=by rintro rfl;rw[C]at i;grind
 refine⟨i.1,i.2.1,by simp only[aj];grind,i.2.2.2.1,i.2.2.2.2.1,λh ad=>?_⟩;simp only[am]at ad;have:=i.2.2.2.2.2 h;grind;intro g y v;simp only[am]at v;by_cases n:g=f/\y=e;rw[UG n]at v;exact(aA v).elim;rw[Us n]at v;have i:=w.a g y v;have af:g≠f:=by rintro rfl;rw[aE]at i;grind
 have aV:g≠e:=by rintro rfl;rw[C]at i;grind
 have ag:y≠e:=by rintro rfl;have:=i.2.2.2.1.1;rw[C]at this;grind
 have ac:y≠f:=by rintro rfl;have:=i.2.2.2.1.1;rw[Z]at this;cases this
 unfold bY at *;simp only[aj,am,Us af,Us aV,Us ag,Us ac];grind;rw[az];refine⟨?_,?_,?_,?_⟩;intro g af;have:=Q.b g;grind;intro g h o s E al;unfold bY at al;simp only[aj]at E al;have:=Q.d g h;unfold bY at this;grind;intro d t;obtain rfl|t:=t;refine⟨by dsimp only;omega,by grind,λh ap j=>?_⟩;obtain⟨aW,x,H,l⟩:=w.c d (by have:=c.j d f;by_cases n:k.bB d=0;have:=this n A;exact(aI this.symm).elim;omega) aa (by omega) ax
 have aw:h=aW:=by rw[ap]at x;cases x;rfl
 subst aw;have aX:h≠f:=by rintro rfl;unfold ji at ab;obtain l|l|l:=l;exact ay l;omega;have:=l.1.1;rw[Z]at this;cases this
 have aY:bY k d h:=by
  unfold bY at *;simp only[aj]at j;have:h≠d:=by rintro rfl;exact an.jN _ H
  refine⟨by grind,by rw[C];grind⟩
 have:=Q.d d h ay (by omega) (by rw[C];simp) aY;grind;have i:=Q.a d t;have X:=w.b d t;have ba:d≠f:=by rintro rfl;exact(X.2.2.2.2.2 e) r
 have u:d≠e:=by rintro rfl;rw[C]at X;grind
 refine⟨i.1,by grind,λh aw j=>?_⟩;have aX:h≠f:=by unfold bY at j;simp only[aj]at j;grind
 have:=i.2.2 h aw (by unfold bY at *;simp only[aj]at j;grind);grind;intro g y v;simp only[am]at v;by_cases n:g=f/\y=e;rw[UG n]at v;exact(aA v).elim;rw[Us n]at v;have i:=Q.c g y v;have X:=w.a g y v;have ac:y≠f:=by rintro rfl;have:=X.2.2.2.1.1;rw[Z]at this;cases this
 exact⟨i.1,by grind,i.2.2⟩
def Da(a b c d):kS (am a b c d)=am (kS a) b c (d.filter λe=>dA e||eF e):=by funext f g;simp only[kS,am];split<;>rfl
def xz{b c d a}(e:(dA a||eF a)=T):kS (gG b c d a)=am (kS b) c d (kS b c d++[a]):=by unfold gG;rw[Da];congr 1;simp[kS,e]
def sH.U{b g h i j k c}(e:sH b g h i j k c){a d}(l:b.fg a d)(m:c.ph a≠0)(t:b.w a d=c.W a)(n:¬c.fr a d):b.tP a d:=by refine b.CK (c.fr a) a d l (e.d a) n ?_;intro o p q f r;have:=e.u a o p m f q λs=>r (e.q _ _ _ f s);omega
open Classical in
def IW{G:Gr}{g:St}{l:Gh}{M:Gs}(aj:cL G g l M){d h:Nat}(ar:M.tk d)(ab:G.fg d h)(aQ:g.se d h=0)(ak:g.se h d≠1)(al:G.w d h=l.W d)(U:¬l.fr d h)(au:l.bB d<=g.bE h):
 cL G {g with se:=am g.se d h 1,q:=gG g.q d h (bG (g.bE d))} {l with ph:=λc=>if l.fr d c then 2 else l.ph c} {M with tk:=λc=>c≠d/\M.tk c,ps:=λc=>M.ps c/\¬l.fr d c}:=by
 have aR:=vx aj;obtain⟨av,f,p,A,D,V⟩:=aj;obtain⟨aw,aS,an,ac,aT,ao⟩:=D.b d ar;have k:=f.U ab (by omega) al U;have E:∀c,l.fr d c->l.ph c=1:=λc m=>by have:=f.c d c m;omega
 have ax:=f.g;have aU:=f.q;have aV:d≠h:=by rintro rfl;exact G.jN _ ab
 have ay:∀j,bG j∉kS g.q d h:=λj k=>by have:=(f.l d h j k).1;omega
 have az:∀j n t,aL j n t∉kS g.q d h:=λj n t k=>by have ad:=(f.f d h j n t k).1;exact U (ax _ _ (f.b h d (f.a h d ad)).1)
 have aA:g.cg d=F:=by cases e:g.cg d;rfl;have:=(p.a d e).1;omega
 have O:∀a b,ji (am g.se d h 1) a b↔ji g.se a b:=by intro a b;simp only[ji,am];grind
 have W:∀a b,g.se a b=1->am g.se d h 1 a b=1:=by intro a b;simp only[am];grind
 have X:∀c,l.bQ c=N->l.fr d c->c=d:=λc m e=>(f.r d c an m e).symm;refine⟨qN av ab aw,?_,?_,?_,?_,?_⟩;rw[xz rfl];have Y:∀a b,ci (am (kS g.q) d h (kS g.q d h++[bG (g.bE d)]) a b)=ci (kS g.q a b):=by intro a b;simp only[am];split;rename_i e;rw[e.1,e.2,nC];simp[ci];rfl
 have ap:∀a b j n t,aL j n t∈am (kS g.q) d h (kS g.q d h++[bG (g.bE d)]) a b↔aL j n t∈kS g.q a b:=by intro a b j n t;rw[<-jE,Y,jE]
 have Z:∀a b j,bG j∈am (kS g.q) d h (kS g.q d h++[bG (g.bE d)]) a b↔(bG j∈kS g.q a b\/(a=d/\b=h/\j=g.bE d)):=by intro a b j;simp only[am];split;rename_i e;rw[e.1,e.2];simp;rename_i e;grind
 refine⟨?_,?_,?_,f.d,f.g,f.q,?_,f.j,f.n,f.v,?_,?_,?_,?_,?_,?_,?_,?_,f.s,?_,?_,f.r,?_,f.G,?_,?_,?_,?_,f.x,?_,?_⟩;intro a b ae k;simp only[am]at k;have:=f.C a b ae;grind;intro a b;simp only[am];have:=f.e a b;grind;intro c m;have:=f.o c m;have:¬l.fr d c:=λe=>by have:=E c e;omega
 dsimp only;grind;intro a b aB;have:=f.c a b aB;dsimp only;grind;intro a b;simp only[am];have:=f.D a b;grind;intro a b;simp only[am];have:=f.E a b;grind;intro a b;rw[O];exact f.b a b;intro a b ad;rw[O];exact f.a a b ad;intro a b aC;by_cases e:a=d/\b=h;obtain⟨rfl,rfl⟩:=e;refine⟨by simp[f.d a],an,U,?_,al,au,ac⟩;rw[Z];right;exact⟨rfl,rfl,ac.symm⟩;have aD:mz g.se a b:=by unfold mz at *;simp only[am]at aC;grind
 have i:=f.m a b aD;have:¬l.fr d a:=λe=>by have:=E a e;omega
 refine⟨by dsimp only;grind,i.2.1,i.2.2.1,?_,i.2.2.2.2⟩;rw[Z];exact Ur i.2.2.2.1;intro a b j k;rw[Z]at k;obtain k|⟨rfl,rfl,rfl⟩:=k;have i:=f.l a b j k;refine⟨W _ _ i.1,?_,?_⟩;intro e;simp only[am]at e;refine i.2.1 ?_;by_cases z:b=d/\a=h;obtain⟨rfl,rfl⟩:=z;exact(ak i.1).elim;rw[Us z]at e;exact e;intro e;exact i.2.2 λz=>e (W _ _ z);refine⟨by simp[am],λe=>?_,λ_=>ac⟩;simp only[am]at e;rw[Us (by grind)]at e;exact(ak e).elim;intro a b;simp only[am];split;rw[U0];have:(kS g.q d h).countP dA=0:=V1.2 λae k=>by cases ae<;>simp[dA];exact ay _ k
 rw[this];simp[dA];exact f.p a b;intro a b aq;have i:=f.h a b aq;have r:¬l.fr d a:=λe=>by have:=E a e;omega
 rw[Y];have aW:¬(b=d/\a=h):=by rintro⟨rfl,rfl⟩;exact U (f.b _ _ (f.a _ _ aq.2)).1
 refine⟨by dsimp only;rw[Us r];exact i.1,i.2.1,?_⟩;simp only[Z];obtain u|u|u:=i.2.2;exact Ur ⟨u.1,u.2.1,by grind⟩;exact Up (Ur ⟨u.1,u.2.1,by grind⟩);exact Up (Up ⟨u.1,u.2.1,Ur u.2.2⟩);intro a b aE;rw[Y,Y];exact f.y a b aE;intro a b j n t k;rw[ap]at k;exact f.f a b j n t k;intro c m;dsimp only at m;refine f.i c ?_;grind;intro c m;simp only[O];exact f.w c m;intro a b j n t k;rw[ap]at k;simp only[O];exact f.A a b j n t k;intro c m;simp only[O];exact f.M c m;intro a c b o v w C;dsimp only at o|-;refine f.u a c b ?_ v w C;intro e;by_cases z:l.fr d a;have:=E a z;omega;rw[Us z]at o;exact o e;intro a b e;simp only[am]at e;by_cases z:a=d/\b=h;obtain⟨rfl,rfl⟩:=z;exact Ur k;rw[Us z]at e;exact f.H a b e;intro a b aF aG j n t Q aH;simp only[am]at Q;by_cases e:a=d/\b=h;rw[UG e]at Q;exfalso;have:aL j n t∈kS g.q d h++[bG (g.bE d)]:=by rw[Q];simp
 simp at this;exact az _ _ _ this;rw[Us e]at Q;exact f.K a b aF aG j n t Q aH;rw[tW rfl];refine⟨?_,?_,?_,?_,?_,?_,p.g,?_,?_,p.n,?_,p.c,p.m,p.h,p.f,p.o⟩;intro c m;have:=p.a c m;have:=E c;dsimp only;grind;intro c o;have:=p.d c;dsimp only at o|-;grind;intro a b o v w;exact p.j a b (by dsimp only at o;grind) v w;intro a b o v w C;exact p.i a b (by dsimp only at o;grind) v w C;intro a b j n k o;have:=p.p a b j n k;dsimp only at o|-;grind;intro a b j n k;have i:=p.q a b j n k;have:=E b;exact⟨by dsimp only;grind,i.2.1,i.2.2.1,i.2.2.2⟩;intro a b o;have:=p.l a b;dsimp only at o|-;grind;intro a o;have:=p.e a;dsimp only at o|-;grind;intro a b aI k;obtain⟨aa,R,y,af,ag,ah,ai,aJ⟩|⟨aa,R,y,af,ag,ah,ai⟩:=p.b a b aI k;left;have:=E b;refine⟨by dsimp only;grind,R,y,af,ag,ah,ai,aJ⟩;right;refine⟨aa,R,y,af,ag,λe=>?_,ai⟩;have:=ah e;dsimp only;grind;rw[tX rfl];have aX:=(A.a d aA).1;refine⟨A.a,?_,?_,A.g,?_,A.e,?_,A.d⟩;intro s x aK;have:=A.c s x aK;have:=W s x;have:=W x s;have i:¬(s=d/\x=h)->am g.se d h 1 s x=g.se s x:=λe=>by simp only[am,Us e]
 have u:∀c,G.fg s c->am g.se d h 1 s c=0->g.se s c=0:=λc _=>by simp only[am];grind
 grind;intro s x o v w C aM;simp only[am]at aM;have:=A.h s x;grind;intro s x j n k;have:=A.b s x j n k;simp only[am];grind;intro s x k;have:=A.f s x k;simp only[am];grind;rw[lV rfl];refine⟨?_,?_,?_,D.d⟩;intro c o v w C;dsimp only at w;have r:¬l.fr d c:=by grind
 have aY:c≠d:=by rintro rfl;exact r (f.d _)
 rw[Us r]at w;obtain⟨aN,aa,R,y⟩:=D.c c o v w C;refine⟨aN,aa,R,?_⟩;obtain y|y|y:=y;exact Ur ⟨y,r⟩;refine Up (Ur ⟨?_,y.2⟩);simp only[am];grind;exact Up (Up y);intro c m;have i:=D.b c m.2;have r:¬l.fr d c:=λe=>m.1 (X c i.2.2.1 e);exact⟨i.1,by dsimp only;rw[Us r];exact i.2.1,i.2.2⟩;intro c H K;have i:=D.a c H K;have r:¬l.fr d c:=λe=>by have:=X c i.2.1 e;subst this;exact ao H K
 exact⟨by dsimp only;rw[Us r];exact i.1,i.2⟩;rw[lV rfl];refine⟨?_,?_,?_,?_⟩;intro c m;have:=V.b c m.1;dsimp only;grind;intro c b o v w C;dsimp only at v;have r:¬l.fr d c:=by grind
 rw[Us r]at v;have:=V.d c b (by grind) v w C;grind;intro c m;have i:=V.a c m.2;have u:=D.b c m.2;have r:¬l.fr d c:=λe=>m.1 (X c u.2.2.1 e);refine⟨by dsimp only;rw[Us r];exact i.1,by grind,λb aO aP=>?_⟩;have:=i.2.2 b aO aP;grind;intro c H K;have i:=V.c c H K;have u:=D.a c H K;have r:¬l.fr d c:=λe=>by have:=X c u.2.1 e;subst this;exact ao H K
 exact⟨by dsimp only;rw[Us r];exact i.1,by grind,i.2.2⟩
def C3{w o n A}(M:cL w o n A){e}(Y:o.aw e=F)(O)(Z:∀k,w.fg e k->O<=w.w e k):
 cL w {o with aw:=aj o.aw e T} {n with ph:=aj n.ph e 1,W:=aj n.W e O} {A with tk:=λa=>a=e\/A.tk a}:=by
 have aa:=vx M;obtain⟨Q,c,h,p,x,s⟩:=M;obtain⟨ap,ab,R,aq,ar⟩:=c.o e Y;have C:∀a,n.fr e a->a=e:=λa f=>(c.j e a ab f).symm;have au:∀a,n.fr a e->a=e:=λa f=>C a (c.g _ _ f);have ac:∀k,o.se e k=0:=λk=>by apply UC;intro i;have:=(c.e e k i).2;grind
 have y:∀a,o.aw a=T->aj o.aw e T a=T:=λa f=>by simp only[aj];grind
 have ad:∀k,n.bQ k≠S e:=λk ae=>by have:=(c.a k e ae).2;grind
 refine⟨λb d t l=>⟨(Q b d t l).1,y b (Q b d t l).2⟩,?_,?_,⟨p.a,p.c,p.h,p.g,p.b,p.e,p.f,p.d⟩,?_,?_⟩;refine⟨λb d t l=>⟨(c.C b d t l).1,y b (c.C b d t l).2⟩,λb d i=>⟨(c.e b d i).1,y b (c.e b d i).2⟩,?_,c.d,c.g,c.q,?_,c.j,c.n,c.v,c.D,c.E,c.b,c.a,?_,c.l,c.p,?_,c.s,c.y,c.f,c.r,?_,c.G,c.w,c.A,c.M,?_,c.x,c.H,c.K⟩;intro a f;simp only[aj]at f|-;have:=c.o a;grind;intro b d U;have:=c.c b d U;simp only[aj];by_cases i:b=e;subst i;have:=C d U;subst this;simp;by_cases V:d=e;grind;grind;intro b d X;have:b≠e:=by rintro rfl;have af:=X.1;dsimp only at af;have:=ac d;omega
 simp only[aj,Us this];exact(c.m b d X);intro b d ag;have j:=c.h b d ag;have:b≠e:=by rintro rfl;omega
 simp only[aj,Us this];exact j;intro a f;have:a≠e:=by rintro rfl;simp[aj]at f
 simp only[aj,Us this]at f;exact c.i a f;intro b a d g r q u;by_cases i:b=e;subst i;have:=C a r;subst this;simp only[aj,VR];exact Z d q;simp only[aj,Us i]at g|-;exact c.u b a d g r q u;have m:∀a,aj n.ph e 1 a=0↔n.ph a=0:=λa=>by simp only[aj];grind
 refine⟨?_,?_,?_,?_,?_,?_,h.g,?_,?_,h.n,?_,h.c,h.m,h.h,h.f,h.o⟩;intro a f;exact⟨(m a).2 (h.a a f).1,(h.a a f).2⟩;intro a g;exact h.d a ((m a).1 g);intro b d g;exact h.j b d ((m b).1 g);intro b d g;exact h.i b d ((m b).1 g);intro b d D E l g;exact h.p b d D E l ((m d).1 g);intro b d D E l;have j:=h.q b d D E l;exact⟨(m d).2 j.1,j.2⟩;intro b d g;exact h.l b d ((m b).1 g);intro b g;exact h.e b ((m b).1 g);intro b d ah l;obtain⟨G,H⟩|⟨G,H,ai,ak,al,K,am⟩:=h.b b d ah l;exact Ur ⟨(m d).2 G,H⟩;exact Up ⟨G,H,ai,ak,al,λi=>⟨(K i).1,(K i).2.1,λV=>(K i).2.2 ((m b).1 V)⟩,am⟩;refine⟨?_,?_,?_,x.d⟩;intro a g r q u;have:a≠e:=by rintro rfl;dsimp only at g;omega
 simp only[aj,Us this]at q;exact x.c a g r q u;intro a f;obtain rfl|f:=f;refine⟨by simp[aj],by simp[aj],R,by dsimp only;omega,λi=>by dsimp only at i;omega,λk l=>?_⟩;have av:dO∈o.q a k:=by unfold kX at l;exact(Vw.1 l).1
 grind;have j:=x.b a f;have:a≠e:=by rintro rfl;omega
 refine⟨y a j.1,by simp only[aj,Us this];exact j.2.1,j.2.2.1,j.2.2.2.1,?_,j.2.2.2.2.2⟩;simp only[aj,Us this];exact j.2.2.2.2.1;intro a v z;have j:=x.a a v z;have ax:=aa a v z;have:a≠e:=by rintro rfl;omega
 have an:v≠e:=by rintro rfl;omega
 simp only[aj,Us this,Us an];exact j;refine⟨?_,?_,?_,?_⟩;intro a f;have:=s.b a f;simp only[aj];grind;intro a d g r q u;have:a≠e:=by rintro rfl;exact q R
 simp only[aj,Us this]at r;exact s.d a d g r q u;intro a f;obtain rfl|f:=f;refine⟨by simp[aj],λi=>by have:=s.b a i;omega,λk _ ao=>(ad k ao.1).elim⟩;have j:=s.a a f;have:a≠e:=by rintro rfl;omega
 simp only[aj,Us this];exact j;intro a v z;have j:=s.c a v z;have:a≠e:=by rintro rfl;omega
 simp only[aj,Us this];exact j
def IZ{b c d f}(l:cL b c d f){u}(m:d.bB u=0)(v:∀n,¬b.fg u n):cL b {c with qK:=aj c.qK u T} d f:=by obtain⟨o,g,p,q,a,r⟩:=l;refine⟨o,g,p,q,⟨a.c,a.b,a.a,?_⟩,r⟩;intro e h i s j t;by_cases k:e=u;subst k;have:=g.j e i m j;grind;simp only[aj,Us k]at h;exact a.d e h i s j t
def C9{b c d e g f}(i:b c d=g++bG e::f):∃j,kS (am b c d (g++f))=am (kS b) c d j/\ci j=ci (kS b c d)/\bG e∈kS b c d/\(kS b c d).countP dA=j.countP dA+1/\(∀k,k∈j->k∈kS b c d)/\∀g f e l m,j=g++aL e l m::f->∃t q,kS b c d=t++aL e l m::q/\∀a,a∈f->a∈q:=by
 refine⟨g.filter (λa=>dA a||eF a)++f.filter λa=>dA a||eF a,?_,?_,?_,?_,?_,?_⟩;rw[Da,U2];simp only[kS,i,U2,Vr,dA,XM,VR,nC];rfl;simp only[kS,i];simp[dA];simp only[kS,i,U2,U0,Vr,VN,dA,XM,VR];omega;intro k u;simp only[kS,i];simp at u|-;grind;intro v r y l m n;have s:kS b c d=g.filter (λa=>dA a||eF a)++bG e::f.filter (λa=>dA a||eF a):=by simp only[kS,i,U2,Vr,dA,XM,VR]
 generalize g.filter (λa=>dA a||eF a)=P at n s;generalize f.filter (λa=>dA a||eF a)=Q at n s;obtain⟨o,w,p⟩|⟨o,w,p⟩:=Wq.1 n;refine⟨P++bG e::o,r,?_,λa h=>h⟩;grind;cases o with
 |nil=>
  refine⟨P++[bG e],r,?_,λa h=>h⟩;grind
 |cons a x=>
  simp at p;refine⟨v,x++bG e::Q,?_,λa h=>?_⟩;grind;rw[p.2]at h;simp at h|-;grind
def IX{k f A aa}(ag:cL k f A aa){b a p C D}(u:f.q b a=C++bG p::D)(H:f.se a b=1):
 cL k {f with q:=gG (am f.q b a (C++D)) a b (aL (f.bE a+1) (k.w a b) T)} A aa:=by
 obtain⟨v,ah,aN,ab,aO,aP,aQ⟩:=C9 u;obtain⟨ai,g,l,aj,ak,al⟩:=ag;obtain⟨ac,an,aR⟩:=g.l b a p ab;obtain⟨r,aS,aT,aU⟩:=an H;have E:=(g.C b a _ ab).1;have ao:b≠a:=by rintro rfl;exact k.jN _ E
 have ap:=(g.e a b (by omega)).2;have aq:=g.h a b ⟨r.2,r.1⟩;have ad:=(g.b b a ⟨ac,H⟩).1;have ar:=g.c b a ad;have ae:f.bE b+1=A.bB b/\ci (kS f.q a b)=[]:=by grind
 have au:A.j4 b=k.w a b:=by rw[ar.2.1];exact aq.2.1
 have aV:∀p,bG p∉v:=λp e=>by have aW:=g.p b a;have:=qL (show v.countP dA=0 by omega) _ e;simp[dA]at this
 have av:kS (gG (am f.q b a (C++D)) a b (aL (f.bE a+1) (k.w a b) T))=am (am (kS f.q) b a v) a b (kS f.q a b++[aL (f.bE a+1) (k.w a b) T]):=by rw[xz rfl,ah];congr 1;simp[am,ao.symm]
 have aw:kR (gG (am f.q b a (C++D)) a b (aL (f.bE a+1) (k.w a b) T))=am (kR f.q) a b (kR f.q a b++[aL (f.bE a+1) (k.w a b) T]):=by rw[zX rfl,sJ u rfl]
 refine⟨qN (pY ai u) (k.iK _ _ E) ap,?_,?_,?_,?_,?_⟩;rw[av];have G:∀c d,ci (am (am (kS f.q) b a v) a b (kS f.q a b++[aL (f.bE a+1) (k.w a b) T]) c d)=if c=a/\d=b then [(f.bE a+1,k.w a b,T)]else ci (kS f.q c d):=by intro c d;simp only[am];split;rw[nC,ae.2];rfl;split;grind;rfl
 have y:∀c d h i j,aL h i j∈am (am (kS f.q) b a v) a b (kS f.q a b++[aL (f.bE a+1) (k.w a b) T]) c d->(c=a/\d=b/\h=f.bE a+1/\i=k.w a b/\j=T)\/aL h i j∈kS f.q c d:=by intro c d h i j e;rw[<-jE,G]at e;split at e;grind;exact Up ((jE _).1 e)
 have K:∀c d h,bG h∈am (am (kS f.q) b a v) a b (kS f.q a b++[aL (f.bE a+1) (k.w a b) T]) c d↔bG h∈kS f.q c d/\¬(c=b/\d=a):=by intro c d h;simp only[am];split;grind;split;grind;grind
 refine⟨?_,g.e,g.o,g.d,g.g,g.q,g.c,g.j,g.n,g.v,g.D,g.E,g.b,g.a,?_,?_,?_,?_,g.s,?_,?_,g.r,g.i,g.G,g.w,?_,g.M,g.u,g.x,g.H,?_⟩;intro c d M e;simp only[am]at e;have:=g.C c d M;have:=k.iK b a E;grind;intro c d ax;have m:=g.m c d ax;refine⟨m.1,m.2.1,m.2.2.1,?_,m.2.2.2.2⟩;rw[K];refine⟨m.2.2.2.1,?_⟩;rintro⟨rfl,rfl⟩;grind;intro c d h e;rw[K]at e;exact g.l c d h e.1;intro c d;simp only[am];split;rename_i o;rw[U0];have:=g.p a b;simpa [dA]using this;split;have:=g.p b a;omega;exact g.p c d;intro c d ay;have m:=g.h c d ay;refine⟨m.1,m.2.1,?_⟩;rw[G];simp only[K];by_cases o:c=a/\d=b;grind;rw[Us o];obtain s|s|s:=m.2.2;grind;exact Up (Ur ⟨s.1,s.2.1,λh e=>s.2.2 h e.1⟩);right;right;refine⟨s.1,s.2.1,s.2.2,?_⟩;rintro⟨rfl,rfl⟩;exact o ⟨rfl,rfl⟩;intro c d z;have m:=g.y c d z;have az:¬(c=a/\d=b):=by rintro⟨rfl,rfl⟩;exact z.2 r.2
 have aA:¬(d=a/\c=b):=by rintro⟨rfl,rfl⟩;exact z.2 r.1
 rw[G,G,Us az,Us aA];exact m;intro c d h i j e;obtain⟨rfl,rfl,rfl,rfl,rfl⟩|e:=y c d h i j e;exact⟨r.1,by omega,λ_=>au.symm⟩;exact g.f c d h i j e;intro c d h i j e;obtain⟨rfl,rfl,rfl,rfl,rfl⟩|e:=y c d h i j e;exact⟨c,d,k.iK _ _ E,⟨H,ac⟩,rfl,ad⟩;exact g.A c d h i j e;intro c d aB aC h i j w O e;simp only[am]at w;by_cases o:c=a/\d=b;rw[UG o]at w;have aD:∀p i j,aL p i j∉kS f.q a b:=λp i j e=>by have:=(jE _).2 e;rw[ae.2]at this;cases this
 obtain⟨Q,x,n⟩|⟨Q,x,n⟩:=Wq.1 w;cases Q with
 |nil=>simp at n;rw[n.2]at e;cases e
 |cons M aE=>simp at n
 cases Q with
 |nil=>simp at n;rw[n.2]at e;cases e
 |cons M aE=>
  simp at n;refine aD h i j ?_;grind
 rw[Us o]at w;by_cases aF:c=b/\d=a;grind;rw[Us aF]at w;exact g.K c d aB aC h i j w O e;rw[aw];have y:∀c d h i j,aL h i j∈am (kR f.q) a b (kR f.q a b++[aL (f.bE a+1) (k.w a b) T]) c d->(c=a/\d=b/\h=f.bE a+1/\j=T)\/aL h i j∈kR f.q c d:=by intro c d h i j e;simp only[am]at e;split at e;rename_i o;simp at e;grind;grind
 have af:∀c d t,bH t∈am (kR f.q) a b (kR f.q a b++[aL (f.bE a+1) (k.w a b) T]) c d↔bH t∈kR f.q c d:=by intro c d t;simp only[am];split;grind;rfl
 refine⟨l.a,l.d,l.j,l.i,?_,?_,l.g,l.l,l.e,l.n,?_,?_,?_,?_,l.f,l.o⟩;intro c d h i e R U;obtain⟨_,_,_,o⟩|e:=y c d h i F e;cases o;exact l.p c d h i e R U;intro c d h i e;obtain⟨rfl,rfl,rfl,_⟩|e:=y c d h i T e;refine⟨?_,by omega,l.o d c r (by omega),λz=>(z.2 r.2).elim⟩;omega;exact l.q c d h i e;intro c d t e;rw[af]at e;obtain⟨x,n,V,W,X,Y,Z,aG⟩|⟨x,n,V,W,X,Y,Z⟩:=l.b c d t e;left;refine⟨x,n,V,W,X,Y,Z,?_⟩;have:¬(d=a/\c=b):=by rintro⟨rfl,rfl⟩;omega
 simp only[am,Us this];exact aG;right;have:¬(d=a/\c=b):=by rintro⟨rfl,rfl⟩;exact x.2 r.2
 refine⟨x,n,V,W,X,Y,?_⟩;simp only[am,Us this];exact Z;intro c d;simp only[am];split;rw[U0];have:=l.c b a;simpa [dN]using this;exact l.c c d;intro c d R U aH aI;exact l.m c d R U aH λt e=>aI t ((af d c t).2 e);intro c aJ;obtain⟨aK,aM,O,aX⟩:=l.h c aJ;refine⟨aK,aM,O,λaY=>?_⟩;grind;rw[tX rfl,tY u rfl];exact aj;rw[lV rfl,kZ u rfl];exact ak;rw[lV rfl,kZ u rfl];exact al
end Go.Proofs.YtlfijfodklhplaaGreat.Ghs
