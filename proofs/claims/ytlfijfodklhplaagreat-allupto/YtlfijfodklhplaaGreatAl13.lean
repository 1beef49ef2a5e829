import Derived.Test.YtlfijfodklhplaaGreatAl06
import Derived.Test.YtlfijfodklhplaaGreatAl09
import Derived.Test.YtlfijfodklhplaaGreatAl12
set_option maxRecDepth 100000
set_option maxHeartbeats 4000000
set_option linter.all false
open Go.RowKit Go.Proofs.Tryz
open Go.Value renaming int->I,slice->L,pointer->P,bool->B
open Go.IntKind renaming i64->J
open Option renaming some->S,none->N
open Bool renaming true->T,false->F
namespace Go.Proofs.YtlfijfodklhplaaGreat
abbrev oM(a:Ed):Value:= .agg #[I J a.a,I J a.b,I J a.c]
def pL(b:Int)(a:Ed):Bool:= !(decide (0<=a.a)&&decide (a.a<b))|| !(decide (0<=a.b)&&decide (a.b<b))||(a.a==a.b)
def rg(a:Ed):Bool:=decide (a.c<1)||decide (1000<a.c)
def ro(a b:Ed):Bool:=a.c==b.c
def mi(a b:Ed):Bool:=(a.a==b.a&&a.b==b.b)||(a.a==b.b&&a.b==b.a)
def uz(d):∀a b,d[a]?=S b->(cA d)[a*3]?=S (.int J b.a)/\(cA d)[a*3+1]?=S (.int J b.b)/\(cA d)[a*3+2]?=S (.int J b.c):=by
 induction d with
 |nil=>intro a b c;simp at c
 |cons e f g=>
  intro a b c;have h:cA (e::f)=e.cells++cA f:=by simp[cA]
  rw[h];cases a with
  |zero=>
   simp at c;subst c;exact⟨rfl,rfl,rfl⟩
  |succ a=>
   rw[UH]at c;have:=g a b c;have i:e.cells.length=3:=rfl;rw[Ut (by omega),Ut (by omega),Ut (by omega),i];rw[show (a+1)*3-3=a*3 by omega,show (a+1)*3+1-3=a*3+1 by omega,show (a+1)*3+2-3=a*3+2 by omega];exact this
def mN{b c d e}(f:mU b c d e)(k a)(g:e[k]?=S a):
 b.cell? ⟨c,d+k*3,N⟩=S (.int J a.a)/\b.cell? ⟨c,d+k*3+1,N⟩=S (.int J a.b)/\b.cell? ⟨c,d+k*3+2,N⟩=S (.int J a.c):=by
 obtain⟨h,i,j⟩:=uz e k a g;exact⟨f _ _ h,f _ _ i,f _ _ j⟩
def gh(b:World)(e:Option Addr)(c:List Ed):Prop:=c=[]\/∃a d,e=S ⟨a,d,N⟩/\a<b.heap.size/\mU b a d c
def gh.a{a w' b c}(e:gh a b c)(k:ae aa a w'):gh w' b c:=
 e.imp id λ⟨f,g,h,d,i⟩=>⟨f,g,h,Un d k.size,i.a k d λj=>j⟩
def gh.b{b:World}{e:Option Addr}{c:List Ed}(a:gh b e c){i:Nat}(f:i<c.length):∃d g,e=S ⟨d,g,N⟩/\d<b.heap.size/\mU b d g c:=by obtain a|a:=a;rw[a]at f;simp at f;exact a
def yK{a:List Ed}{k c}(d:a[k]?=S c){b}:b∈a.take (k+1)↔b∈a.take k\/b=c:=by rw[Vz,d];simp
def Ob(k a b):Cr 50 #[.int J k,.int J a] b (B (decide (0<=k)&&decide (k<a))) λc=>b=c:=by
 go_enter func50,ntmps50;go_wp2;all_goals
  go_ret;refine⟨?_,rfl⟩;simp_all<;>omega
def TW(a b):Cr 52 #[oM a] b (B (rg a)) λc=>ae aa b c:=by
 obtain⟨d,e,f⟩:=a;go_enter func52,ntmps52;go_wp2;all_goals
  go_ret;refine⟨?_,(ae.a aa b).b _⟩;simp_all [rg]
def TV(a b c):Cr 54 #[oM a,oM b] c (B (ro a b)) λd=>ae aa c d:=by
 obtain⟨e,f,g⟩:=a;obtain⟨h,i,j⟩:=b;go_enter func54,ntmps54;go_wp2;all_goals
  go_ret;refine⟨?_,((ae.a aa c).b _).b _⟩;simp_all [ro]
def Oj(a b c):Cr 55 #[oM a,oM b] c (B (mi a b)) λd=>ae aa c d:=by
 obtain⟨e,f,g⟩:=a;obtain⟨h,i,j⟩:=b;go_enter func55,ntmps55;go_wp2;all_goals
  go_ret;refine⟨?_,((ae.a aa c).b _).b _⟩;simp_all [mi]
def Tg(f b e a)(j:a.cell? ⟨f,0,N⟩=S (.int J b)):
 Cr 49 #[oM e,P (S ⟨f,0,N⟩)] a (B (pL b e)) λc=>ae aa a c:=by
 obtain⟨g,h,m⟩:=e;have k:=UL a _ j;simp only at k;have i(_:=()):∀d a,Cr 50 #[.int J d,I J b] a (B (decide (0<=d)&&decide (d<b))) λc=>a=c:=λd a=>Ob d b a;go_enter func49,ntmps49;go_wp2_with fail;refine(i () _ _).mono ?_;rintro l c ⟨rfl,rfl⟩;cases n:(decide (0<=g)&&decide (g<b))
 .go_wp2;go_ret;refine⟨?_,((ae.a aa a).b _)⟩;simp_all [pL]<;>omega
 .go_wp2_with fail;refine(i () _ _).mono ?_;rintro l c ⟨rfl,rfl⟩;cases o:(decide (0<=h)&&decide (h<b))
  .go_wp2;go_ret;refine⟨?_,((ae.a aa a).b _)⟩;simp_all [pL]<;>omega
  .go_wp2;all_goals
    go_ret;refine⟨?_,((ae.a aa a).b _)⟩;simp_all [pL]
def A4{a b c d}(e:eB a b c d):gp a b c d:=by obtain⟨f,g,h⟩:=e;exact⟨f,g,by simp;omega⟩
def dL.h{f a g b c d e}(h:dL f a g b c e)(i:c.length=d*b)(j:d<=e):RV f g b (S ⟨a,0,N⟩) d e c:=
 let ⟨k,l,m⟩:=h
 ⟨i,j,Up ⟨a,0,rfl,[],k,by simpa using l,rfl,by omega⟩⟩
def yB(a b):ag (S ⟨a,b,N⟩)=ap a:=funext λ_=>propext cM
def zm{d b f k e i c l g m j h a t}(y:(convert 56 9 (L c b f)).run prog a= .ok (.string t) a)(z:(convert 56 9 (L l b k)).run prog a= .ok (.string t) a)(n:aq a d h 73)(o:h[2]?=S (L g e i))(p:¬ag c d)(q:lu a g e i 106 j λr=>ag c r\/r=d)(s:RV a 5 1 c b f m)(u:(b:Int)<=140737488351300)(v:(e:Int)<1099511627776):
 Cr 78 #[P (S ⟨d,0,N⟩),L c b f,L l b k] a (B T) λA=>Bk 0 (ag c) a A d e g j h:=by
 have w:Hid _:=ye 0 (by omega) d c b f m g e i j h a n o p q s u v;clear n q s o p u v;go_enter func78,ntmps78;go_wp2_with fail;refine Uq w.out ?_;rintro D E ⟨rfl,x⟩;have C:=@af _ x;clear x w y z;go_wp2;go_ret;exact⟨rfl,C⟩
def Fb{b c f d}(e:rE b c d f)(k a)(g:d[k]?=S a):
 b.cell? ⟨c,k*3,N⟩=S (.int J a.a)/\b.cell? ⟨c,k*3+1,N⟩=S (.int J a.b)/\b.cell? ⟨c,k*3+2,N⟩=S (.int J a.c):=by
 obtain⟨h,i,j⟩:=uz d k a g;exact⟨e.c _ _ h,e.c _ _ i,e.c _ _ j⟩
def MZ(k)(a:k<8):(jV 8)[k]?=S ⟨900+(k:Int),901, -902⟩:=by simp[jV,a]
def Gt(a b c d):(binOp .eql 26 (L b c d) (L N 0 0)).run prog a= .ok (B b.isNone) a:=
 Vq a 26 30 b c d 0 0 underlying26
def He(b c a):
 Cr 75 #[P (S ⟨b,0,N⟩),c,L N 0 0] a (B T) λd=>a=d:=by
 have e:=Gt;go_enter func75,ntmps75;go_wp2;go_ret;exact⟨rfl,rfl⟩
def Hf(h e l r K c n m s p o d)(y:aq d h o 73)(z:o[3]?=S (L n m s))(M:h≠e)(A:lu d n m s 109 p λC=>C=e\/C=h)(q:rE d e (c++jV 8) l)(O:c.length+8<=l)(D:gh d (S r) c)(t:(c.length:Int)<=5864062014700)(E:(m:Int)<1099511627776):
 Cr 75 #[P (S ⟨h,0,N⟩),L (S ⟨e,0,N⟩) c.length l,L (S r) c.length K] d (B T) λu=>∃f,Bk 1 (ap e) (d.drewN f) u h m n p o:=by
 have Q:=Gt;have R(_:=()):∀a b,c[a]?=S b->d.cell? ⟨e,a*3,N⟩=S (I J b.a)/\d.cell? ⟨e,a*3+1,N⟩=S (I J b.b)/\d.cell? ⟨e,a*3+2,N⟩=S (I J b.c):=λa b g=>
  Fb q a b (by rw[Ux (Ul.1 g).1];exact g)
 have U(_:=()):∀a b,c[a]?=S b->∃i j,r=⟨i,j,N⟩/\d.cell? ⟨i,j+a*3,N⟩=S (I J b.a)/\d.cell? ⟨i,j+a*3+1,N⟩=S (I J b.b)/\d.cell? ⟨i,j+a*3+2,N⟩=S (I J b.c):=λa b g=>by obtain⟨i,j,V,_,W⟩:=D.b (Ul.1 g).1;cases V;exact⟨i,j,rfl,mN W a b g⟩
 have X(_:=()):∀a,a<8->d.cell? ⟨e,(c.length+a)*3,N⟩=S (I J (900+(a:Int)))/\d.cell? ⟨e,(c.length+a)*3+1,N⟩=S (I J 901)/\d.cell? ⟨e,(c.length+a)*3+2,N⟩=S (I J (-902)):=λa g=>
  Fb q (c.length+a) ⟨900+(a:Int),901, -902⟩ (by rw[Ut (by omega),Wh,MZ a g])
 have Y(_:=()):∀f,Cr 123 #[P (S ⟨h,2,N⟩),L (S ⟨e,0,N⟩) c.length l] (d.drewN f) (.tuple #[]) λu=>Bk 1 (ap e) (d.drewN f) u h m n p o:=λf=>by have v:=(ae.a aa d).drewN f;have G:=q.g (cA c).length;rw[vR,Wp]at G;have:=ye 1 (by omega) h (S ⟨e,0,N⟩) c.length l (cA c) n m s p o (d.drewN f) (y.c v λb=>b) z (λb=>M (cM.1 b)) (by rw[yB];exact A.b v λ_ _ _ b=>b) (dL.h (dL.a G v λb=>b) (tf c) (by omega)) t E;rw[yB]at this;exact this
 clear y A q D E z;have aj:IntKind.i64.wrap ((c.length:Int)+8)=(c.length:Int)+8:=by rw[VM];omega
 have ak:(c.length:Int)+8<=(l:Int):=by omega
 have al:=@af _ t;go_enter func75,ntmps75;go_wp2_with fail;clear Q;go_loopw [8,9] (λw k wr=>∃a f:Nat,a<=c.length/\k= .int J a/\w=B T/\wr=d.drewN f) λ_ k _=>c.length-(intOf k).toNat;case atStart=>exact⟨0,0,by omega,rfl,rfl,rfl⟩
 case round=>
  obtain⟨a,f,g,rfl,rfl,rfl⟩:=hrel;by_cases Z:a<c.length
  .obtain⟨b,x⟩:∃b,c[a]?=S b:=⟨_,Um Z⟩
   obtain⟨ab,ac,ad⟩:=R () a b x;obtain⟨i,j,rfl,am,an,ao⟩:=U () a b x;clear x;go_wp2_with fail;go_quiet (fail);go_wp2;exact⟨⟨a+1,f+nq,by omega,by go_num,rfl,rfl⟩,by simp[intOf];omega⟩
  .go_wp2_with fail;go_loopw [8,10] (λw k wr=>∃a:Nat,a<=8/\k= .int J a/\w=B T/\wr=d.drewN f) λ_ k _=>8-(intOf k).toNat;case atStart=>exact⟨0,by omega,rfl,rfl,rfl⟩
   case round=>
    obtain⟨a,g,rfl,rfl,rfl⟩:=hrel;by_cases ag:a<8
    .obtain⟨ab,ac,ad⟩:=X () a ag;have ar:(a:Int)<8:=by omega
     go_wp2;exact⟨⟨a+1,by omega,by go_num,rfl,VU⟩,by simp[intOf];omega⟩
    .have ah:a=8:=by omega
     subst ah;clear t O;go_wp2_with fail;refine Uq (Y () f) ?_;rintro b au ⟨rfl,H⟩;have ai:=@af _ H;clear H;go_wp2;go_ret;exact⟨rfl,f,ai⟩
def Qe(b a)(c:aq a b #[L N 0 0,.int J 0] 330):
 Calls prog 225 #[P (S ⟨b,0,N⟩)] a λd e=>d= .panicked oT/\ae aa a e:=by
 have f:=c.a 0;have g:=c.a 1;simp at f g;go_enter func225,ntmps225;go_wp2;go_region_dies;all_goals
  refine(tt _).mono ?_;rintro d e ⟨rfl,rfl⟩;exact⟨rfl,rfl,(ae.a _ _).drew⟩
def Le(a b)(d:aq b a #[L N 0 0,.int J 0] 330):
 Calls prog 209 #[P (S ⟨a,0,N⟩)] b λc e=>c= .panicked oT/\ae aa b e:=by
 have f:=d.g (.cells (fc F 0 0 0 0 F) 78);go_enter func209,ntmps209;go_wp2_with fail;refine(Qe a _ f).mono ?_;rintro c h ⟨rfl,g⟩;exact⟨rfl,rfl,((ae.a _ _).b _).c g⟩
def Rj(a):
 Calls prog 181 #[L N 0 0] a λb c=>b= .panicked oT/\ae aa a c:=by
 have d:=aq.h (a.alloc (.cells (fc F 0 0 0 0 F) 78)) #[L N 0 0,I J 0] 330 (a.heap.size+1) (by simp);go_enter func181,ntmps181;go_wp2_with fail;refine(Le (a.heap.size+1) _ d).mono ?_;rintro b f ⟨rfl,e⟩;exact⟨rfl,rfl,(((ae.a _ _).b _).b _).c e⟩
def EU(a):
 Cr 128 #[L N 0 0] a (.tuple #[.agg (fc F 0 0 0 0 F),.int J 9]) λo=>ae aa a o:=by
 have t:∀(e:Fn)(first g:Array Value)(a:World),(Instr.makeFunc e first g).run prog a= .ok (.func e first g) a:=λ_ _ _ _=>rfl;go_enter_defers func128,ntmps128;go_wp2_with fail;refine(Rj _).mono ?_;rintro b u ⟨rfl,d⟩;have p:=((aq.e a (fc F 0 0 0 0 F) 78).g (.cells #[I J 0] 32)).c d λb=>b;have q:=(aq.h (a.alloc (.cells (fc F 0 0 0 0 F) 78)) #[I J 0] 32 (a.heap.size+1) (by simp)).c d λb=>b;refine leaves_cons (f:=180) (args:= #[P (S ⟨a.heap.size,0,N⟩),P (S ⟨a.heap.size+1,0,N⟩)]) (by simp) (by simp[go_sem]) ?_;refine(EH a.heap.size (a.heap.size+1) vJ.a 0 _ p q (by omega) (by omega)).mono ?_;rintro b v w ⟨rfl,rfl,c,r,s⟩;have h:=c.a 0;have i:=c.a 1;have j:=c.a 2;have k:=c.a 3;have l:=c.a 4;have m:=c.a 5;have n:=r.a 0;simp at h i j k l m n;refine⟨.tuple #[.agg (fc F 0 0 0 0 F),I J 9],?_,rfl,?_⟩;simp[results,results128,go_sem,h,i,j,k,l,m,n];exact((((ae.a aa a).b _).b _).c d).g s λx y b=>by obtain b|b:=b<;>omega
def KM(c):
 Cr 80 #[L N 0 0] c (.tuple #[.agg (fc F 0 0 0 0 F),.int J 9]) λl=>ae aa c l:=by
 go_enter func80,ntmps80;go_wp2_with fail;refine(EU _).mono ?_;rintro d u ⟨rfl,e⟩;have a:=(aq.e c (fc F 0 0 0 0 F) 78).c e λd=>d;have m:=a.a 0;have n:=a.a 1;have o:=a.a 2;have p:=a.a 3;have q:=a.a 4;have r:=a.a 5;have w:=λs=>a.d s;simp at m n o p q r;go_wp2;have b:=a.j F 0 0 0 0 F;have t:=(((ae.a aa c).b _).c e).i c.heap.size (λx=>by omega) F 0 0 0 0 F;have f:=b.a 0;have g:=b.a 1;have h:=b.a 2;have i:=b.a 3;have j:=b.a 4;have k:=b.a 5;simp only[UN]at f g h i j k;exact UO (v:= .tuple #[.agg (fc F 0 0 0 0 F),I J 9]) (by simp[results,results80,go_sem,f,g,h,i,j,k]) rfl ⟨rfl,t⟩
def oP(b:Value)(a:Nat->Bool)(c:Nat)(d:Value):Array Value:=
 #[b,B (a 0),B (a 1),B (a 2),B (a 3),B (a 4),B (a 5),B (a 6),B (a 7),B (a 8),B (a 9),I J (c:Int),d]
def fC(b:Nat->Bool)(k:Nat)(a:Nat):Bool:=if a=k then T else b a
def Fw(b a c d k)(e:k<10):(oP b a c d)[1+k]?=S (B (a k)):=by
 match k,e with
 |0,_=>rfl
 |1,_=>rfl
 |2,_=>rfl
 |3,_=>rfl
 |4,_=>rfl
 |5,_=>rfl
 |6,_=>rfl
 |7,_=>rfl
 |8,_=>rfl
 |9,_=>rfl
def NH(a b c d k)(e:k<10):(oP a b c d).setIfInBounds (1+k) (B T)=oP a (fC b k) c d:=by
 match k,e with
 |0,_=>rfl
 |1,_=>rfl
 |2,_=>rfl
 |3,_=>rfl
 |4,_=>rfl
 |5,_=>rfl
 |6,_=>rfl
 |7,_=>rfl
 |8,_=>rfl
 |9,_=>rfl
structure Gw(d:Nat->Prop)(e i:World)(f:Nat)(l:Value)(m:Nat->Bool)(n:Nat)(g:Option Addr)(j k:Nat)(o:List Th):Prop where
 a:ae d e i
 b:d f\/e.heap.size<=f
 heap:rQ i f 12 (oP l m n (L g j k)) 174 g j k o
 c:∀h,g=S ⟨h,0,N⟩->d h\/e.heap.size<=h
def Gw.d{c d e w1 f g h i j l m n}(a:Gw c d e f g h i j l m n)(k:ae aa e w1):Gw c d w1 f g h i j l m n:=
 ⟨a.a.g k λ_ _ b=>b.elim,a.b,⟨a.heap.a.c k λb=>b,a.heap.c,a.heap.b,a.heap.e,a.heap.d.imp id λ⟨o,p,q,r⟩=>⟨o,p,q,r.a k λb=>b⟩⟩,a.c⟩
def Gw.e{m n o w' e f g h i p q t r}(b:Gw m n o e f g h i p q t)(u:rR o w' e 12 (oP f g h (L i p q)) 174 i r):
 ∃j k l c,Gw m n w' e f g h j k l c/\r c:=by
 obtain⟨j,k,l,c,v,w,x,y⟩:=u;have C:=b.a.size;refine⟨j,k,l,c,⟨b.a.g y λz D a=>?_,b.b,v,λs A=>?_⟩,w⟩;obtain a|a:=a;obtain d|d:=b.b;grind;omega;obtain d|d:=b.c z a;exact d;omega;obtain a|a:=x s A;exact b.c s a;grind
def Gw.g{k l a b e f g c h i j}(m:Gw k l a b e f g c h i j):Gw (λd=>d=b\/c=S ⟨d,0,N⟩) a a b e f g c h i j:=
 ⟨ae.a _ _,Ur (Ur rfl),m.heap,λd n=>Ur (Up n)⟩
def Gw.f{g h i w' d o p q j r s t k l m a' n' c' n}(b:Gw g h i d o p q j r s t)(f:Gw (λc=>c=d\/j=S ⟨c,0,N⟩) i w' d k l m a' n' c' n):Gw g h w' d k l m a' n' c' n:=by have w:=b.a.size;refine⟨b.a.g f.a λu x a=>?_,b.b,f.heap,λc v=>?_⟩;obtain a|a:=a;obtain e|e:=b.b;grind;omega;obtain e|e:=b.c u a;exact e;omega;obtain(a|a)|a:=f.c c v;rw[a];exact b.b;exact b.c c a;omega
def pN(b:List Ed)(k:Int)(c:Th):Prop:=∃a∈b,(a.a=k\/a.b=k)/\c=⟨a,a.c⟩
def Rh(d e a b f c g h i j l k)(m:Gw d e a b f c g h i j l)(n:k<10)(o:c k=T):
 Cr 102 #[P (S ⟨b,0,N⟩),.int J k] a (.tuple #[]) λp=>a=p:=by
 have q:=m.heap.a.a (1+k);rw[Fw _ _ _ _ _ n,o]at q;go_enter func102,ntmps102;go_wp2;refine UO (VX rfl _ _ _) rfl ?_;simp
def Ct{b:List Ed}{c a}(e:b[c]?=S a)(k d):pN (b.take (c+1)) k d↔pN (b.take c) k d\/((a.a=k\/a.b=k)/\d=⟨a,a.c⟩):=by
 have f:b.take (c+1)=b.take c++[a]:=by rw[Vz,e];rfl
 unfold pN;grind
def Gw.h{f g c a h i d j l m n}(b:Gw f g c a h i d j l m n)(k)(r:k<10):
 Gw f g ((c.setCell ⟨a,1+k,N⟩ (B T)).setCell ⟨a,11,N⟩ (.int J ((d:Int)+1))) a h (Go.Proofs.YtlfijfodklhplaaGreat.fC i k) (d+1) j l m n:=by
 have o:ae (ap a) c ((c.setCell ⟨a,1+k,N⟩ (B T)).setCell ⟨a,11,N⟩ (I J ((d:Int)+1))):=((ae.a (ap a) c).e (p:=⟨a,1+k,N⟩) (λ_=>rfl) _).e (p:=⟨a,11,N⟩) (λ_=>rfl) _;have s:=(b.heap.a.f (1+k) (B T)).f 11 (I J ((d:Int)+1));rw[NH _ _ _ _ _ r]at s;refine⟨b.a.g o (λx y e=>by simp only[ap]at e;obtain t|t:=b.b;grind;omega),b.b,⟨?_,rfl,b.heap.b,b.heap.e,b.heap.d.imp id λ⟨u,v,q,w⟩=>⟨u,v,q,w.a o λe=>q e.symm⟩⟩,b.c⟩
 assumption
def Rg(w x Y l X u c y o Z v ab z k)(b:Gw w x Y l (L u c.length X) y o Z v ab z)(av:k<10)(aw:y k=F)(ax:gh x u c)(ay:∀ac az,0<c.length->u=S ⟨ac,az,N⟩->¬w ac)(aA:c.length<=30)(aB:(v:Int)<1000)(aD:(o:Int)<1000):
 Cr 102 #[P (S ⟨l,0,N⟩),.int J k] Y (.tuple #[]) λaN=>∃p h q i,Gw w x aN l (L u c.length X) (fC y k) (o+1) p h q i/\
  h<=v+c.length/\∀a,a∈i↔a∈z\/pN c (k:Int) a:=by
 have aE:=b.heap.a.a (1+k);rw[Fw _ _ _ _ _ av,aw]at aE;have aO:=b.heap.a.d (1+k);have aF:=b.heap.a.a 0;have aG:=b.heap.a.a 11;have aP:=b.heap.a.d 11;simp[oP]at aF aG;have aZ:(k:Int)<10:=by omega
 have a0:¬(1+k=11):=by omega
 have a1:¬(1+k=0):=by omega
 have aQ:=@af _ b;have A:=@lP _ _ _ _ _ ax aA aB aD av;have aR:=@af _ ay;have aH:wrap64 ((o:Int)+1)=(o:Int)+1:=by unfold wrap64;omega
 clear b aw ax aA aB aD ay;go_enter func102,ntmps102;go_wp2_with fail;try simp only[aH]
 clear aH;obtain⟨aS,ad⟩:=ah ((Y.setCell ⟨l,1+k,N⟩ (B T)).setCell ⟨l,11,N⟩ (I J ((o:Int)+1)));rw[<-ad];have aT(_:=()):Gw w x aS l (L u c.length X) (fC y k) (o+1) Z v ab z:=by rw[ad];exact aQ.h k A.2.2.2.2
 clear ad aE aO aF aG aP;go_loopw [29] (λag wr=>∃(d:Nat)(p:Option Addr)(h q:Nat)(i:List Th),d<=c.length/\ag= .int J d/\Gw w x wr l (L u c.length X) (fC y k) (o+1) p h q i/\h<=v+d/\∀a,a∈i↔a∈z\/pN (c.take d) (k:Int) a) λag _=>c.length-(intOf ag).toNat;case atStart=>exact⟨0,Z,v,ab,z,by omega,rfl,aT,by omega,λa=>⟨Ur,λb=>b.elim id λ⟨C,D,_⟩=>by simp at D⟩⟩
 case round=>
  obtain⟨d,p,h,q,i,a2,rfl,aI,aJ,aK⟩:=hrel;have e:=@cf _ _ _ aI aJ aK;clear aI aJ aK;by_cases aL:d<c.length;obtain⟨C,D⟩:∃C,c[d]?=S C:=⟨_,Um aL⟩
  obtain⟨ac,az,rfl,ai,aM⟩:=A.1.b aL;obtain⟨aj,ak,al⟩:=mN (aM.a e.1.a ai (aR () _ _ (by omega) rfl)) d C D;have a3:=Un ai e.1.a.size;have a4:(d:Int)<c.length:=by omega
  have a5:(d:Int)<1000:=by have:=A;omega
  obtain⟨E,G,f⟩:=C;simp only at aj ak al;have am:=@af _ D;clear D aM ai;by_cases r:E=(k:Int)
  .as_aux_lemma=>
   subst r;have H(_:=()):∀a,pN (c.take (d+1)) (k:Int) a↔pN (c.take d) (k:Int) a\/a=⟨⟨(k:Int),G,f⟩,f⟩:=λa=>by rw[Ct am];exact⟨λb=>b.imp id λb=>b.2,λb=>b.imp id λb=>⟨Ur rfl,b⟩⟩
   go_wp2_with fail;obtain⟨s,m⟩:=ah (wr.alloc (.cells #[I J k,I J G,I J f] 30));have g:aq s wr.heap.size #[I J k,I J G,I J f] 30:=by rw[m];exact aq.e _ _ _
   have an:ae aa wr s:=by rw[m];exact(ae.a aa wr).b _
   rw[<-m];obtain⟨aU,K⟩:=ah wr.heap.size;rw[<-K]at g|-;have M:=g.a 0;have O:=g.a 1;have Q:=g.a 2;simp at M O Q;have R:=@af _ (e.1.d an.drew);clear m g K aj ak al;have U:=@af _ (Eh l 12 _ 174 p h q i ⟨(k:Int),G,f⟩ f s.drew R.heap (by have:=e.2.1;have:=A;omega));go_still_tail 6,(by kernel_rfl)
   go_wp2_with fail;refine U.mono ?_;rintro aV aW ⟨rfl,t⟩;obtain⟨ao,ap,ar,au,V,W⟩:=R.e t;have n:=@aC _ _ V W;clear t V W U M O Q;go_wp2;go_roundw;case rel=>
    refine⟨d+1,ao,ap,ar,au,by omega,by go_num,n.1,?_,λa=>?_⟩;have r:=n.1.heap.b;have j:=n.2.1;have t:=e.1.heap.b;have aX:=e.2.1;rw[Uu]at j;simp at j;omega;rw[n.2.2 a,UP,e.2.2 a,H () a,or_assoc];simp
   case measure=>simp[intOf];omega
  by_cases j:G=(k:Int)
  .as_aux_lemma=>
   subst j;have H(_:=()):∀a,pN (c.take (d+1)) (k:Int) a↔pN (c.take d) (k:Int) a\/a=⟨⟨E,(k:Int),f⟩,f⟩:=λa=>by rw[Ct am];exact⟨λb=>b.imp id λb=>b.2,λb=>b.imp id λb=>⟨Up rfl,b⟩⟩
   go_wp2_with fail;clear r;obtain⟨s,m⟩:=ah (wr.alloc (.cells #[I J E,I J k,I J f] 30));have g:aq s wr.heap.size #[I J E,I J k,I J f] 30:=by rw[m];exact aq.e _ _ _
   have an:ae aa wr s:=by rw[m];exact(ae.a aa wr).b _
   rw[<-m];obtain⟨aU,K⟩:=ah wr.heap.size;rw[<-K]at g|-;have M:=g.a 0;have O:=g.a 1;have Q:=g.a 2;simp at M O Q;have R:=@af _ (e.1.d an.drew);clear m g K aj ak al;have U:=@af _ (Eh l 12 _ 174 p h q i ⟨E,(k:Int),f⟩ f s.drew R.heap (by have:=e.2.1;have:=A;omega));go_still_tail 6,(by kernel_rfl)
   go_wp2_with fail;refine U.mono ?_;rintro aV aW ⟨rfl,t⟩;obtain⟨ao,ap,ar,au,V,W⟩:=R.e t;have n:=@aC _ _ V W;clear t V W U M O Q;go_wp2;go_roundw;case rel=>
    refine⟨d+1,ao,ap,ar,au,by omega,by go_num,n.1,?_,λa=>?_⟩;have r:=n.1.heap.b;have j:=n.2.1;have t:=e.1.heap.b;have aX:=e.2.1;rw[Uu]at j;simp at j;omega;rw[n.2.2 a,UP,e.2.2 a,H () a,or_assoc];simp
   case measure=>simp[intOf];omega
  .as_aux_lemma=>
   have H(_:=()):∀a,pN (c.take (d+1)) (k:Int) a↔pN (c.take d) (k:Int) a:=λa=>by rw[Ct am];exact⟨λb=>b.elim id λb=>(b.1.elim r j).elim,Ur⟩
   go_wp2_with fail;rename_i b;simp[r,j]at b
   .clear r j;go_roundw;case rel=>exact⟨d+1,p,h,q,i,by omega,by go_num,e.1.d ((ae.a aa wr).b _),by have:=e.2.1;omega,λa=>by rw[H];exact e.2.2 a⟩
    case measure=>simp[intOf];omega
  .have aY:d=c.length:=by omega
   subst aY;go_wp2;go_end0;refine⟨rfl,p,h,q,i,e.1,e.2.1,λa=>?_⟩;have:=e.2.2 a;rwa [Vu]at this
def fW(a:Nat->Bool):Nat->Nat
 |0=>0
 |b+1=>fW a b+(if a b=T then 1 else 0)
def vO(b a):fW b a<=a:=by
 induction a with
 |zero=>exact UF _
 |succ a c=>simp only[fW];split<;>omega
def Lz(c a)(d:fW c a=a):∀b,b<a->c b=T:=by
 induction a with
 |zero=>intro b f;omega
 |succ a g=>
  simp only[fW]at d;have:=vO c a;intro b f;by_cases e:c a=T;rw[UG e]at d;by_cases h:b=a;grind;exact g (by omega) b (by omega);rw[Us e]at d;omega
def Lw(c a)(d:∀b,b<a->c b=T):fW c a=a:=by
 induction a with
 |zero=>rfl
 |succ a e=>simp only[fW];rw[e (λb f=>d b (by omega)),UG (d a (by omega))]
def Ly(c a b)(e:∀d,a<=d->c d=F):fW c (a+b)=fW c a:=by
 induction b with
 |zero=>rfl
 |succ b f=>rw[<-UI];simp only[fW];rw[f,e (a+b) (by omega)];simp
def Lx(c S a)(d:∀b,b<a->c b=S b):fW c a=fW S a:=by
 induction a with
 |zero=>rfl
 |succ a e=>simp only[fW];rw[e (λb f=>d b (by omega)),d a (by omega)]
def yg(b a k)(e:k<a)(c:b k=F):fW (fC b k) a=fW b a+1:=by
 induction a with
 |zero=>omega
 |succ a f=>
  simp only[fW];by_cases d:k=a;subst d;rw[Lx (fC b k) b k (λg h=>by simp[fC];omega),c];simp[fC];have:fC b k a=b a:=by simp[fC];omega
  rw[this];omega
def LA(b S a)(e:∀c,b c=T->S c=T):fW b a<=fW S a:=by
 induction a with
 |zero=>exact UF _
 |succ a f=>
  simp only[fW];by_cases d:b a=T;grind;rw[Us d];omega
def mW(d:Nat)(e:List Ed):Prop:=∀a:Nat->Prop,a 0->(∀b∈e,a b.a.toNat↔a b.b.toNat)->∀c,c<d->a c
def oG(d:List Ed)(e:Nat->Bool):Prop:=∀a:Nat->Prop,a 0->(∀b∈d,a b.a.toNat↔a b.b.toNat)->∀c,e c=T->a c
def rA(c:List Ed)(a:Nat->Bool):Prop:=∀b∈c,a b.a.toNat=a b.b.toNat
def oG.a{h:List Ed}{g:Nat->Bool}(e:oG h g){a:Ed}(j:a∈h)(b:g a.a.toNat=T\/g a.b.toNat=T)(k:Nat)(n:k=a.a.toNat\/k=a.b.toNat):oG h (fC g k):=by
 intro c f d o i;have l:c a.a.toNat/\c a.b.toNat:=by obtain b|b:=b;exact⟨e c f d _ b,(d a j).1 (e c f d _ b)⟩;exact⟨(d a j).2 (e c f d _ b),e c f d _ b⟩
 unfold Go.Proofs.YtlfijfodklhplaaGreat.fC at i;split at i;rename_i m;obtain rfl|rfl:=n;rw[m];exact l.1;rw[m];exact l.2;exact e c f d o i
def FG{f c b}(g:b 0=T)(h:oG c b)(i:rA c b):mW f c↔∀a,a<f->b a=T:=
 ⟨λd a e=>d (λj=>b j=T) g (λk l=>by rw[i k l]) a e,λd m n o a e=>h m n o a (d a e)⟩
def lO(a:Nat->Bool)(b:Ed):Nat->Bool:=if (a b.a.toNat||a b.b.toNat)=T then fC (fC a b.a.toNat) b.b.toNat else a
def kL(a:Nat->Bool)(b:List Ed):Nat->Bool:=b.foldl lO a
def yI{M k}(a:M k=T):fC M k=M:=by funext b;unfold fC;split;grind;rfl
def sj(a k b)(c:a b=T):fC a k b=T:=by unfold fC;split<;>simp[*]
def ST(a d b)(c:a b=T):lO a d b=T:=by unfold lO;split;exact sj _ _ _ (sj _ _ _ c);exact c
def GP(c a b)(d:a b=T):kL a c b=T:=by
 induction c generalizing a with
 |nil=>exact d
 |cons e g f=>exact f (lO a e) (ST a e b d)
def Hz{M b}(c:M b.a.toNat=M b.b.toNat):lO M b=M:=by unfold lO;split;rename_i a;rw[c]at a;simp at a;rw[yI (M:=M) (by rw[c];exact a),yI a];rfl
def Qz{b a}(c:rA b a):kL a b=a:=by
 induction b generalizing a with
 |nil=>rfl
 |cons d e f=>
  show kL (lO a d) e=a;rw[Hz (c d (by simp))];exact f λg h=>c g (by simp[h])
def SU{M a b}(e:a.a.toNat<b)(f:a.b.toNat<b)(g:M a.a.toNat≠M a.b.toNat):fW M b+1<=fW (lO M a) b:=by unfold lO;cases c:M a.a.toNat<;>cases d:M a.b.toNat;grind;rw[UG (by simp),yI (M:=fC M a.a.toNat) (sj _ _ _ d),yg _ _ _ e c];simp;rw[UG (by simp),yI c,yg _ _ _ f d];simp;grind
def QA{f b c}(g:∀a∈f,a.a.toNat<c/\a.b.toNat<c)(i:¬rA f b):fW b c+1<=fW (kL b f) c:=by
 induction f generalizing b with
 |nil=>exact(i λa d=>by simp at d).elim
 |cons a j k=>
  show fW b c+1<=fW (kL (lO b a) j) c;by_cases d:b a.a.toNat=b a.b.toNat;rw[Hz d];refine k (λh e=>g h (by simp[e])) λl=>i λh e=>?_;obtain rfl|e:=UZ.1 e;exact d;exact l h e;exact UM (SU (g a (by simp)).1 (g a (by simp)).2 d) (LA _ _ c λm n=>GP j _ m n)
def SV{a c}(d:oG a c){e}(f:e∈a):oG a (lO c e):=by unfold lO;split;rename_i b;simp at b;refine oG.a (oG.a d f b _ (Ur rfl)) f ?_ _ (Up rfl);exact b.imp (sj _ _ _) (sj _ _ _);exact d
def QB{a b c}(e:oG a c)(f:∀d∈b,d∈a):oG a (kL c b):=by
 induction b generalizing c with
 |nil=>exact e
 |cons d j g=>exact g (SV e (f d (by simp))) λh i=>f h (by simp[i])
def jK(a:List Ed)(b:Nat->Bool):Nat->Nat->Bool
 |0=>b
 |c+1=>kL (jK a b c) a
def RZ{a c}(d:oG a c)(b):oG a (jK a c b):=by
 induction b with
 |zero=>exact d
 |succ b e=>exact QB e λg f=>f
def RX(c d a b)(e:d b=T):jK c d a b=T:=by
 induction a with
 |zero=>exact e
 |succ a f=>exact GP c _ b f
def RY{a c d}(h:∀g∈a,g.a.toNat<d/\g.b.toNat<d)(i:1<=fW c d)(b):rA a (jK a c b)\/b+1<=fW (jK a c b) d:=by
 induction b with
 |zero=>exact Up i
 |succ b e=>
  by_cases f:rA a (jK a c b);refine Ur ?_;show rA a (kL (jK a c b) a);rw[Qz f];exact f;obtain e|e:=e;grind;refine Up ?_;have:=QA h f;show b+1+1<=fW (kL (jK a c b) a) d;omega
def RU{b c a}(f:∀d∈b,d.a.toNat<a/\d.b.toNat<a)(g:1<=fW c a):rA b (jK b c a):=by obtain e|e:=RY f g a;exact e;have:=vO (jK b c a) a;omega
def mq:Nat->Bool:=fC (λ_=>F) 0
def Ir(b):oG b mq:=by intro c d _ e a;unfold mq fC at a;split at a;grind;cases a
def RW{b a}(e:0<a)(f:∀c∈b,c.a.toNat<a/\c.b.toNat<a):mW a b↔∀d,d<a->jK b mq a d=T:=by refine FG (RX b _ a 0 rfl) (RZ (Ir b) a) (RU f ?_);have:fW mq a=fW (λ_=>F) a+1:=yg _ a 0 e rfl;omega
def kK(b:Int)(a:Ed):Prop:=a.a<0\/b<=a.a\/a.b<0\/b<=a.b\/a.a=a.b
def qR(a:Ed):Prop:=a.c<1\/1000<a.c
def l9(f:Ed->Ed->Prop)(a:List Ed):Prop:=∃(b c:Nat)(d e:Ed),c<b/\a[b]?=S d/\a[c]?=S e/\f d e
def xY(a b:Ed):Prop:=a.c=b.c
def mL(a b:Ed):Prop:=(a.a=b.a/\a.b=b.b)\/(a.a=b.b/\a.b=b.a)
def ia(a:Int)(b:List Ed):Prop:=a<1\/10<a\/30<b.length
def kO(a:Int)(b:List Ed):Prop:=∃c∈b,kK a c
def mr(a:List Ed):Prop:=(∃b∈a,qR b)\/l9 xY a
def gq(b:Int)(a:List Ed)(c:Int):Prop:=
 (ia b a->c=1)/\(¬ia b a->(kO b a->c=2)/\(¬kO b a->(mr a->c=3)/\(¬mr a->(l9 mL a->c=4)/\(¬l9 mL a->(¬mW b.toNat a->c=5)/\(mW b.toNat a->c=0)))))
def gq.b{b a d e}(f:gq b a d)(g:gq b a e):d=e:=by by_cases c:ia b a;rw[f.1 c,g.1 c];have h:=f.2 c;have i:=g.2 c;by_cases j:kO b a;grind;have h:=h.2 j;have i:=i.2 j;by_cases k:mr a;grind;by_cases l:l9 mL a;grind;by_cases m:mW b.toNat a;grind;grind
def gq.d{a b}(c:ia a b):gq a b 1:=⟨λ_=>rfl,λd=>(d c).elim⟩
def gq.a{a b}(d:¬ia a b)(e:kO a b):gq a b 2:=⟨λc=>(d c).elim,λ_=>⟨λ_=>rfl,λc=>(c e).elim⟩⟩
def gq.c{c b}(d:¬ia c b)(e:¬kO c b)(f:mr b):gq c b 3:=⟨λa=>(d a).elim,λ_=>⟨λa=>(e a).elim,λ_=>⟨λ_=>rfl,λa=>(a f).elim⟩⟩⟩
def gq.f{c b}(d:¬ia c b)(e:¬kO c b)(f:¬mr b)(g:l9 mL b):gq c b 4:=⟨λa=>(d a).elim,λ_=>⟨λa=>(e a).elim,λ_=>⟨λa=>(f a).elim,λ_=>⟨λ_=>rfl,λa=>(a g).elim⟩⟩⟩⟩
def gq.g{c b}(d:¬ia c b)(e:¬kO c b)(f:¬mr b)(g:¬l9 mL b)(h:¬mW c.toNat b):gq c b 5:=⟨λa=>(d a).elim,λ_=>⟨λa=>(e a).elim,λ_=>⟨λa=>(f a).elim,λ_=>⟨λa=>(g a).elim,λ_=>⟨λ_=>rfl,λa=>(h a).elim⟩⟩⟩⟩⟩
def gq.e{c b}(d:¬ia c b)(e:¬kO c b)(f:¬mr b)(g:¬l9 mL b)(h:mW c.toNat b):gq c b 0:=⟨λa=>(d a).elim,λ_=>⟨λa=>(e a).elim,λ_=>⟨λa=>(f a).elim,λ_=>⟨λa=>(g a).elim,λ_=>⟨λa=>(a h).elim,λ_=>rfl⟩⟩⟩⟩⟩
def vA(b:Nat)(c:List Ed):Prop:=∀a∈c,0<=a.a/\a.a<(b:Int)/\0<=a.b/\a.b<(b:Int)
structure Jn(o:Nat->Prop)(p q:World)(r s:Nat)(t:Option Addr)(i:List Ed)(u:Nat)(v:Ed->Prop)(g:Nat->Bool)(j:Nat)(w:Option Addr)(m x:Nat)(k:List Th):Prop where
 a:Gw o p q r (L t i.length s) g j w m x k
 b:j=fW g 10
 e:∀n,u<=n->g n=F
 c:oG i g
 d:∀h∈i,g h.a.toNat=g h.b.toNat\/(⟨h,h.c⟩:Th)∈k\/v h
 heap:∀l∈k,l.e∈i/\(g l.e.a.toNat=T\/g l.e.b.toNat=T)
 f:m<=30*j
def Jn.i{p q b c e f g h i j k d l m n}(a:Jn p q b c e f g h i j k d l m n):Jn (λo=>o=c\/d=S ⟨o,0,N⟩) b b c e f g h i j k d l m n:=
 ⟨a.a.g,a.b,a.e,a.c,a.d,a.heap,a.f⟩
def Jn.h{h i j w' b c d e f g p q k r s t l m a' n' c' n}(u:Jn h i j b c d e f g p q k r s t)(a:Jn (λo=>o=b\/k=S ⟨o,0,N⟩) j w' b c d e f g l m a' n' c' n):Jn h i w' b c d e f g l m a' n' c' n:=
 ⟨u.a.f a.a,a.b,a.e,a.c,a.d,a.heap,a.f⟩
def Gw.i{f g d h i j k e l m n}(o:Gw f g d h i j k e l m n):∀b,e=S ⟨b,0,N⟩->b<d.heap.size:=λb a=>by obtain⟨c,_⟩|⟨q,c,_,p⟩:=o.heap.d;rw[c]at a;cases a;rw[c]at a;cases a;exact p.b
def BA(a:World)(b:Nat):Nat:=
 (match a.cell? ⟨b,11,N⟩with|some (.int _ c)=>(10-c.toNat)*31|_=>0)+(match a.cell? ⟨b,12,N⟩with|some (.slice _ d _)=>d|_=>0)
def Jn.g{n o i j e f g p q h a c b d r}(k:Jn n o i j e f g p q h a c b d r):Go.Proofs.YtlfijfodklhplaaGreat.BA i j=(10-a)*31+b:=by have l:=k.a.heap.a.a 11;have m:=k.a.heap.a.a 12;have s:(oP (L f g.length e) h a (L c b d))[11]?=S (I J a):=rfl;have t:(oP (L f g.length e) h a (L c b d))[12]?=S (L c b d):=rfl;rw[s]at l;rw[t]at m;unfold Go.Proofs.YtlfijfodklhplaaGreat.BA;rw[l,m];simp
def BY{g h q i x j d l K a f r m s t}(c:Jn g h q i x j d l K a f r m s t)(k)(ad:k<l)(ae:l<=10)(Q:oG d (fC a k))(R:gh h j d)(U:∀M V,0<d.length->j=S ⟨M,V,N⟩->¬g M)(W:d.length<=30)(X:vA l d):
 Cr 102 #[P (S ⟨i,0,N⟩),.int J k] q (.tuple #[]) λy=>∃z O A u C D,Jn g h y i x j d l K z O A u C D/\z k=T/\(∀e,a e=T->z e=T)/\(10-O)*31+u<=(10-f)*31+m:=by
 have af:=vO a 10;cases v:a k with
 |true=>
  refine(Rh g h q i _ a f r m s t k c.a (by omega) v).mono ?_;rintro Y y ⟨rfl,rfl⟩;exact⟨rfl,a,f,r,m,s,t,c,v,λe n=>n,UF _⟩
 |false=>
  have ag:=yg a 10 k (by omega) v;have ah:=vO (fC a k) 10;have ai:=c.b;have aj:=c.f;refine(Rg g h q i x j d a f r m s t k c.a (by omega) v R U W (by omega) (by omega)).mono ?_;rintro Y y ⟨rfl,A,u,C,D,Z,ak,E⟩;refine⟨rfl,fC a k,f+1,A,u,C,D,⟨Z,by omega,?_,Q,?_,?_,by omega⟩,by simp[fC],λe n=>sj a k e n,by omega⟩;intro e n;have:e≠k:=by omega
  simp[fC,this];exact c.e e n;intro b o;by_cases G:b.a=(k:Int)\/b.b=(k:Int)
  exact Up (Ur ((E _).2 (Up ⟨b,o,G,rfl⟩)));have al:=X b o;have aa:b.a.toNat≠k:=by omega
  have ab:b.b.toNat≠k:=by omega
  obtain p|p|p:=c.d b o;exact Ur (by simp[fC,aa,ab,p]);exact Up (Ur ((E _).2 (Ur p)));exact Up (Up p);intro H w;obtain w|⟨b,o,G,rfl⟩:=(E H).1 w;exact⟨(c.heap H w).1,(c.heap H w).2.imp (sj a k _) (sj a k _)⟩;refine⟨o,G.imp (λac=>?_) λac=>?_⟩;have:b.a.toNat=k:=by omega
  simp[fC,this];have:b.b.toNat=k:=by omega
  simp[fC,this]
def Jn.j{g h i j k l e a c f m n o}(d:Jn g h i j k l e a (λ_=>False) c f m 0 n o)(p:c 0=T)(u:a<=10):(f:Int)=a↔mW a e:=by
 have q:=U1 d.a.heap.b;have r:rA e c:=λs t=>by obtain b|b|b:=d.d s t;exact b;rw[q]at b;cases b;exact b.elim
 rw[FG p d.c r];have v:fW c 10=fW c a:=by have:=Ly c a (10-a) d.e;rwa [show a+(10-a)=10 by omega]at this
 have:=d.b;constructor;intro b;exact Lz c a (by omega);intro b;have:=Lw c a b;omega
def Ok(g k h c f)(aF:gh f h c)(aG:c.length<=30)(aH:vA g c)(aI:0<g)(aJ:g<=10):
 Calls prog 56 #[.int J g,L h c.length k] f λE z=>∃l,E= .returned (B l)/\(l=T↔mW g c)/\ae aa f z:=by
 have e:=@lP _ _ _ _ _ aF aG aH aI aJ;clear aF aG aH aI aJ;go_enter func56,ntmps56;go_wp2_with fail;obtain⟨Z,G⟩:=ah (f.alloc (.cells (oP (L h c.length k) (λ_=>F) 0 (L N 0 0)) 174));have A:aq Z f.heap.size (oP (L h c.length k) (λ_=>F) 0 (L N 0 0)) 174:=by rw[G];exact aq.e _ _ _
 have aK:ae aa f Z:=by rw[G];exact(ae.a aa f).b _
 unfold oP at G;simp only[Int.natCast_zero]at G;rw[<-G];obtain⟨d,aL⟩:=ah f.heap.size;rw[<-aL]at A|-;have aM(_:=()):Jn aa f Z d k h c g (λ_=>False) (λ_=>F) 0 N 0 0 []:=by refine⟨⟨aK,Up (by omega),⟨A,rfl,rfl,UF _,Ur ⟨rfl,rfl,rfl⟩⟩,λl a=>by cases a⟩,by simp[fW],λ_ _=>rfl,λbB bC bD bE bj=>(Bool.noConfusion bj),λa ab=>Ur rfl,λp au=>(U9 au).elim,by omega⟩
 clear G A aL aK;have aN(_:=()):Cr 102 #[P (S ⟨d,0,N⟩),I J ((0:Nat):Int)] Z (.tuple #[]) λz=>∃m t Q u R U,Jn aa f z d k h c g (λ_=>False) m t Q u R U/\m 0=T/\(∀v,(λ_=>F) v=T->m v=T)/\(10-t)*31+u<=(10-0)*31+0:=
  BY aM 0 e.2.2.2.1 e.2.2.2.2 (Ir c) e.1 (λ_ _ _ _ a=>a) e.2.1 e.2.2.1
 refine Uq aN ?_;rintro E bF ⟨rfl,bk,bl,bm,bn,bo,bp,aO,aP,_,_⟩;have av:=@aC _ _ aO aP;clear aO aP aN aM;go_wp2_with fail;go_loopw [] (λwr=>∃(q:Nat->Bool)(H:Nat)(ac:Option Addr)(r ad:Nat)(K:List Th),Jn aa f wr d k h c g (λ_=>False) q H ac r ad K/\q 0=T) λwr=>BA wr d;case atStart=>exact⟨bk,bl,bm,bn,bo,bp,av.1,av.2⟩
 case round=>
  obtain⟨q,H,ac,r,ad,K,M,aQ⟩:=hrel;have b:=@aC _ _ M aQ;have aR:=M.a.heap.a.b;clear aQ av;cases r with
  |zero=>
   as_aux_lemma=>
   have aS:=(M.a.heap.a.a 12).trans M.a.heap.c;have V:=@af _ (Tn d 12 ac ad wr aS);clear M aS;go_wp2_with fail;refine Uq V ?_;rintro E C ⟨rfl,ag⟩;clear V;have bq:=(b.1.a.heap.a.c ag λa=>a).a 11;have br:=(b.1.a.heap.a.c ag λa=>a).b;simp[oP]at bq;have bs:=@af _ (b.1.a.a.c ag);clear ag aR;go_wp2;go_ret;refine⟨_,rfl,?_,bs.b _⟩;rw[<-b.1.j b.2 e.2.2.2.2];simp
  |succ r=>
   as_aux_lemma=>
   have V:=@af _ (To d 12 _ 174 ac r ad K wr b.1.a.heap (by have:=b.1.f;have:=b.1.b;have:=vO q 10;omega));clear M;go_wp2_with fail;refine Uq V ?_;rintro E C ⟨⟨⟨w,x,s⟩,aT⟩,rfl,aU⟩;clear V;obtain⟨W,aV,aW,ai,aj,bt,aX,aY,aZ⟩:=b.1.a.e aU;have n(_:=()):Gw aa f C d (L h c.length k) q H W aV aW ai/\aV=r/\(∀p,p∈K->p=⟨⟨w,x,s⟩,aT⟩\/p∈ai)/\(∀p,p∈ai->p∈K)/\(⟨⟨w,x,s⟩,aT⟩:Th)∈K:=⟨aj,by have:=aj.heap.b;omega,aX,aY,aZ⟩
   have br:=aj.heap.a.b;clear aU aj bt aX aY aZ aR;simp only at *;have D(_:=()):(⟨w,x,s⟩:Ed)∈c/\(q w.toNat=T\/q x.toNat=T)/\0<=w/\w<(g:Int)/\0<=x/\x<(g:Int):=
    ⟨(b.1.heap _ n.2.2.2.2).1,(b.1.heap _ n.2.2.2.2).2,e.2.2.1 _ (b.1.heap _ n.2.2.2.2).1⟩
   obtain⟨i,bu⟩:∃i:Nat,w=(i:Int):=⟨w.toNat,by have:=D;omega⟩
   obtain⟨j,bv⟩:∃j:Nat,x=(j:Int):=⟨x.toNat,by have:=D;omega⟩
   subst bu bv;go_wp2_with fail;obtain⟨X,ak⟩:=ah (C.alloc (.cells #[I J i,I J j,I J s] 30));have A:aq X C.heap.size #[I J i,I J j,I J s] 30:=by rw[ak];exact aq.e _ _ _
   have a0:ae aa C X:=by rw[ak];exact(ae.a aa C).b _
   rw[<-ak];obtain⟨aw,al⟩:=ah C.heap.size;rw[<-al]at A|-;have am(_:=()):Jn aa f X d k h c g (λa=>a=⟨(i:Int),(j:Int),s⟩) q H W r aW ai:=by have a1:=n.1.d a0;rw[n.2.1]at a1;refine⟨a1,b.1.b,b.1.e,b.1.c,λa ab=>?_,λp au=>b.1.heap p (n.2.2.2.1 p au),by have:=b.1.f;omega⟩;obtain o|o|o:=b.1.d a ab;exact Ur o;obtain an|an:=n.2.2.1 _ o;exact Up (Up (by injection an));exact Up (Ur an);exact o.elim
   have a2:=@af _ A;have ax(_:=()):d<aw/\(∀l,W=S ⟨l,0,N⟩->l<aw)/\∀ao a3,0<c.length->h=S ⟨ao,a3,N⟩->¬(ao=d\/W=S ⟨ao,0,N⟩):=by refine⟨by rw[al];exact n.1.heap.a.b,λl a=>by rw[al];exact n.1.i l a,λao a3 a4 a=>?_⟩;obtain ay|⟨bG,bH,ay,an,_⟩:=e.1;rw[ay]at a4;simp at a4;rw[ay]at a;cases a;rintro (a5|a5);obtain Y|Y:=n.1.b;exact Y;omega;obtain Y|Y:=n.1.c _ a5;exact Y;omega
   clear ak A al a0;have a6:=a2.a 0;simp at a6;have a7(_:=()):Cr 102 #[P (S ⟨d,0,N⟩),I J i] X (.tuple #[]) λz=>∃m t Q u R U,Jn (λl=>l=d\/W=S ⟨l,0,N⟩) X z d k h c g (λa=>a=⟨(i:Int),(j:Int),s⟩) m t Q u R U/\m i=T/\(∀v,q v=T->m v=T)/\(10-t)*31+u<=(10-H)*31+r:=
    BY am.i i (by have:=D;omega) e.2.2.2.2 (am.c.a D.1 D.2.1 i (Ur (by simp))) (e.1.a am.a.a) ax.2.2 e.2.1 e.2.2.1
   go_wp2_with fail;refine Uq a7 ?_;rintro E a8 ⟨rfl,bw,bx,bI,bz,bJ,bK,ap,a9,ba,bb⟩;have O:=@gA _ _ _ _ (am.h ap) a9 ba bb;have az:aq a8 aw #[I J i,I J j,I J s] 30:=a2.c ap.a.a λa=>by obtain a|a:=a;have:=ax.1;omega;have:=ax.2.1 _ a;omega
   have bc:=az.a 1;simp at bc;have bL:=az.b;have bM:=ap.a.heap.a.b;clear ap a9 ba bb az a7 a6;have bd(_:=()):Cr 102 #[P (S ⟨d,0,N⟩),I J j] a8 (.tuple #[]) λz=>∃m t Q u R U,Jn aa f z d k h c g (λa=>a=⟨(i:Int),(j:Int),s⟩) m t Q u R U/\m j=T/\(∀v,bw v=T->m v=T)/\(10-t)*31+u<=(10-bx)*31+bz:=
    BY O.1 j (by have:=D;omega) e.2.2.2.2 (O.1.c.a D.1 (Ur (by simpa using O.2.1)) j (Up (by simp))) e.1 (λ_ _ _ _ a=>a) e.2.1 e.2.2.1
   go_wp2_with fail;refine Uq bd ?_;rintro E bA ⟨rfl,aA,aB,be,aD,bf,bg,y,bh,aE,bi⟩;have ar(_:=()):Jn aa f bA d k h c g (λ_=>False) aA aB be aD bf bg/\aA 0=T/\(10-aB)*31+aD<=(10-H)*31+r:=by refine⟨⟨y.a,y.b,y.e,y.c,λa ab=>?_,y.heap,y.f⟩,aE 0 (O.2.2.1 0 b.2),UM bi O.2.2.2⟩;obtain o|o|o:=y.d a ab;exact Ur o;exact Up (Ur o);refine Ur ?_;rw[o];simp[bh,aE i O.2.1]
   clear y bh aE bi bd bc;go_wp2;go_roundw;case rel=>exact⟨aA,aB,be,aD,bf,bg,ar.1,ar.2.1⟩
   case measure=>
    rw[ar.1.g,b.1.g];have:=ar.2.2;omega
def O8:∀(a:Fn)(first b:Array Value)(c:World),(Instr.makeFunc a first b).run prog c= .ok (.func a first b) c:=λ_ _ _ _=>rfl
def N8(h g p c M d)(q:gh d p c)(r:c.length<=30)(s:d.cell? ⟨h,0,N⟩=S (.int J g)):
 Calls prog 101 #[L p c.length M,.func (.func 49) #[] #[P (S ⟨h,0,N⟩)]] d λt k=>∃u,t= .returned (.int J u)/\(0<=u↔∃a∈c,pL g a=T)/\ae aa d k:=by
 have v:=@aC _ _ q r;have O(_:=()):∀a i,ae aa d i->Cr 49 #[oM a,P (S ⟨h,0,N⟩)] i (B (pL g a)) λk=>ae aa i k:=λa i Q=>Tg h g a i ((Q.f h 0 (UL d _ s) λa=>a).trans s);clear q r;go_enter func101,ntmps101;go_wp2_with fail;go_loopw [8] (λl wr=>∃b:Nat,b<=c.length/\l= .int J b/\ae aa d wr/\∀a∈c.take b,pL g a=F) λl _=>c.length-(intOf l).toNat;case atStart=>exact⟨0,by omega,rfl,ae.a _ _,λa e=>by simp at e⟩
 case round=>
  obtain⟨b,Y,rfl,w,x⟩:=hrel;have f:=@aC _ _ w x;clear w x;by_cases y:b<c.length
  .obtain⟨a,e⟩:∃a,c[b]?=S a:=⟨_,Um y⟩
   obtain⟨Z,ab,rfl,m,z⟩:=v.1.b y;obtain⟨A,C,D⟩:=mN (z.a f.1 m λa=>a) b a e;have ac:=Un m f.1.size;have ad:(b:Int)<c.length:=by omega
   have ag:(b:Int)<1000:=by have:=v;omega
   have E:=@af _ e;have n:=O () a wr f.1;obtain⟨R,U,V⟩:=a;simp only at A C D;clear e z m;generalize j:pL g ⟨R,U,V⟩=pe at n;have G:=@af _ j;clear j;go_wp2_with fail;refine n.mono ?_;rintro t k ⟨rfl,H⟩;have K:=@af _ (f.1.c H);clear H n A C D;cases pe
   .go_wp2;go_roundw;case rel=>
     refine⟨b+1,by omega,by go_num,K,λW o=>?_⟩;obtain o|rfl:=(yK E).1 o;exact f.2 W o;exact G
    case measure=>simp[intOf];omega
   .go_wp2;go_ret;exact⟨b,rfl,⟨λ_=>⟨_,Uo E,G⟩,λ_=>by omega⟩,K⟩
  .have X:b=c.length:=by omega
   subst X;go_wp2;go_ret;refine⟨-1,rfl,⟨λah=>by omega,λ⟨a,e,j⟩=>?_⟩,f.1⟩;rw[f.2 a (by rw[Vu];exact e)]at j;cases j
def L0(c d e a f b)(g:gh b e a)(h:a.length<=30)(p:b.cell? ⟨c,0,N⟩=S (.int J d)):
 Calls prog 51 #[L e a.length f,.func (.func 49) #[] #[P (S ⟨c,0,N⟩)]] b λi j=>∃k,i= .returned (B k)/\(k=T↔∃q∈a,pL d q=T)/\ae aa b j:=by
 have l:=@af _ (N8 c d e a f b g h p);clear g h;go_enter func51,ntmps51;go_wp2_with fail;refine Uq l ?_;rintro i j ⟨r,rfl,m,n⟩;clear l;have o:=@aC _ _ m n;clear m n;go_wp2;go_ret;exact⟨_,rfl,by rw[<-o.1];simp,o.2⟩
def N7(n c G f)(o:gh f n c)(p:c.length<=30):
 Calls prog 101 #[L n c.length G,.func (.func 52) #[] #[]] f λq i=>∃r,q= .returned (.int J r)/\(0<=r↔∃a∈c,rg a=T)/\ae aa f i:=by
 have s:=@aC _ _ o p;have H(_:=()):∀a g,ae aa f g->Cr 52 #[oM a] g (B (rg a)) λi=>ae aa g i:=λa g U=>TW a g;clear o p;go_enter func101,ntmps101;go_wp2_with fail;go_loopw [8] (λj wr=>∃b:Nat,b<=c.length/\j= .int J b/\ae aa f wr/\∀a∈c.take b,rg a=F) λj _=>c.length-(intOf j).toNat;case atStart=>exact⟨0,by omega,rfl,ae.a _ _,λa d=>by simp at d⟩
 case round=>
  obtain⟨b,V,rfl,t,u⟩:=hrel;have e:=@aC _ _ t u;clear t u;by_cases v:b<c.length
  .obtain⟨a,d⟩:∃a,c[b]?=S a:=⟨_,Um v⟩
   obtain⟨W,X,rfl,k,w⟩:=s.1.b v;obtain⟨x,y,z⟩:=mN (w.a e.1 k λa=>a) b a d;have Y:=Un k e.1.size;have Z:(b:Int)<c.length:=by omega
   have ab:(b:Int)<1000:=by have:=s;omega
   have A:=@af _ d;have l:=H () a wr e.1;obtain⟨K,M,O⟩:=a;simp only at x y z;clear d w k;generalize h:rg ⟨K,M,O⟩=pe at l;have C:=@af _ h;clear h;go_wp2_with fail;refine l.mono ?_;rintro q i ⟨rfl,D⟩;have E:=@af _ (e.1.c D);clear D l x y z;cases pe
   .go_wp2;go_roundw;case rel=>
     refine⟨b+1,by omega,by go_num,E,λQ m=>?_⟩;obtain m|rfl:=(yK A).1 m;exact e.2 Q m;exact C
    case measure=>simp[intOf];omega
   .go_wp2;go_ret;exact⟨b,rfl,⟨λ_=>⟨_,Uo A,C⟩,λ_=>by omega⟩,E⟩
  .have R:b=c.length:=by omega
   subst R;go_wp2;go_ret;refine⟨-1,rfl,⟨λac=>by omega,λ⟨a,d,h⟩=>?_⟩,e.1⟩;rw[e.2 a (by rw[Vu];exact d)]at h;cases h
def LZ(c a d b)(e:gh b c a)(f:a.length<=30):
 Calls prog 51 #[L c a.length d,.func (.func 52) #[] #[]] b λg h=>∃i,g= .returned (B i)/\(i=T↔∃n∈a,rg n=T)/\ae aa b h:=by
 have j:=@af _ (N7 c a d b e f);clear e f;go_enter func51,ntmps51;go_wp2_with fail;refine Uq j ?_;rintro g h ⟨o,rfl,k,l⟩;clear j;have m:=@aC _ _ k l;clear k l;go_wp2;go_ret;exact⟨_,rfl,by rw[<-m.1];simp,m.2⟩
def KA(V f A s)(W:gh s V f)(X:f.length<=30)(aK:f.length<=A):
 Calls prog 53 #[L V f.length A,.func (.func 54) #[] #[]] s λY t=>∃Z:Bool,Y= .returned (B Z)/\(Z=T↔∃(d b:Nat)(a c:Ed),b<d/\f[d]?=S a/\f[b]?=S c/\ro a c=T)/\ae aa s t:=by
 have ab:=@aC _ _ W X;have ax(_:=()):∀a c u,Cr 54 #[oM a,oM c] u (B (ro a c)) λt=>ae aa u t:=λa c u=>TV a c u;clear W X;go_enter func53,ntmps53;go_wp2_with fail;go_loopw [11] (λi wr=>∃e:Nat,e<=f.length/\i= .int J e/\ae aa s wr/\∀(d b:Nat)(a c:Ed),d<e->b<d->f[d]?=S a->f[b]?=S c->ro a c=F) λi _=>f.length-(intOf i).toNat;case atStart=>exact⟨0,by omega,rfl,ae.a _ _,λd b a c C=>by omega⟩
 case round=>
  obtain⟨e,aL,rfl,l,m⟩:=hrel;have k:=@aC _ _ l m;clear l m;by_cases D:e<f.length
  .obtain⟨a,E⟩:∃a,f[e]?=S a:=⟨_,Um D⟩
   obtain⟨aM,aN,rfl,v,G⟩:=ab.1.b D;obtain⟨n,o,p⟩:=mN (G.a k.1 v λa=>a) e a E;have ac:=Un v k.1.size;have aO:(e:Int)<f.length:=by omega
   have aP:(e:Int)<=A:=by omega
   have aQ:(e:Int)<1000:=by have:=ab;omega
   have q:=@cf _ _ _ E G v;have ay:=@af _ (ax () a);obtain⟨w,x,y⟩:=a;simp only at n o p;clear E G v;go_wp2_with fail;obtain⟨H,z⟩:=ah (wr.alloc (.cells #[I J w,I J x,I J y] 30));have K:aq H wr.heap.size #[I J w,I J x,I J y] 30:=by rw[z];exact aq.e _ _ _
   have r:ae aa wr H:=by rw[z];exact(ae.a aa wr).b _
   rw[<-z];obtain⟨aR,ad⟩:=ah wr.heap.size;rw[<-ad]at K|-;have h:=@aC _ _ K (k.1.c r);clear z K ad r n o p ac;go_loopw [20] (λi az=>∃b:Nat,b<=e/\i= .int J b/\ae aa H az/\∀(d:Nat)(c:Ed),d<b->f[d]?=S c->ro ⟨w,x,y⟩ c=F) λi _=>e-(intOf i).toNat;case atStart=>exact⟨0,by omega,rfl,ae.a _ _,λd c C=>by omega⟩
   case round=>
    obtain⟨b,aS,rfl,l,m⟩:=hrel;have g:=@aC _ _ l m;clear l m;by_cases aA:b<e
    .obtain⟨c,M⟩:∃c,f[b]?=S c:=⟨_,Um (XK aA D)⟩
     obtain⟨n,o,p⟩:=mN (q.2.1.a (h.2.c g.1) q.2.2 λa=>a) b c M;have ac:=Un q.2.2 (h.2.c g.1).size;have aT:(b:Int)<e:=by omega
     have aU:=Un h.1.b g.1.size;have ag:=(h.1.c g.1 λa=>a).a 0;have ai:=(h.1.c g.1 λa=>a).a 1;have aj:=(h.1.c g.1 λa=>a).a 2;simp at ag ai aj;have ak:=@af _ M;have O:=ay () c;obtain⟨aB,aD,aE⟩:=c;simp only at n o p;clear M;generalize al:ro ⟨w,x,y⟩ ⟨aB,aD,aE⟩=pe at O;have am:=@af _ al;clear al;go_wp2_with fail;refine(O _).mono ?_;rintro Y t ⟨rfl,r⟩;have an:=@af _ ((g.1.c ((ae.a aa _).b _)).c r);clear r O n o p ag ai aj;cases pe
     .go_wp2;go_roundw;case rel=>
       refine⟨b+1,by omega,by go_num,an,λd Q aF j=>?_⟩;by_cases R:d<b;exact g.2 d Q R j;have U:d=b:=by omega
       subst U;rw[ak]at j;cases j;exact am
      case measure=>simp[intOf];omega
     .go_wp2;go_ret;exact⟨T,rfl,⟨λ_=>⟨e,b,_,_,by omega,q.1,ak,am⟩,λ_=>rfl⟩,h.2.c an⟩
    .have aG:b=e:=by omega
     subst aG;go_wp2;go_roundw;case rel=>
      refine⟨b+1,by omega,by go_num,h.2.c g.1,λd ao Q ap aF ar j au=>?_⟩;by_cases R:d<b;exact k.2 d ao Q ap R ar j au;have U:d=b:=by omega
      subst U;rw[q.1]at j;cases j;exact g.2 ao ap ar au
     case measure=>simp[intOf];omega
  .have aH:e=f.length:=by omega
   subst aH;go_wp2;go_ret;refine⟨F,rfl,⟨λC=>(Bool.noConfusion C),λ⟨d,b,a,c,aI,av,aJ,aw⟩=>?_⟩,k.1⟩;rw[k.2 d b a c (Ul.1 av).1 aI av aJ]at aw;cases aw
def Kz(V f A s)(W:gh s V f)(X:f.length<=30)(aK:f.length<=A):
 Calls prog 53 #[L V f.length A,.func (.func 55) #[] #[]] s λY t=>∃Z:Bool,Y= .returned (B Z)/\(Z=T↔∃(d b:Nat)(a c:Ed),b<d/\f[d]?=S a/\f[b]?=S c/\mi a c=T)/\ae aa s t:=by
 have ab:=@aC _ _ W X;have ax(_:=()):∀a c u,Cr 55 #[oM a,oM c] u (B (mi a c)) λt=>ae aa u t:=λa c u=>Oj a c u;clear W X;go_enter func53,ntmps53;go_wp2_with fail;go_loopw [11] (λi wr=>∃e:Nat,e<=f.length/\i= .int J e/\ae aa s wr/\∀(d b:Nat)(a c:Ed),d<e->b<d->f[d]?=S a->f[b]?=S c->mi a c=F) λi _=>f.length-(intOf i).toNat;case atStart=>exact⟨0,by omega,rfl,ae.a _ _,λd b a c C=>by omega⟩
 case round=>
  obtain⟨e,aL,rfl,l,m⟩:=hrel;have k:=@aC _ _ l m;clear l m;by_cases D:e<f.length
  .obtain⟨a,E⟩:∃a,f[e]?=S a:=⟨_,Um D⟩
   obtain⟨aM,aN,rfl,v,G⟩:=ab.1.b D;obtain⟨n,o,p⟩:=mN (G.a k.1 v λa=>a) e a E;have ac:=Un v k.1.size;have aO:(e:Int)<f.length:=by omega
   have aP:(e:Int)<=A:=by omega
   have aQ:(e:Int)<1000:=by have:=ab;omega
   have q:=@cf _ _ _ E G v;have ay:=@af _ (ax () a);obtain⟨w,x,y⟩:=a;simp only at n o p;clear E G v;go_wp2_with fail;obtain⟨H,z⟩:=ah (wr.alloc (.cells #[I J w,I J x,I J y] 30));have K:aq H wr.heap.size #[I J w,I J x,I J y] 30:=by rw[z];exact aq.e _ _ _
   have r:ae aa wr H:=by rw[z];exact(ae.a aa wr).b _
   rw[<-z];obtain⟨aR,ad⟩:=ah wr.heap.size;rw[<-ad]at K|-;have h:=@aC _ _ K (k.1.c r);clear z K ad r n o p ac;go_loopw [20] (λi az=>∃b:Nat,b<=e/\i= .int J b/\ae aa H az/\∀(d:Nat)(c:Ed),d<b->f[d]?=S c->mi ⟨w,x,y⟩ c=F) λi _=>e-(intOf i).toNat;case atStart=>exact⟨0,by omega,rfl,ae.a _ _,λd c C=>by omega⟩
   case round=>
    obtain⟨b,aS,rfl,l,m⟩:=hrel;have g:=@aC _ _ l m;clear l m;by_cases aA:b<e
    .obtain⟨c,M⟩:∃c,f[b]?=S c:=⟨_,Um (XK aA D)⟩
     obtain⟨n,o,p⟩:=mN (q.2.1.a (h.2.c g.1) q.2.2 λa=>a) b c M;have ac:=Un q.2.2 (h.2.c g.1).size;have aT:(b:Int)<e:=by omega
     have aU:=Un h.1.b g.1.size;have ag:=(h.1.c g.1 λa=>a).a 0;have ai:=(h.1.c g.1 λa=>a).a 1;have aj:=(h.1.c g.1 λa=>a).a 2;simp at ag ai aj;have ak:=@af _ M;have O:=ay () c;obtain⟨aB,aD,aE⟩:=c;simp only at n o p;clear M;generalize al:mi ⟨w,x,y⟩ ⟨aB,aD,aE⟩=pe at O;have am:=@af _ al;clear al;go_wp2_with fail;refine(O _).mono ?_;rintro Y t ⟨rfl,r⟩;have an:=@af _ ((g.1.c ((ae.a aa _).b _)).c r);clear r O n o p ag ai aj;cases pe
     .go_wp2;go_roundw;case rel=>
       refine⟨b+1,by omega,by go_num,an,λd Q aF j=>?_⟩;by_cases R:d<b;exact g.2 d Q R j;have U:d=b:=by omega
       subst U;rw[ak]at j;cases j;exact am
      case measure=>simp[intOf];omega
     .go_wp2;go_ret;exact⟨T,rfl,⟨λ_=>⟨e,b,_,_,by omega,q.1,ak,am⟩,λ_=>rfl⟩,h.2.c an⟩
    .have aG:b=e:=by omega
     subst aG;go_wp2;go_roundw;case rel=>
      refine⟨b+1,by omega,by go_num,h.2.c g.1,λd ao Q ap aF ar j au=>?_⟩;by_cases R:d<b;exact k.2 d ao Q ap R ar j au;have U:d=b:=by omega
      subst U;rw[q.1]at j;cases j;exact g.2 ao ap ar au
     case measure=>simp[intOf];omega
  .have aH:e=f.length:=by omega
   subst aH;go_wp2;go_ret;refine⟨F,rfl,⟨λC=>(Bool.noConfusion C),λ⟨d,b,a,c,aI,av,aJ,aw⟩=>?_⟩,k.1⟩;rw[k.2 d b a c (Ul.1 av).1 aI av aJ]at aw;cases aw
end Go.Proofs.YtlfijfodklhplaaGreat
