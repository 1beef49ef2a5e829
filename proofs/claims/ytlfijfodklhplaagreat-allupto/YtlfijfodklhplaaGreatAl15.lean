import Derived.Test.YtlfijfodklhplaaGreatAl14
import Derived.Test.YtlfijfodklhplaaGreatAl12
set_option maxRecDepth 100000
set_option maxHeartbeats 2000000
set_option linter.all false
open Go.RowKit Go.Proofs.Tryz
open Go.Value renaming int->I,slice->L,pointer->P,bool->B
open Go.IntKind renaming i64->J
open Option renaming some->S,none->N
open Bool renaming true->T,false->F
namespace Go.Proofs.YtlfijfodklhplaaGreat.HI
@[go_sem] theorem Uf (a c b):(Instr.field 304 (.agg #[a,c]) 0).run prog b= .ok a b:=by kernel_rfl
structure qQ(j:World)(k n:Nat)(l:Array Value)(o:TypeId)(h:Option Addr)(f g:Nat)(m:List Th):Prop where
 c:aq j k l o
 b:l[n]?=S (L h f g)
 a:m.length=f
 d:f<=g
 e:(h=N/\f=0/\g=0)\/∃i,h=S ⟨i,0,N⟩/\k≠i/\jk j i m g
def ui(c w':World)(d e:Nat)(j:Array Value)(k:TypeId)(f:Option Addr)(l:List Th->Prop):Prop:=
 ∃b g h i,qQ w' d e (j.setIfInBounds e (L b g h)) k b g h i/\l i/\(∀a,b=S ⟨a,0,N⟩->f=S ⟨a,0,N⟩\/c.heap.size<=a)/\ae (λa=>a=d\/f=S ⟨a,0,N⟩) c w'
def JM(c e s q u d G h t g)(i:qQ g c e s q u d G h)(H:(d:Int)<100000)(K:∀M∈h,M.w<=t.w):
 Cr 185 #[xI c e,uk t] g (.tuple #[]) λr=>ui g r c e s q u (λy=>y=h++[t]):=by
 have O:Unit->Cr 254 #[P (S ⟨c,e,N⟩),uk t] g (.tuple #[]) λr=>∃b f,aq r c (s.setIfInBounds e (L (S ⟨b,0,N⟩) (d+1) f)) q/\
  jk r b (h++[t]) f/\d+1<=f/\(u=S ⟨b,0,N⟩\/g.heap.size<=b)/\b≠c/\ae (λz=>z=c\/u=S ⟨z,0,N⟩) g r:=λ_=>by
  obtain⟨rfl,rfl,rfl⟩|⟨Q,rfl,R,U⟩:=i.e;have V:=U1 i.a;subst V;refine(JQ c e s q t g i.c i.b).mono ?_;rintro a r ⟨A,b,f,j,l,m,n,o,p⟩;exact⟨A,b,f,j,l,m,Up n,o,p.d λ_ _ a=>Ur a⟩;have W:=i.a;subst W;refine(JR c e s q Q G h t g i.c i.b R U (by omega)).mono ?_;rintro a r ⟨A,b,f,j,l,m,n,o,p⟩;refine⟨A,b,f,j,l,m,n.imp (λa=>by rw[a]) id,o,p.d λ_ _ a=>a.imp id λa=>by rw[a]⟩
 have k:=@aC _ _ i H;have X:=@af _ K;have Y:=λC=>JP C c e g;clear i H K;go_enter func185,ntmps185;go_wp2_with fail;refine(O ()).mono ?_;rintro a D ⟨rfl,b,f,j,l,m,n,o,p⟩;have v:=@nh _ _ _ _ _ _ j l m n o p;have Z:=(j.a e).trans (sq k.1.b);have ai:=λC=>DW C c e _ _ _ D Z;have aj:wrap64 ((d:Int)+1-1)=(d:Int):=by unfold wrap64;have:=k.2;omega
 have ak:wrap64 (d:Int)=d:=by unfold wrap64;have:=k.2;omega
 clear j l m n o p Y;go_wp2_with fail;refine(DV (S ⟨b,0,N⟩) (d+1) f D).mono ?_;rintro a al ⟨rfl,rfl⟩;have aa(_:=()):_:=JY c e _ q b f (d+1) (h++[t]) d D v.1 (sq k.1.b) (WO v.2.2.2.2.1) v.2.1 (by rw[Uu,k.1.a];rfl) (by omega) (by have:=k.2;omega) (λM ab E w=>by have ac:=k.1.a;rw[Ut (by omega),ac]at E;simp at E;subst E;by_cases ad:(d-1)/2<h.length;rw[Ux ad]at w;exact X () ab (Uo w);rw[Ut (by omega)]at w;have:=Uo w;simp at this;rw[this];exact Int.le_refl _)
 go_wp2_with fail;refine aa.mono ?_;rintro a ag ⟨rfl,x⟩;have ah(_:=()):ui g ag c e s q u (λy=>y=h++[t]):=by obtain⟨j,l,m,n,o,p⟩:=v;refine⟨S ⟨b,0,N⟩,d+1,f,h++[t],⟨j.c x λa=>a,sq k.1.b,by rw[Uu,k.1.a];rfl,m,Up ⟨b,rfl,WO o,l.a x λa=>a⟩⟩,rfl,λz a=>?_,p.g x λam an a=>a.elim⟩;cases a;exact n
 clear x;go_wp2;go_end0;exact⟨rfl,ah⟩
def JL(f g l m v a h i d)(j:qQ d f g l m v (a+1) h i)(Q:(a:Int)<100000)(t)(w:i[0]?=S t):
 Cr 148 #[xI f g] d (uk t) λk=>ui d k f g l m v (λak=>True):=by
 obtain⟨b,rfl,n,s⟩:∃b,v=S ⟨b,0,N⟩/\f≠b/\jk d b i h:=by obtain⟨_,R,_⟩|j:=j.e;omega;exact j
 have e:=@cf _ _ _ j s Q;have x:=(j.c.a g).trans j.b;have al:=λo=>DW o f g _ _ _ d x;have am:=λo=>xL o f g _ _ _ d x;have aw:wrap64 ((a:Int)+1-1)=(a:Int):=by unfold wrap64;omega
 have ax:wrap64 (a:Int)=a:=by unfold wrap64;omega
 have U(_:=()):Cr 252 #[L (S ⟨b,0,N⟩) (a+1) h,I J 0,I J a] d (.tuple #[]) λk=>∃p,sL p i/\p[a]?=S t/\jk k b p h/\ae (ap b) d k:=by
  have ay:=j.a;obtain⟨q,y,an⟩:∃q,i[0]?=S q/\q=t:=⟨t,w,rfl⟩
  obtain⟨z,V⟩:∃z,i[a]?=S z:=⟨_,Um (by omega)⟩
  by_cases R:a=0;subst R;refine(JS b (0+1) h i 0 q y d s (by omega)).mono ?_;rintro c k ⟨A,u,r⟩;exact⟨A,i,sL.a i,w,u,r⟩;refine(xK b (a+1) h i 0 a q z y V d s (by omega) (by omega) (by omega)).mono ?_;rintro c k ⟨A,u,r⟩;exact⟨A,_,DX y V (by omega),by rw[UQ (by rw[UA];omega),an],u,r⟩
 clear j s Q w;go_enter func148,ntmps148;go_wp2_with fail;refine(DV (S ⟨b,0,N⟩) (a+1) h d).mono ?_;rintro c az ⟨rfl,rfl⟩;go_wp2_with fail;refine U.mono ?_;rintro c ao ⟨rfl,p,C,W,X,D⟩;have Y:=@af _ (JK f g l m b h (a+1) p a ao (e.1.c.c D λc=>n c) e.1.b n X (C.1.trans e.1.a) (by omega) (by have:=e.2.2;omega));have E:=@cf _ _ _ C D W;clear C X D W al am x U;go_wp2_with fail;refine Y.mono ?_;rintro c Z ⟨⟨aq,rfl⟩,aa,G,ab,ac⟩;have H:=G.1.b E.1;have K:=E.2.1.c ac;have ad:=e.1.c.c K λc=>n c;have M:=H.1.trans e.1.a;have O:=(G.2 a (UF _)).trans E.2.2;have ag:=@af _ (JN f g l m b h a aa t Z ad e.1.b n ab M e.1.d O (by have:=e.2.2;omega));have ar:=@gA _ _ _ _ H K O M;have aA:=λo=>JO o f g Z;clear G ab ac H K ad M O Y;go_wp2_with fail;refine ag.mono ?_;rintro c au ⟨rfl,ah,ai,aj⟩;have av(_:=()):ui d au f g l m (S ⟨b,0,N⟩) (λak=>True):=by obtain⟨u,r,aB,aC⟩:=ar;exact⟨S ⟨b,0,N⟩,a,h,aa.take a,⟨ah,sq e.1.b,by rw[UK];omega,by have:=e.1.d;omega,Up ⟨b,rfl,n,ai⟩⟩,VU,λaq c=>Ur c,(r.d λ_ _ c=>Up (by rw[c])).c (aj.d λ_ _ c=>Ur c)⟩
 clear ah ai aj ag;go_wp2;go_ret;exact⟨rfl,av⟩
def JJ(d e i j k l n f a g c)(b:qQ c d e i j k l n f)(o:(l:Int)<100000)(p:∀s∈f,s.w<=g):
 Cr 159 #[P (S ⟨d,e,N⟩),.int J a,.int J g] c (.tuple #[]) λt=>ui c t d e i j k (λu=>u=f++[⟨a,g⟩]):=by
 have q(_:=()):∀m,ae aa c m->_:=λm r=>JM d e i j k l n f ⟨a,g⟩ m ⟨b.c.c r λa=>a,b.b,b.a,b.d,b.e.imp id λ⟨v,w,h,x⟩=>⟨v,w,h,x.a r λa=>a⟩⟩ o p;clear b o p;go_enter func159,ntmps159;go_wp2_with fail;refine Uq (q () c (ae.a _ _)) ?_;rintro z A ⟨rfl,h⟩;have y:=@af _ h;clear h q;go_wp2;go_end0;exact⟨rfl,y⟩
def JT(b c d e a)(f:a.cell? ⟨b,c,N⟩=S (L d 0 e)):
 Cr 160 #[P (S ⟨b,c,N⟩)] a (.tuple #[.int J 0,B F]) λg=>ae aa a g:=by
 have h:=UL a _ f;simp only at h;go_enter func160,ntmps160;go_wp2;go_ret2;exact⟨rfl,ae.a _ _⟩
def JU(d b g h i e m j c)(a:qQ c d b g h i (e+1) m j)(n:(e:Int)<100000)(t)(o:j[0]?=S t):
 Cr 160 #[P (S ⟨d,b,N⟩)] c (.tuple #[.int J t.e,B T]) λr=>ui c r d b g h i (λx=>True):=by
 have p(_:=()):∀k,ae aa c k->_:=λk q=>JL d b g h i e m j k ⟨a.c.c q λl=>l,a.b,a.a,a.d,a.e.imp id λ⟨s,u,f,v⟩=>⟨s,u,f,v.a q λl=>l⟩⟩ n t o;have y:=(a.c.a b).trans a.b;have z:=a.c.b;have A:¬((e:Int)+1=0):=by omega
 clear a n o;go_enter func160,ntmps160;go_wp2_with fail;refine Uq (p () c (ae.a _ _)) ?_;rintro C D ⟨rfl,f⟩;have w:=@af _ f;clear f p;go_wp2;go_ret2;exact⟨rfl,w⟩
end Go.Proofs.YtlfijfodklhplaaGreat.HI
