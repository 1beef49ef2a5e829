import Derived.Test.YtlfijfodklhplaaGreatAl13
import Derived.Test.YtlfijfodklhplaaGreatAl20
set_option maxRecDepth 100000
set_option maxHeartbeats 4000000
set_option linter.all false
open Go.RowKit Go.Proofs.Tryz
open Go.Value renaming int->I,slice->L,pointer->P,bool->B
open Go.IntKind renaming i64->J
open Option renaming some->S,none->N
open Bool renaming true->T,false->F
namespace Go.Proofs.YtlfijfodklhplaaGreat
def jI(a:Nat):List Nat:=(List.range a).map (171+ ·)
def Bz(a):(jI a).length=a:=by simp[jI]
def F7(a):jI (a+1)=jI a++[171+a]:=by simp[jI,Wt]
def D3(e wr:World)(a:List Nat)(b:Nat)(f:Value):Prop:=ae aa e wr/\
 ((a++jI b=[]/\f=L N 0 0)\/∃c d,f=L (S ⟨c,0,N⟩) (a.length+b) d/\e.heap.size<=c/\gp wr c (a++jI b) d/\a.length+b<=d)
def nT(b:World)(e:Addr)(c:List Nat):Prop:=c=[]\/∃a d,e=⟨a,d,N⟩/\a<b.heap.size/\fE b a d c
def nT.a{a w' b c}(e:nT a b c)(k:ae aa a w'):nT w' b c:=
 e.imp id λ⟨f,g,h,d,i⟩=>⟨f,g,h,Un d k.size,i.a k d λj=>j⟩
def FR(a):Cr 79 #[L N 0 0] a (L N 0 0) λe=>a=e:=by have f:∀(a:World)(b:Option Addr)(c d:Nat),(binOp .eql 56 (L b c d) (L N 0 0)).run prog a= .ok (B b.isNone) a:=λa b c d=>Vq a 56 5 b c d 0 0 underlying56;go_enter func79,ntmps79;go_wp2;go_ret;exact⟨rfl,rfl⟩
def FP(g j n b c)(r:fE c g j b)(K:g<c.heap.size)(M:(b.length:Int)<=140737488351232)(o:0<b.length):
 Calls prog 79 #[L (S ⟨g,j,N⟩) b.length n] c λf p=>
  ∃e d,f= .returned (L (S ⟨e,0,N⟩) b.length d)/\c.heap.size<=e/\gp p e (b++jI 8) d/\b.length+8<=d/\ae aa c p:=by
 have s:∀(c:World)(h:Option Addr)(k d:Nat),(binOp .eql 56 (L h k d) (L N 0 0)).run prog c= .ok (B h.isNone) c:=λc h k d=>Vq c 56 5 h k d 0 0 underlying56;go_enter func79,ntmps79;go_wp2_with (at_builtin;refine vd _ rfl (.tmp 7) (.tmp 8) 56 rfl 5 (I .u8 0) 1 1 underlying56 ng rfl rfl ⟨g,j,N⟩ b.length n o rfl (b.map bv) (by simp) (EL r) (by omega) (by omega) ?_;intro t O u Q v);clear s;go_loopw [3,4] (λw i wr=>∃a:Nat,a<=8/\i= .int J a/\D3 c wr b a w) λ_ i _=>8-(intOf i).toNat;case atStart=>exact⟨0,by omega,rfl,v,Up ⟨c.heap.size,t,rfl,UF _,by simpa [jI]using u,by omega⟩⟩
 case round=>
  obtain⟨a,R,rfl,l,x⟩:=hrel;have U:=l.size;have V:(a:Int)<=8:=by omega
  obtain⟨y,rfl⟩|⟨e,d,rfl,q,m,z⟩:=x;exfalso;have:=(Wo.1 y).1;subst this;simp at o;have W:=m.b;by_cases X:a<8
  .go_wp2_with (at_builtin;refine pP _ rfl (.tmp 14) (.tmp 18) 56 rfl 5 (I .u8 0) 1 1 underlying56 ng rfl e (b.length+a) d rfl ((b++jI a).map bv) (by simp[Bz]) (m.d _) ⟨wr.heap.size,0,N⟩ 1 1 rfl ([171+a].map bv) rfl (ke wr ([171+a].map bv) 5 _ rfl) (rZ _) (by omega) (by omega) ?_;intro A C Y D Z E G);go_roundw;case rel=>
    refine⟨a+1,by omega,by go_num,l.g (((ae.a (ap e) wr).b _).c G) (λi ab f=>by simp only[ap]at f;omega),Up ⟨A,C,by rw[UI],?_,?_,by omega⟩⟩;obtain⟨rfl,_⟩|⟨rfl,_⟩:=E;exact q;simp;omega;have f:(b++jI (a+1)).map bv=(b++jI a).map bv++[171+a].map bv:=by rw[F7];simp
    show dL _ _ _ _ _ _;rw[f];exact D
   case measure=>simp[intOf];omega
  .have H:a=8:=by omega
   subst H;go_wp2;go_ret;exact⟨e,d,rfl,q,m,z,l⟩
def FQ(r s c):
 Calls prog 79 #[L (S r) 0 s] c λe o=>
  ∃d b,e= .returned (L (S ⟨d,0,N⟩) 0 b)/\c.heap.size<=d/\gp o d ([]++jI 8) b/\8<=b/\ae aa c o:=by
 have t:∀(c:World)(f:Option Addr)(k b:Nat),(binOp .eql 56 (L f k b) (L N 0 0)).run prog c= .ok (B f.isNone) c:=λc f k b=>Vq c 56 5 f k b 0 0 underlying56;go_enter func79,ntmps79;go_wp2;clear t;go_loopw [3,4] (λu g wr=>∃a:Nat,a<=8/\g= .int J a/\D3 c wr [] a u) λ_ g _=>8-(intOf g).toNat;case atStart=>exact⟨0,by omega,rfl,ae.a _ _,Ur ⟨rfl,rfl⟩⟩
 case round=>
  obtain⟨a,D,rfl,h,v⟩:=hrel;have E:=h.size;have G:(a:Int)<=8:=by omega
  obtain⟨w,rfl⟩|⟨d,b,rfl,p,i,q⟩:=v
  .have x:a=0:=by have:=Vj List.length w;simp[Bz]at this;exact this
   subst x;go_wp2_with (at_builtin;refine vd _ rfl (.tmp 14) (.tmp 18) 56 rfl 5 (I .u8 0) 1 1 underlying56 ng rfl rfl ⟨wr.heap.size,0,N⟩ 1 1 (by omega) rfl ([171].map bv) rfl (ke wr ([171].map bv) 5 _ rfl) (by omega) (by omega) ?_;intro l y j m n);go_roundw;case rel=>
    rw[Uv]at j;exact⟨1,by omega,by go_num,(h.b _).c n,Up ⟨wr.heap.size+1,l,rfl,by omega,j,by simpa using m⟩⟩
   case measure=>simp[intOf]
  have H:=i.b;simp only[VD,Ve]at i q|-;by_cases K:a<8
  .go_wp2_with (at_builtin;refine pP _ rfl (.tmp 14) (.tmp 18) 56 rfl 5 (I .u8 0) 1 1 underlying56 ng rfl d a b rfl (([]++jI a).map bv) (by simp[Bz]) (i.d _) ⟨wr.heap.size,0,N⟩ 1 1 rfl ([171+a].map bv) rfl (ke wr ([171+a].map bv) 5 _ rfl) (rZ _) (by omega) (by omega) ?_;intro z l y j m A n);go_roundw;case rel=>
    refine⟨a+1,by omega,by go_num,h.g (((ae.a (ap d) wr).b _).c n) (λg M e=>by simp only[ap]at e;omega),Up ⟨z,l,by simp,?_,?_,by simpa using m⟩⟩;obtain⟨rfl,_⟩|⟨rfl,_⟩:=A;exact p;simp;omega;have e:([]++jI (a+1)).map bv=([]++jI a).map bv++[171+a].map bv:=by rw[F7];simp
    show dL _ _ _ _ _ _;rw[e];exact j
   case measure=>simp[intOf];omega
  .have C:a=8:=by omega
   subst C;go_wp2;go_ret;exact⟨d,b,rfl,p,i,q,h⟩
def Gq(a b c d):(binOp .eql 56 (L b c d) (L N 0 0)).run prog a= .ok (B b.isNone) a:=
 Vq a 56 5 b c d 0 0 underlying56
def Hg(b c a):
 Cr 82 #[P (S ⟨b,0,N⟩),c,L N 0 0] a (B T) λd=>a=d:=by
 have e:=Gq;go_enter func82,ntmps82;go_wp2;go_ret;exact⟨rfl,rfl⟩
def OW(k)(a:k<8):(jI 8)[k]?=S (171+k):=by simp[jI,a]
def Hh(g f k r O b l j s p m c)(x:aq c g m 73)(y:m[2]?=S (L l j s))(Q:g≠f)(z:lu c l j s 106 p λA=>A=f\/A=g)(q:gp c f (b++jI 8) k)(R:b.length+8<=k)(C:nT c r b)(U:∀V∈b,V<256)(W:(b.length:Int)<=140737488351232)(D:(j:Int)<1099511627776):
 Cr 82 #[P (S ⟨g,0,N⟩),L (S ⟨f,0,N⟩) b.length k,L (S r) b.length O] c (B T) λt=>∃d,Bk 0 (ap f) (c.drewN d) t g j l p m:=by
 have X:=Gq;have E:∀a,a<b.length->c.cell? ⟨f,a,N⟩=S (I .u8 ((b[a]?.getD 0:Nat):Int)):=λa e=>by have:=q.c a (bv b[a]) (by rw[Uz,Ux e,Um e];rfl);rw[this,Um e];rfl
 have u:∀a,a<b.length->∃n o,r=⟨n,o,N⟩/\c.cell? ⟨n,o+a,N⟩=S (I .u8 ((b[a]?.getD 0:Nat):Int)):=λa e=>by obtain Y|⟨n,o,Z,_,ab⟩:=C;rw[Y]at e;simp at e;exact⟨n,o,Z,by rw[ab a e,Um e];rfl⟩
 have G:∀a,a<8->c.cell? ⟨f,b.length+a,N⟩=S (I .u8 (171+(a:Int))):=λa e=>by have:=q.c (b.length+a) (bv (171+a)) (by rw[Uz,Ut (by omega),Wh,OW a e];rfl);rw[this];show S (I .u8 ((171+a:Nat):Int))=_;congr 2
 have ac(_:=()):∀d,Cr 127 #[P (S ⟨g,2,N⟩),L (S ⟨f,0,N⟩) b.length k] (c.drewN d) (.tuple #[]) λt=>Bk 0 (ap f) (c.drewN d) t g j l p m:=λd=>by have v:=(ae.a aa c).drewN d;have H:=q.g b.length;rw[<-XR,Wp]at H;have:=ye 0 (by omega) g (S ⟨f,0,N⟩) b.length k (b.map bv) l j s p m (c.drewN d) (x.c v λh=>h) y (λh=>Q (cM.1 h)) (by rw[yB];exact z.b v λ_ _ _ h=>h) ((H.a v λh=>h).h (by simp) (by omega)) (show (b.length:Int)<=140737488351300 by omega) D;rw[yB]at this;exact this
 clear x z q C U D y;go_enter func82,ntmps82;go_wp2_with fail;clear X;go_loopw [8,9] (λw i wr=>∃a d:Nat,a<=b.length/\i= .int J a/\w=B T/\wr=c.drewN d) λ_ i _=>b.length-(intOf i).toNat;case atStart=>exact⟨0,0,by omega,rfl,rfl,rfl⟩
 case round=>
  obtain⟨a,d,e,rfl,rfl,rfl⟩:=hrel;by_cases K:a<b.length
  .have ai:=E a K;obtain⟨n,o,rfl,aj⟩:=u a K;clear u;go_wp2_with fail;go_quiet (fail);go_wp2;exact⟨⟨a+1,d+nq,by omega,by go_num,rfl,rfl⟩,by simp[intOf];omega⟩
  .clear E u;go_wp2_with fail;go_loopw [8,10] (λw i wr=>∃a:Nat,a<=8/\i= .int J a/\w=B T/\wr=c.drewN d) λ_ i _=>8-(intOf i).toNat;case atStart=>exact⟨0,by omega,rfl,rfl,rfl⟩
   case round=>
    obtain⟨a,e,rfl,rfl,rfl⟩:=hrel;by_cases ad:a<8
    .have ak:=G a ad;have al:(a:Int)<8:=by omega
     go_wp2;exact⟨⟨a+1,by omega,by go_num,rfl,VU⟩,by simp[intOf];omega⟩
    .have ag:a=8:=by omega
     subst ag;clear G W R;go_wp2_with fail;refine Uq (ac () d) ?_;rintro h am ⟨rfl,M⟩;have ah:=@af _ M;clear M;go_wp2;go_ret;exact⟨rfl,d,ah⟩
def Hd(i n o e f)(u:fE f i n e)(v:i<f.heap.size)(w:e.length<=o)(a:∀b∈e,b<256)(b)(j:ie e b):
 Cr 81 #[L (S ⟨i,n,N⟩) e.length o] f (.tuple #[.agg (fc b.d b.s b.k b.l b.n b.f),.int J 0]) λz=>ae aa f z:=by
 obtain q|q:=G2 e b j;obtain⟨k,c,d,g,h,rfl⟩:=Bv e q;have l:=G1 k c d g h (a _ (by simp)) (a _ (by simp)) (a _ (by simp)) (a _ (by simp)) b j;have p:dx ⟨F,c*256+d,Fr.dq⟩:=⟨by have:=a c (by simp);have:=a d (by simp);show c*256+d<65536;omega,Up ⟨rfl,rfl⟩⟩
 have m:=pC _ p;rw[l,SC]at m;rw[BZ j m];exact Ry i n o k c d g h f u v w a l;obtain⟨k,c,d,g,h,r,s,t,x,y,rfl⟩:=Bu e q;obtain⟨A,l⟩:=G0 k c d g h r s t x y (a _ (by simp)) (a _ (by simp)) (a _ (by simp)) (a _ (by simp)) (a _ (by simp)) (a _ (by simp)) b j;have p:=Bg c d g h r s t (a _ (by simp)) (a _ (by simp)) (a _ (by simp)) (a _ (by simp)) (a _ (by simp)) (a _ (by simp)) A;have m:=pC _ p;rw[l,SD]at m;rw[BZ j m];exact RB i n o k c d g h r s t x y f u v w a p l
def Hc(f i j b e)(q:fE e f i b)(r:f<e.heap.size)(s:b.length<=j)(a:∀t∈b,t<256)(w:∀t,¬ie b t):
 Cr 81 #[L (S ⟨f,i,N⟩) b.length j] e (.tuple #[.agg (fc F 0 0 0 0 F),.int J 9]) λA=>ae aa e A:=by
 by_cases C:b.length=5;obtain⟨l,c,d,g,h,rfl⟩:=Bv b C;have m:dx ⟨F,c*256+d,Fr.dq⟩:=⟨by have:=a c (by simp);have:=a d (by simp);show c*256+d<65536;omega,Up ⟨rfl,rfl⟩⟩
 refine Rx f i j l c d g h e q r s a λu=>?_;have k:=pC _ m;rw[u]at k;exact w _ k;by_cases D:b.length=10;obtain⟨l,c,d,g,h,n,o,p,x,y,rfl⟩:=Bu b D;have E:=a c (by simp);have G:=a d (by simp);by_cases z:bJ (g:Int) (h:Int) ((o:Int)*256+(p:Int)) (n==1)=T;have m:=Bg c d g h n o p E G (a _ (by simp)) (a _ (by simp)) (a _ (by simp)) (a _ (by simp)) z;refine RA f i j l c d g h n o p x y e q r s a m λu=>?_;have k:=pC _ m;rw[u]at k;exact w _ k;refine Rz f i j l c d g h n o p x y e q r s a ?_;rw[Bb (by omega) (by rintro (⟨_,v⟩|⟨v,_⟩);exact z v;cases v)];omega;exact wF _ _ _ e (by rw[bne_iff_ne];omega) (by rw[bne_iff_ne];omega)
def AG(f:TypeId)(g:Nat)(h:Nat->Value)(w:World)(i:Value)(e:Nat->Prop):Prop:=∃(b:Nat)(c:List Ls),i=L (S ⟨b,0,N⟩) 4 4/\aq w b (c.map Ls.d).toArray f/\c.length=4/\e b/\
 ∀a∈c,(a.n=0\/∃j k,a.a=S ⟨j,k,N⟩)/\ld w a.a a.n g h/\(a.n:Int)<=140737488351310/\∀d,ag a.a d->e d/\d<w.heap.size
def AG.a{h i j l w w' m n o}(q:AG h i j w m n)(k:ae l w w')(d:∀e,e<w.heap.size->n e->¬l e/\o e):AG h i j w' m o:=by obtain⟨f,r,s,g,t,p,u⟩:=q;refine⟨f,r,s,g.c k (d f g.b p).1,t,(d f g.b p).2,λv x=>?_⟩;obtain⟨y,z,A,c⟩:=u v x;exact⟨y,z.b k λa b=>⟨(c a b).2,(d a (c a b).2 (c a b).1).1⟩,A,λa b=>⟨(d a (c a b).2 (c a b).1).2,Un (c a b).2 k.size⟩⟩
def um(a:Nat)(w:World)(c:Nat)(g:Value)(d:Nat->Prop):Prop:=∃e h,(∀b f,ve a c e=S (b,f)->d b/\b<w.heap.size/\fE w b 0 f)/\AG (vX a) (jA a) (r9 a c (rr c e h)) w g d
def um.a{e f w w' g h i j}(m:um e w g h i)(k:ae f w w')(c:∀a,a<w.heap.size->i a->¬f a/\j a):um e w' g h j:=
 let ⟨n,o,p,q⟩:=m
 ⟨n,o,λd r s=>let ⟨l,b,t⟩:=p d r s;⟨(c d b l).2,Un b k.size,t.a k b (c d b l).1⟩,q.a k c⟩
structure Rw where
 a:Option Addr
 n:Nat
 c:Nat
 V:List Value
def Rw.b(a:Rw):Value:=L a.a a.n a.c
def Rw.d:Rw:=⟨N,0,0,[]⟩
def pO(b:Nat->Rw)(c:Nat)(d:Rw)(a:Nat):Rw:=if a=c then d else b a
def Cv(c a b):pO c a b a=b:=by simp[pO]
def Cu(b c d a)(e:a≠c):pO b c d a=b a:=by simp[pO,e]
structure Cx where
 W0:World
 R:Nat->Rw
 X:World->(Nat->Nat)->Prop
 st:∀(c:Nat->Prop)(w w':World)(b d:Nat->Nat),X w b->ae c w w'->(∀a,a<w.heap.size->c a->b a=0\/(10<=b a/\b a<=16))->(∀a,a<w.heap.size->b a≠0->d a=b a)->X w' d
abbrev uW(p0 p1:Value)(a:Nat->Rw):Array Value:= #[p0,p1,(a 0).b,(a 1).b,(a 2).b,(a 3).b,(a 4).b,(a 5).b]
structure nu(C:Cx)(w:World)(g:Nat->Nat)(yb:Nat)(p0 p1:Value)(j:Nat->Rw):Prop where
 f:ae (ap yb) C.W0 w
 a:aq w yb (uW p0 p1 j) 73
 c:∀d,d<6->lu w (j d).a (j d).n (j d).c (qx d) (j d).V λn=>g n≠11+d
 b:g yb=10
 e:∀k,k<C.W0.heap.size->k≠yb->g k=9
 i:∀d,d<6->∀l m,(j d).V[l]?=S m->um d w l m λx=>g x=1
 h:∀k,w.heap.size<=k->g k=0
 x:C.X w g
def nu.g{C w c yb p0 p1 d}(e:nu C w c yb p0 p1 d){a}(f:a<6){b}(g:(d a).a=S ⟨b,0,N⟩):b<w.heap.size/\c b=11+a:=by have:=(e.c a f).c b g;exact⟨this.1,Wa.1 this.2⟩
def nu.d{C C' w w' c tag' yb p0 p1 q l}(b:nu C w c yb p0 p1 q)(k:ae l w w')(t:∀a,a<w.heap.size->l a->c a≠1/\¬(9<=c a/\c a<=16))(g:∀a,a<w.heap.size->(c a=1\/(9<=c a/\c a<=16))->tag' a=c a)(u:∀a,w'.heap.size<=a->tag' a=0)(v:C'.X w' tag')(r:C'.W0=C.W0):nu C' w' tag' yb p0 p1 q:=by
 have s:=b.a.b;have z:=b.f.size;have h:∀a,a<w.heap.size->(c a=1\/(9<=c a/\c a<=16))->¬l a:=λa d A m=>by have:=t a d m;omega
 refine⟨?_,b.a.c k (h yb s (by have:=b.b;omega)),λn f=>?_,(g yb s (by have:=b.b;omega)).trans b.b,λa d i=>?_,λn f a x y=>(b.i n f a x y).a k λe j o=>⟨h e j (Ur o),(g e j (Ur o)).trans o⟩,u,v⟩;rw[r];exact b.f.g k (λa d m=>by by_cases i:a=yb;exact i;exact absurd m (h a (by omega) (by have:=b.e a d i;omega)))
 refine((b.c n f).b k λe j p=>h e j (by have:=(b.g f p).2;omega)).a λe _ p _=>?_;have:=b.g f p;simp only[Wa];rw[g e this.1 (by omega)];exact this.2;rw[r]at d;have:=b.e a d i;rw[g a (by omega) (by omega)];exact this
def nu.j{C w w' a yb p0 p1 d}(b:nu C w a yb p0 p1 d)(k:ae aa w w'):nu C w' a yb p0 p1 d:=
 b.d k (λe _ c=>c.elim) (λ_ _ _=>rfl) (λe f=>b.h e (UM k.size f)) (C.st aa w w' a a b.x k (λ_ _ c=>c.elim) λ_ _ _=>rfl) rfl
structure zy(f:Nat)(l:Nat->Prop)(w w':World)(yb:Nat)(p0 p1:Value)(g:Nat->Rw)(h c':Nat)(i:Value):Prop where
 e:aq w' yb (uW p0 p1 (pO g f ⟨S ⟨h,0,N⟩,(g f).n+1,c',(g f).V++[i]⟩)) 73
 b:dL w' h (qx f) 1 ((g f).V++[i]) c'
 c:(g f).a=S ⟨h,0,N⟩\/w.heap.size<=h
 d:um f w' (g f).n i λj=>(l j\/w.heap.size<=j)/\j≠h
 a:ae (λk=>l k\/k=yb\/(g f).a=S ⟨k,0,N⟩) w w'
def nu.l{j}(D:j<6){q C w w' g yb p0 p1 k r c' E}(d:nu C w g yb p0 p1 k)(G:∀f,f<w.heap.size->q f->g f=0)(s:zy j q w w' yb p0 p1 k r c' E):
 ∃i,nu C w' i yb p0 p1 (pO k j ⟨S ⟨r,0,N⟩,(k j).n+1,c',(k j).V++[E]⟩)/\(∀a,a<w.heap.size->¬q a->i a=g a)/\(∀a,a<w.heap.size->g a≠0->i a=g a):=by
 classical
 obtain⟨i,u⟩:∃i:Nat->Nat,i=λa=>if a<w.heap.size then (if q a then 1 else g a)else if a<w'.heap.size then (if a=r then 11+j else 1)else 0:=⟨_,rfl⟩
 have H:∀a,a<w.heap.size->¬q a->i a=g a:=λa l O=>by rw[u];simp only[l,O,VR,Xi]
 have o:∀a,a<w.heap.size->g a≠0->i a=g a:=λa l Q=>H a l λv=>Q (G a l v);refine⟨i,?_,H,o⟩;have R:=d.a.b;have ad:=d.f.size;have l:=s.a;have x:∀b,b<w.heap.size->(q b\/b=yb\/(k j).a=S ⟨b,0,N⟩)->g b=0\/g b=10\/g b=11+j:=λb n c=>by obtain c|c|c:=c;exact Ur (G b n c);rw[c];exact Up (Ur d.b);exact Up (Up (d.g D c).2)
 have U:i r=11+j:=by obtain c|c:=s.c;have:=d.g D c;rw[o r this.1 (by omega)];exact this.2;have:=s.b.b;rw[u];simp only;rw[Us (by omega),UG this];exact UG VU
 refine⟨?_,s.e,λe m=>?_,(o yb R (by have:=d.b;omega)).trans d.b,λb n y=>?_,λe m b p h=>?_,λa af=>by have:=l.size;rw[u];simp only;rw[Us (by omega),Us (by omega)],C.st _ w w' g i d.x l (λb n c=>by have:=x b n c;omega) o⟩;exact d.f.g l (λb n c=>by by_cases y:b=yb;exact y;have V:=x b (by omega) c;have W:=d.e b n y;omega)
 by_cases c:e=j;subst c;rw[Cv];refine Up ⟨r,rfl,s.b,?_,by rw[Wa];exact U⟩;rw[Uu,(d.c e m).d.1];rfl;rw[Cu _ _ _ _ c];refine((d.c e m).b l λf t z X=>?_).a λf _ z _=>?_;have V:=x f t X;have W:=(d.g m z).2;omega;have:=d.g m z;simp only[Wa];rw[o f this.1 (by omega)];exact this.2;have:=d.e b n y;rw[o b (by omega) (by omega)];exact this;have K:∀e,e<6->∀b p,(k e).V[b]?=S p->um e w' b p (λf=>i f=1):=λe m b p h=>(d.i e m b p h).a l (λf t A=>⟨λc=>by have:=x f t c;omega,(o f t (by omega)).trans A⟩);by_cases c:e=j;subst c;rw[Cv]at h;simp only at h;have ag:=(d.c e m).d.1;by_cases n:b<(k e).V.length;rw[Ux n]at h;exact K e m b p h;rw[Ut (by omega)]at h;have Y:b-(k e).V.length=0:=by have:=(Ul.1 h).1;simp at this;omega
 rw[Y]at h;simp at h;subst h;have Z:b=(k e).n:=by omega
 subst Z;refine s.d.a (ae.a aa w') λf t ab=>⟨λc=>c,?_⟩;obtain⟨A,ac⟩:=ab;rw[u];simp only;by_cases M:f<w.heap.size;rw[UG M];obtain v|v:=A;rw[UG v];omega;rw[Us M,UG t,Us ac];rw[Cu _ _ _ _ c]at h;exact K e m b p h
def Bk.a{κ}(O:κ<6){g w w' yb p0 p1 R}(h:Bk κ g w w' yb (R κ).n (R κ).a (R κ).V (uW p0 p1 R)):∃a b i,zy κ g w w' yb p0 p1 R a b i:=by obtain⟨j,k,l,m,a,b,n,o,p,q,r,s,t,u,v,x⟩:=h;refine⟨a,b,_,?_,o,p,⟨j,k,λy z A=>let ⟨c,d,e,f⟩:=v y z A;⟨⟨Up c,d⟩,e,f⟩,m,l,rfl,q,t,⟨Up r,s⟩,λC D=>let ⟨c,d,e,f⟩:=u C D;⟨c,d,e,λE G=>let ⟨H,K,M⟩:=f E G;⟨⟨H,K⟩,M⟩⟩⟩,x⟩;obtain rfl|rfl|rfl|rfl|rfl|rfl:=(by omega:κ=0\/κ=1\/κ=2\/κ=3\/κ=4\/κ=5)<;>exact n
def lM(b:Nat->Rw)(c d:Rw)(a:Nat):Rw:=if a=0 then c else if a=1 then d else b a
def rz(C:Cx)(w:World)(yb:Nat)(p0 p1:Value)(a0:Option Addr)(na ca:Nat)(VA:List Value)(b0:Option Addr)(nb cb:Nat)(VB:List Value):Prop:=∃a,nu C w a yb p0 p1 (lM C.R ⟨a0,na,ca,VA⟩ ⟨b0,nb,cb,VB⟩)
def kt(C:Cx)(w:World)(yb:Nat)(p0 p1:Value)(na nb:Nat):Prop:=∃a0 ca VA b0 cb VB,rz C w yb p0 p1 a0 na ca VA b0 nb cb VB
abbrev Cx.a(C:Cx):Value:=(C.R 2).b
abbrev Cx.b(C:Cx):Value:=(C.R 3).b
abbrev Cx.c(C:Cx):Value:=(C.R 4).b
abbrev Cx.d(C:Cx):Value:=(C.R 5).b
section
variable {C : Cx} {w w' w1 : World} {yb : Nat} {p0 p1 : Value} {a0 : Option Addr} {na ca : Nat} {VA : List Value} {b0 : Option Addr} {nb cb : Nat} {VB : List Value}
def rz.a(a:rz C w yb p0 p1 a0 na ca VA b0 nb cb VB)(k:ae aa w w'):rz C w' yb p0 p1 a0 na ca VA b0 nb cb VB:=let ⟨b,a⟩:=a;⟨b,a.j k⟩
def rz.b(a:rz C w yb p0 p1 a0 na ca VA b0 nb cb VB):aq w yb #[p0,p1,L a0 na ca,L b0 nb cb,C.a,C.b,C.c,C.d] 73:=let ⟨_,a⟩:=a;a.a
def rz.c(a:rz C w yb p0 p1 a0 na ca VA b0 nb cb VB):lu w a0 na ca 106 VA (λc=>c=yb\/c<C.W0.heap.size):=by obtain⟨h,a⟩:=a;refine lu.a (a.c 0 (by omega)) λd _ i g b=>?_;have e:=Wa.1 g;obtain b|b:=b;rw[b,a.b]at e;omega;by_cases f:d=yb;rw[f,a.b]at e;omega;have:=a.e d b f;omega
def rz.e(a:rz C w yb p0 p1 a0 na ca VA b0 nb cb VB):lu w b0 nb cb 109 VB (λc=>c=yb\/c<C.W0.heap.size):=by obtain⟨h,a⟩:=a;refine lu.a (a.c 1 (by omega)) λd _ i g b=>?_;have e:=Wa.1 g;obtain b|b:=b;rw[b,a.b]at e;omega;by_cases f:d=yb;rw[f,a.b]at e;omega;have:=a.e d b f;omega
def R0(a d b c):pO (lM a d b) 0 c=lM a c b:=by funext e;unfold pO lM;split<;>rfl
def R3(b c e d):pO (lM b c e) 1 d=lM b c d:=by funext f;unfold pO lM;by_cases a:f=1;subst a;rfl;rw[Us a,Us a,Us a]
def rz.d{b}(e:rz C w yb p0 p1 a0 na ca VA b0 nb cb VB)(f:ae aa w w1)(g:∀a,b a->w.heap.size<=a)(h:Bk 0 b w1 w' yb na a0 VA #[p0,p1,L a0 na ca,L b0 nb cb,C.a,C.b,C.c,C.d]):kt C w' yb p0 p1 (na+1) nb:=by obtain⟨m,c⟩:=e;have i:=c.j f;obtain⟨n,o,p,j⟩:=Bk.a (κ:=0) (by omega) (R:=lM C.R ⟨a0,na,ca,VA⟩ ⟨b0,nb,cb,VB⟩) h;obtain⟨k,d,_,_⟩:=i.l (by omega) (λa _ l=>c.h a (g a l)) j;rw[R0]at d;exact⟨_,_,_,_,_,_,k,d⟩
def rz.f{b}(e:rz C w yb p0 p1 a0 na ca VA b0 nb cb VB)(f:ae aa w w1)(g:∀a,b a->w.heap.size<=a)(h:Bk 1 b w1 w' yb nb b0 VB #[p0,p1,L a0 na ca,L b0 nb cb,C.a,C.b,C.c,C.d]):kt C w' yb p0 p1 na (nb+1):=by obtain⟨m,c⟩:=e;have i:=c.j f;obtain⟨n,o,p,j⟩:=Bk.a (κ:=1) (by omega) (R:=lM C.R ⟨a0,na,ca,VA⟩ ⟨b0,nb,cb,VB⟩) h;obtain⟨k,d,_,_⟩:=i.l (by omega) (λa _ l=>c.h a (g a l)) j;rw[R3]at d;exact⟨_,_,_,_,_,_,k,d⟩
end
def Rs(g c a)(d:Cr 81 #[c] a (.tuple #[.agg (fc F 0 0 0 0 F),.int J 9]) λb=>ae aa a b):
 Cr 132 #[P (S ⟨g,0,N⟩),c] a (L N 0 0) λb=>ae aa a b:=by
 have e:=@af _ d;clear d;go_enter func132,ntmps132;go_wp2_with fail;refine e.mono ?_;rintro i j ⟨rfl,f⟩;have h:=@af _ f;clear e f;go_wp2;go_ret;exact⟨rfl,h.b _⟩
def Rq(c b d)(a:Nat)(K k)(l:cV k c b d)(M:Cr 81 #[K] k (.tuple #[.agg (fc F (a:Int) 0 0 0 F),.int J 0]) λh=>ae aa k h)(O:(b.bD.length:Int)<5864061014000):
 Cr 132 #[P (S ⟨c,0,N⟩),K] k (L N 0 0) λh=>∃i,cV h c (b.g a) i/\fR k h c d i:=by
 have Q:=@af _ M;have t:=@af _ l;have ad:=@af _ O;clear M l O;go_enter func132,ntmps132;go_wp2_with fail;refine Q.mono ?_;rintro e u ⟨rfl,R⟩;have U:=@af _ R;clear Q R;go_upto_region 5 with fail;obtain⟨f,o⟩:=ah (u.alloc (.cells #[B F,I J a,I J 0,I J 0,I J 0,B F] 78));have n:aq f u.heap.size #[B F,I J a,I J 0,I J 0,I J 0,B F] 78:=by rw[o];exact aq.e _ _ _
 have v:ae aa k f:=by rw[o];exact U.b _
 rw[<-o];obtain⟨w,V⟩:=ah u.heap.size;rw[<-V]at n|-;have p:=n.a 1;simp at p;have x:=n.b;have m:=t.a v λ_ _ e=>e;have q:=m.cG.a 1;have W:=m.cG.a 2;simp[fJ]at q W;have y:=m.cG.d 1;have r:=m.cG.b;have z:=@aC _ _ n v;have A:=@af _ m;have ag:¬c=w:=by have am:=t.cG.b;have an:=U.size;omega
 have ao:¬w=c:=λj=>ag j.symm;clear o n V v m;by_cases C:b.eu<a;have ai:(b.eu:Int)<a:=by omega
 by_cases s:a<=b.dI
 .have aj:(a:Int)<=b.dI:=by omega
  go_wp2_with fail;go_quiet (fail);obtain⟨D,E⟩:=ah (f.drewN nq);have g:ae aa f D:=by rw[E];exact(ae.a aa f).drewN nq
  rw[<-E];replace q:=(g.f c 1 r λj=>j).trans q;replace y:=(g.h c 1 r λj=>j).trans y;replace p:=(g.f w 1 x λj=>j).trans p;have ap:=Un r g.size;have ar:=Un x g.size;have G:=(A.a g λ_ _ e=>e).s (e':= {b with eu:=a}) 1 (I J a) (by simp[fJ]) rfl rfl rfl t.i s;have X:=@aC _ _ G.1 ((fR.c c d (z.2.c g)).a G.2);have Y(_:=()):Cr 130 #[P (S ⟨c,0,N⟩)] (D.setCell ⟨c,1,N⟩ (I J a)) (.tuple #[]) λh=>∃i,cV h c (b.g a) i/\fR (D.setCell ⟨c,1,N⟩ (I J a)) h c d i/\i.ka=d.ka/\i.kc=d.kc:=by
   have:=G9 c {b with eu:=a} d _ X.1 ad;have ak:({b with eu:=a}:Rf).a (max b.dI (min b.cD.length (a+4)))=b.g a:=by unfold Rf.g;rw[UG ⟨C,s⟩]
   rwa [ak]at this
  clear E g G r x W C s;go_wp2_with fail;refine Uq Y ?_;rintro e au ⟨rfl,al,Z,ab,_,_⟩;have ac:=@aC _ _ Z (X.2.a ab);clear Z ab Y q y p;go_wp2;go_ret;exact⟨rfl,al,ac.1,ac.2⟩
 .have aj:(b.dI:Int)<a:=by omega
  have H(_:=()):b.g a=b:=by unfold Rf.g;rw[Us λl=>s l.2]
  go_wp2_with fail;go_quiet (fail);go_wp2;go_ret;refine⟨rfl,d,?_,fR.c c d (z.2.c ((ae.a aa f).drewN nq))⟩;rw[H];exact A.a ((ae.a aa f).drewN nq) λ_ _ e=>e
 .have ai:(a:Int)<=b.eu:=by omega
  have H(_:=()):b.g a=b:=by unfold Rf.g;rw[Us λl=>C l.1]
  go_wp2_with fail;go_quiet (fail);go_wp2;go_ret;refine⟨rfl,d,?_,fR.c c d (z.2.c ((ae.a aa f).drewN nq))⟩;rw[H];exact A.a ((ae.a aa f).drewN nq) λ_ _ e=>e
def Br:(prog.info? 283).map (λa=>(a.zero,a.size,a.bytes))=S (S (.agg #[.int J 0,.int J 0,.int J 0,.int J 0,B F]),5,40):=by kernel_rfl
def sg(a):(qr a).length=5:=rfl
def uI(a b):fB (a::b)=qr a++fB b:=by simp[fB]
def Bo(a b):fB (a++b)=fB a++fB b:=by simp[fB]
def Bp(a):(fB a).length=a.length*5:=by
 induction a with
 |nil=>rfl
 |cons c d b=>rw[uI,Uu,b,sg,Vg];omega
def Uk(b a):(fB b).take (a*5)=fB (b.take a):=by
 induction b generalizing a with
 |nil=>simp[fB]
 |cons d e c=>
  cases a with
  |zero=>simp[fB]
  |succ a=>
   rw[List.take_succ_cons,uI,uI,<-c a,List.take_append,US (by rw[sg];omega),sg];congr 2;omega
def Ol(b a):(fB b).drop (a*5)=fB (b.drop a):=by
 induction b generalizing a with
 |nil=>simp[fB]
 |cons d e c=>
  cases a with
  |zero=>simp
  |succ a=>
   rw[Xl,uI,<-c a,We,U6 (by rw[sg];omega),VG,sg];congr 1;omega
def Bq(c):∀a∈fB c,a.oneCell'=T:=by intro a d;obtain⟨e,_,b⟩:=VW.1 d;simp only[qr,dy,UZ,U9,Wc]at b;obtain rfl|rfl|rfl|rfl|rfl:=b<;>rfl
def Om(a b d)(e:a[b]?=S d)(c)(f:c<5):(fB a)[b*5+c]?=(qr d)[c]?:=by
 have g:(fB a).drop (b*5)=qr d++fB (a.drop (b+1)):=by rw[Ol];obtain⟨h,rfl⟩:=Ul.1 e;rw[VY h,uI]
 have i:(fB a)[b*5+c]?=((fB a).drop (b*5))[c]?:=by rw[VC]
 rw[i,g,Ux (by rw[sg];exact f)]
def cV.r{d n e g}(o:cV d n e g)(t f)(h:e.cw[t]?=S f):∃a b,g.ka=S ⟨a,b,N⟩/\a<d.heap.size/\∀i c,(qr f)[i]?=S c->d.cell? ⟨a,b+t*5+i,N⟩=S c:=by obtain⟨_,j,_⟩|⟨a,b,j,k⟩:=o.nI.2.2;have:=(Ul.1 h).1;omega;refine⟨a,b,j,k.b,λl c m=>?_⟩;have p:=(Ul.1 m).1;have:=k.a (t*5+l) c (by rw[Om e.cw t f h l p];exact m);rw[<-UI]at this;exact this
def cV.u{k w1 e d p}(c:cV k e d p)(g a' c')(u:RV w1 283 5 a' g.length c' (fB g))(i:∀b,ag a' b->ag p.ka b\/k.heap.size<=b)(j:ae (ag p.ka) k w1):
 cV (w1.setCell ⟨e,4,N⟩ (L a' g.length c')) e {d with cw:=g} {p with ka:=a',kc:=c'}/\fR k (w1.setCell ⟨e,4,N⟩ (L a' g.length c')) e p {p with ka:=a',kc:=c'}:=by
 have l:ae (ap e) w1 (w1.setCell ⟨e,4,N⟩ (L a' g.length c')):=(ae.a (ap e) w1).e (p:=⟨e,4,N⟩) (λ_=>rfl) _;have v:=c.b;have E:=c.cG.b;have q:∀b,ag a' b->b≠e:=λb h d=>(i b h).elim (λa=>c.f (d▸a)) (λa=>by omega);have w:∀b,ag p.sa b->¬ag a' b:=λb d h=>(i b h).elim (λa=>c.n b d a) (λa=>by have:=c.pw.b b d;omega);have x:∀b,ag a' b->¬ag p.fa b:=λb h d=>(i b h).elim (λa=>c.l b a d) (λa=>by have:=c.oF.b b d;omega);refine⟨⟨?_,?_,?_,?_,c.e,?_,c.h,λa=>q e a rfl,c.d,w,c.m,x,?_,c.o,c.g,c.i,c.j,c.p,c.q⟩,⟨λb h=>?_,λb m h=>Ur ⟨m,h⟩,?_⟩⟩
 .have:=(c.cG.c j c.f).f 4 (L a' g.length c');have y:(fJ d p).setIfInBounds 4 (L a' g.length c')=fJ {d with cw:=g} {p with ka:=a',kc:=c'}:=by simp[fJ]
  rwa [y]at this
 exact(c.pw.a j λb a f=>c.n b a f).a l λb a f=>c.h (f▸a);exact u.a l λb a=>q b a;exact(c.oF.a j λb a f=>c.l b f a).a l λb a f=>c.d (f▸a);intro z o A r C;have:=c.oE z o A r C;have s:=c.c o.1 o.2 (Uo r);exact⟨(this.1.a j λa=>s (Up (Up (Ur a)))).a l λa=>s (Ur a),this.2⟩;intro b m t D;have n:=c.c b m t;have G:=v b (Up ⟨m,t⟩);obtain a|a|a|a:=D;exact n (Ur a);exact n (Up (Ur a));obtain f|f:=i b a;exact n (Up (Up (Ur f)));omega;exact n (Up (Up (Up a)));obtain a|a|a|a:=h;exact Ur (Ur a);exact Ur (Up (Ur a));exact(i b a).imp (λf=>Up (Up (Ur f))) id;exact Ur (Up (Up (Up a)));exact(j.d (ex':=mI e p) λ_ _ d=>Up (Up (Ur d))).e (p:=⟨e,4,N⟩) (λ_=>Ur rfl) _
def Sa{b}(a t j g z k l)(m:b.underlying t=S (.slice g))(n:(b.info? g).map (λc=>(c.zero,c.size,c.bytes))=S (S z,k,l))(d e f)(o:e<=f)(h c'):(Builtin.append_ #[t,t] j #[L d e f,L h 0 c']).run b a= .ok (L d e f) a:=by obtain⟨c,p,r,s,u⟩:=Xj n;have q:∀(i:Addr)(a:World),(loadCells i 0).run b a= .ok #[] a:=λi a=>rfl;cases d<;>cases h<;>simp[Builtin.append_,Wk m,sizeOf,typeInfo,p,Builtin.lenOf,o,Builtin.firstCells,storeCells,q]
def Sb{P}(b t m f z d i)(u:P.underlying t=S (.slice f))(v:(P.info? f).map (λn=>(n.zero,n.size,n.bytes))=S (S z,d,i))(A:z.cells.size=d)(e c h o)(p:RV b f d e c h o)(q a c' g)(C:g.length=a*d)(D:0<a->∃j,q=S j/\∀w k,g[w]?=S k->b.cell? (j.add w)=S k)(E:∀k∈g,k.oneCell'=T)(G:(c+a)*i<=140737488355328)(H:c+a<=9223372036854775807):
 ∃r x s,(Builtin.append_ #[t,t] m #[L e c h,L q a c']).run P b= .ok (L r (c+a) x) s/\RV s f d r (c+a) x (o++g)/\(∀l,ag r l->ag e l\/l=b.heap.size)/\ae (ag e) b s:=by
 by_cases y:0<a;obtain⟨j,rfl,K⟩:=D y;exact Ca b t m f z d i u v A e c h o p j a c' y g C K E G H;have M:a=0:=by omega
 subst M;have O:g=[]:=U1 (by omega);subst O;refine⟨e,h,b,Sa b t m f z d i u v e c h p.2.1 q c',by rw[VJ];exact p,λl Q=>Ur Q,ae.a _ _⟩
def Io{P}(a){l o b g p}(v:b.guard=N)(q r t)(w:b.op=Op.call {callee:=Callee.builtin Builtin.append,args:= #[q,r],argTypes:= #[t,t]})(e z size bytes)(x:P.underlying t=S (.slice e))(y:(P.info? e).map (λj=>(j.zero,j.size,j.bytes))=S (S z,size,bytes))(A:z.cells.size=size)(sa n c)(C:g.eval q=L sa n c)(vs)(D:RV a e size sa n c vs)(xa m c')(E:g.eval r=L xa m c')(news)(G:news.length=m*size)(H:0<m->∃s,xa=S s/\∀u h,news[u]?=S h->a.cell? (s.add u)=S h)(K:∀h∈news,h.oneCell'=T)(M:(n+m)*bytes<=140737488355328)(O:n+m<=9223372036854775807)(Q:∀d i f,RV f e size d (n+m) i (vs++news)->(∀k,ag d k->ag sa k\/k=a.heap.size)->ae (ag sa) a f->wpList P l p o (g.put b.dst (L d (n+m) i)) f):
 wpList P l p (b::o) g a:=by
 refine WR v λY R=>?_;obtain⟨d,i,f,U,V,W,X⟩:=Sb (P:=P) a t b.type e z size bytes x y A sa n c vs D xa m c' news G H K M O;unfold Oper.wp;simp[execOp,w,resolve,invoke,builtin,C,E,U,Result.andThen];exact R _ _ (Q d i f V W X)
def If(n a p e)(o:cV e n a p)(q:∀d∈a.cw,d.1≠a.bu)(r:a.cw.length<=1000):
 Cr 182 #[P (S ⟨n,0,N⟩)] e (.tuple #[mv Fr.dq,B F]) λA=>ae aa e A:=by
 have C:=@af _ o;have s:=@aC _ _ q r;clear o q r;go_enter func182,ntmps182;go_wp2_with fail;obtain⟨l,i⟩:=ah (e.alloc (.cells #[I J 0,I J 0,I J 0,B F] 76));have b:aq l e.heap.size #[I J 0,I J 0,I J 0,B F] 76:=by rw[i];exact aq.e _ _ _
 have t:ae aa e l:=by rw[i];exact(ae.a aa e).b _
 rw[<-i];obtain⟨g,m⟩:=ah e.heap.size;rw[<-m]at b|-;have j:=@cf _ _ _ b t m;clear i b t m;go_loopw [4] (λv wr=>∃c:Nat,c<=a.cw.length/\v= .int J c/\ae aa l wr) λv _=>a.cw.length-(intOf v).toNat;case atStart=>exact⟨0,by omega,rfl,ae.a _ _⟩
 case round=>
  obtain⟨c,U,rfl,h⟩:=hrel;have u:=@af _ h;have f:=C.a (j.2.1.c h) λ_ _ d=>d;have w:=f.cG.a 4;have D:=f.cG.a 3;simp[fJ]at D w;have V:=f.cG.b;by_cases E:c<a.cw.length
  .obtain⟨d,k⟩:∃d,a.cw[c]?=S d:=⟨_,Um E⟩
   obtain⟨W,X,x,Y,y⟩:=f.r c d k;rw[x]at w;have G:=y 0 _ rfl;have z:=s.1 d (Uo k);have Z:(c:Int)<a.cw.length:=by omega
   have ab:(c:Int)<1000:=by have:=s.2;omega
   obtain⟨H,ac⟩:=d;simp only[Vn]at G z;have ad:¬(H:Int)=a.bu:=by omega
   clear h f x y k z;go_wp2_with fail;go_quiet (fail);go_wp2;exact⟨⟨c+1,by omega,by go_num,u.drewN _⟩,by simp[intOf];omega⟩
  .have K:c=a.cw.length:=by omega
   subst K;have b:=j.1.c h λa=>a;have M:=b.a 0;have O:=b.a 1;have Q:=b.a 2;have R:=b.a 3;have ag:=b.d 0;have ai:=b.d 1;have aj:=b.d 2;have ak:=b.d 3;simp at M O Q R;clear b h f;go_wp2;refine UO (v:= .tuple #[mv Fr.dq,B F]) ?_ rfl ?_
   .rw[Xg rfl];unfold loadVar;go_simp;exact⟨rfl,rfl,rfl,rfl⟩
   refine⟨rfl,?_⟩;have k:=j.2.2;exact(j.2.1.c u).g (((((ae.a (ap g) wr).e (p:=⟨g,0,N⟩) (λ_=>rfl) _).e (p:=⟨g,1,N⟩) (λ_=>rfl) _).e (p:=⟨g,2,N⟩) (λ_=>rfl) _).e (p:=⟨g,3,N⟩) (λ_=>rfl) _) λal am a=>by simp only[ap]at a;omega
abbrev kq(a b c d:Int)(e:Value)(f:Bool)(g k h i:Int)(j:Bool)(l:Value):Value:=
 .agg #[I J a,I J b,I J c,I J d,e,B f,I J g,I J k,I J h,I J i,B j,l]
def vT(a):(Fr.bi a).length<=10:=by rw[lB];obtain b|b:=(show ee a=5\/ee a=10 by unfold ee;split<;>simp)<;>omega
def Bk.b{f b c w' d g e h i}(j:Bk f b c w' d g e h i):ae (λa=>b a\/a=d\/e=S ⟨a,0,N⟩) c w':=
 let ⟨_,_,_,_,_,_,_,_,_,_,_,_,_,_,_,k⟩:=j;k
def Tf(a b):(∃c∈b,pL a c=T)↔kO a b:=by refine exists_congr λc=>XJ λ_=>?_;simp only[pL,kK,Bool.or_eq_true,Bool.not_eq_true',Bool.and_eq_false_iff,Vh,V9];omega
def NN(b:List Ed):(∃a∈b,rg a=T)↔∃a∈b,qR a:=by refine exists_congr λa=>XJ λ_=>?_;simp[rg,qR]
def Sj(a):(∃(b c:Nat)(d e:Ed),c<b/\a[b]?=S d/\a[c]?=S e/\ro d e=T)↔l9 xY a:=by simp[l9,xY,ro]
def Si(a):(∃(b c:Nat)(d e:Ed),c<b/\a[b]?=S d/\a[c]?=S e/\mi d e=T)↔l9 mL a:=by simp[l9,mL,mi]
def NV{a b}(d:¬kO a b)(g:0<=a):vA a.toNat b:=λc e=>by have:¬kK a c:=λf=>d ⟨c,e,f⟩;unfold kK at this;omega
def Bl(c i a j f)(G:gh f i a)(H:a.length<=j):
 Calls prog 29 #[.int J c,L i a.length j] f λk w=>∃t,k= .returned (.int J t)/\gq c a t/\ae aa f w:=by
 have al:=O8;have m:=@aC _ _ G H;clear G H;by_cases l:ia c a
 .have g:=@af _ l;unfold ia at l;go_enter func29,ntmps29;obtain d|d|d:=l
  .go_wp2;go_ret;exact⟨1,rfl,gq.d g,(ae.a aa f).b _⟩
  .go_wp2;all_goals
    go_ret;exact⟨1,rfl,gq.d g,(ae.a aa f).b _⟩
  .have am:(30:Int)<(a.length:Int):=by omega
   clear d;go_wp2;all_goals
    go_ret;exact⟨1,rfl,gq.d g,(ae.a aa f).b _⟩
 .have g:=@af _ l;have K:1<=c:=by unfold ia at l;omega
  have M:c<=10:=by unfold ia at l;omega
  have ac:(a.length:Int)<=30:=by unfold ia at l;omega
  have h(_:=()):a.length<=30/\1<=c/\c<=10:=⟨by omega,K,M⟩
  clear l;go_enter func29,ntmps29;go_wp2_with fail;obtain⟨x,u⟩:=ah (f.alloc (.cells #[I J c] 3));have y:aq x f.heap.size #[I J c] 3:=by rw[u];exact aq.e _ _ _
  have O:ae aa f x:=by rw[u];exact(ae.a aa f).b _
  rw[<-u];obtain⟨ad,Q⟩:=ah f.heap.size;rw[<-Q]at y|-;have n:=@aC _ _ y O;clear u y Q O K M ac;have R:=@af _ (L0 ad c i a j x (m.1.a n.2) h.1 (by have:=n.1.a 0;simpa using this));refine Uq R ?_;rintro k ag ⟨e,rfl,b,U⟩;rw[Tf]at b;have o:=@aC _ _ b U;clear b U R;cases e
  .have p(_:=()):¬kO c a:=λd=>by have:=o.1.2 d;cases this
   have V:=@af _ (LZ i a j ag (m.1.a (n.2.c o.2)) h.1);go_wp2_with fail;refine Uq V ?_;rintro k ai ⟨e,rfl,b,z⟩;rw[NN]at b;have q:=@cf _ _ _ b ((n.2.c o.2).c z) (o.2.c z);clear b z V;cases e
   .have W:=@af _ (KA i a j ai (m.1.a q.2.1) h.1 m.2);go_wp2_with fail;refine Uq W ?_;rintro k aj ⟨e,rfl,b,A⟩;rw[Sj]at b;have r:=@cf _ _ _ b (q.2.1.c A) (q.2.2.c A);clear b A W;cases e
    .have C(_:=()):¬mr a:=λd=>by obtain d|d:=d;have:=q.1.2 d;cases this;have:=r.1.2 d;cases this
     have X:=@af _ (Kz i a j aj (m.1.a r.2.1) h.1 m.2);go_wp2_with fail;refine Uq X ?_;rintro k D ⟨e,rfl,b,E⟩;rw[Si]at b;have s:=@cf _ _ _ b (r.2.1.c E) (r.2.2.c E);clear b E X;cases e
     .have Y(_:=()):¬l9 mL a:=λd=>by have:=s.1.2 d;cases this
      have t:=(n.1.c s.2.2 λak=>ak).a 0;simp at t;have Z(_:=()):Calls prog 56 #[I J c,L i a.length j] D λk w=>∃e:Bool,k= .returned (B e)/\(e=T↔mW c.toNat a)/\ae aa D w:=by have:=Ok c.toNat j i a D (m.1.a s.2.1) h.1 (NV p (by have:=h;omega)) (by have:=h;omega) (by have:=h;omega);rwa [show ((c.toNat:Nat):Int)=c by have:=h;omega]at this
      go_wp2_with fail;refine Uq Z ?_;rintro k an ⟨e,rfl,b,ab⟩;have v:=@aC _ _ b (s.2.1.c ab);clear b ab Z t;cases e
      .go_wp2;go_ret;exact⟨5,rfl,gq.g g p C Y (λd=>by have:=v.1.2 d;cases this),v.2⟩
      .go_wp2;go_ret;exact⟨0,rfl,gq.e g p C Y (v.1.1 (by trivial)),v.2⟩
     .go_wp2;go_ret;exact⟨4,rfl,gq.f g p C (s.1.1 (by trivial)),s.2.1⟩
    .go_wp2;go_ret;exact⟨3,rfl,gq.c g p (Up (r.1.1 (by trivial))),r.2.1⟩
   .go_wp2;go_ret;exact⟨3,rfl,gq.c g p (Ur (q.1.1 (by trivial))),q.2.1⟩
  .go_wp2;go_ret;exact⟨2,rfl,gq.a g (o.1.1 (by trivial)),n.2.c o.2⟩
def Es(d e a f b)(g:gh b e a)(h:a.length<=f):
 Calls prog 13 #[.int J d,L e a.length f] b λi n=>∃c,i= .returned (.int J c)/\gq d a c/\ae aa b n:=by
 have j:=@af _ (Bl d e a f b g h);clear g h;go_enter func13,ntmps13;go_wp2_with fail;refine Uq j ?_;rintro i o ⟨c,rfl,k,l⟩;have m:=@aC _ _ k l;clear k l j;go_wp2;go_ret;exact⟨c,rfl,m.1,m.2⟩
end Go.Proofs.YtlfijfodklhplaaGreat
