import Derived.Test.YtlfijfodklhplaaGreatAl38
import Derived.Test.YtlfijfodklhplaaGreatAl39
set_option maxRecDepth 100000
set_option maxHeartbeats 4000000
set_option linter.all false
open Go.RowKit Go.Proofs.Tryz
open Go.Value renaming int->I,slice->L,pointer->P,bool->B
open Go.IntKind renaming i64->J
open Option renaming some->S,none->N
open Bool renaming true->T,false->F
namespace Go.Proofs.YtlfijfodklhplaaGreat
def BI(x a b y c d p g q h r s k t u v i)(U:h.oneCell'=T)(V:i.oneCell'=T){e j l}(G:(e=13/\j=92/\l= #[P (S ⟨b,0,N⟩),.agg #[P (S ⟨c,0,N⟩),P (S ⟨d,0,N⟩)]])\/(e=19/\j=98/\l= #[P (S ⟨b,0,N⟩),.agg #[P (S ⟨c,0,N⟩),P (S ⟨d,0,N⟩)],.int J g])\/(e=20/\j=99/\l= #[P (S ⟨b,0,N⟩),.agg #[P (S ⟨c,0,N⟩),P (S ⟨d,0,N⟩)]]))(z:∀A,ae aa a A->Cr j l A (B T) λw=>fe x w b y):
 Cr 46 #[P (S ⟨b,0,N⟩),.agg #[P (S ⟨c,0,N⟩),P (S ⟨d,0,N⟩)],kq e p g q h r s k t u v i] a (B T) λw=>fe x w b y:=by
 have C:=@af _ z;clear z;go_enter func46,ntmps46;go_upto_region 2 with fail;obtain⟨m,f⟩:=ah ((a.alloc (.cells #[P (S ⟨c,0,N⟩),P (S ⟨d,0,N⟩)] 103)).alloc (.cells #[I J e,I J p,I J g,I J q,h,B r,I J s,I J k,I J t,I J u,B v,i] 80));have n:aq m a.heap.size #[P (S ⟨c,0,N⟩),P (S ⟨d,0,N⟩)] 103:=by rw[f];exact(aq.e _ _ _).g _
 have o:aq m (a.heap.size+1) #[I J e,I J p,I J g,I J q,h,B r,I J s,I J k,I J t,I J u,B v,i] 80:=by rw[f];exact aq.h _ _ _ _ (by simp)
 have D:ae aa a m:=by rw[f];exact((ae.a aa a).b _).b _
 rw[<-f];have H:=@af _ D;have K:=n.a 0;have M:=n.a 1;have O:=o.a 0;have Q:=o.a 2;simp at K M O Q;have W:=n.b;have X:=o.b;clear f n o D;obtain⟨rfl,rfl,rfl⟩|⟨rfl,rfl,rfl⟩|⟨rfl,rfl,rfl⟩:=G;all_goals
  go_wp2_with fail;refine Uq (C () m H) ?_;rintro Y Z ⟨rfl,E⟩;have R:=@af _ E;clear E C;go_wp2;go_ret;exact⟨rfl,R⟩
def PJ(e g u c K M v C O D E r)(w:LS e g u c K M v (L D r.length E) C (ix D E r) O)(Q:hU v)(d)(R:bZ C v<=d)(U:(r.length:Int)<=d)(G:∀a∈r,iO a.cP a.D)(s:Nat)(a)(x:r[s]?=S a)(Z:(d:Int)<1000000000)(H:iM)(ah:H.b g)(aa:H.j e c)(ai:12<=H.a)(aj:H.a<=21):
 Cr 46 #[P (S ⟨c,0,N⟩),.agg #[P (S ⟨a.cP.nb,0,N⟩),P (S ⟨a.D.b,0,N⟩)],H.v] g (B T) λY=>fe e Y c (d+400):=by
 have t:∀ {ab:Ending} {Y:World},(ab= .returned (B T)/\fe e Y c d)->ab= .returned (B T)/\fe e Y c (d+400):=λb=>⟨b.1,b.2.a (by omega)⟩
 obtain⟨q,i,f,h,ay,az,aA,j,k,l,m,n,o,ak,al,ac⟩:=H;simp only at ai aj;have y:∀p,g.heap.size<=p->¬u p=22+4*s:=λp am ad=>by have:=w.d p am;omega
 have z:∀ {ae af:FuncId} {ag:Value->Array Value},qg ae af ag a.cP a.D->Tw e g c d a.cP.nb a.D.b (λp=>u p=22+4*s) ae af ag:=λan=>TI w Q R U G x an;have A:=G a (Uo x);obtain rfl|rfl|rfl|rfl|rfl|rfl|rfl|rfl|rfl|rfl:q=12\/q=13\/q=14\/q=15\/q=16\/q=17\/q=18\/q=19\/q=20\/q=21:=by omega
 exact(ww e g c d a.cP.nb a.D.b _ y i f h _ j k l m n o _ rfl rfl (.inl ⟨rfl,rfl,rfl⟩) (z (Ql A f))).mono λ_ _ b=>t b;exact BI e g c (d+400) a.cP.nb a.D.b i f h _ j k l m n o _ rfl rfl (.inl ⟨rfl,rfl,rfl⟩) (λV W=>(Qy e V u c K M v C O D E r (w.a W) Q d R U G s a x Z).mono λ_ _ b=>⟨b.1,b.2.a (by omega)⟩);exact(ww e g c d a.cP.nb a.D.b _ y i f h _ j k l m n o _ rfl rfl (.inr (.inl ⟨rfl,rfl,rfl⟩)) (z (GK A f (w.c.a s a x).oq))).mono λ_ _ b=>t b;exact(ww e g c d a.cP.nb a.D.b _ y i f h _ j k l m n o _ rfl rfl (.inr (.inr (.inl ⟨rfl,rfl,rfl⟩))) (z (Qi A f))).mono λ_ _ b=>t b;exact(ww e g c d a.cP.nb a.D.b _ y i f h _ j k l m n o _ rfl rfl (.inr (.inr (.inr (.inl ⟨rfl,rfl,rfl⟩)))) (z (Qf A f))).mono λ_ _ b=>t b;cases al with
 |nil=>exact(PL e g c d a.cP.nb a.D.b _ y i f h _ j k l m n o ak ac rfl (z (GL A f h 0 (by omega)))).mono λ_ _ b=>t b
 |cons p ao=>
  obtain⟨_,ad,_⟩|⟨aB,ap,X,aC,aq,aD⟩:=ah.a;cases ad;obtain X|⟨ar,au,X,av,aw⟩:=X;cases X;have ax:=ap;subst ax;subst X;exact(PM e g c d a.cP.nb a.D.b _ y i f h _ j k l m n o ar au (p::ao).length ac p (by simp) av (aw 0 (by simp)) rfl (z (GL A f h p (aq p (by simp))))).mono λ_ _ b=>t b
 exact(ww e g c d a.cP.nb a.D.b _ y i f h _ j k l m n o _ rfl rfl (.inr (.inr (.inr (.inr ⟨rfl,rfl,rfl⟩)))) (z (Qk A f))).mono λ_ _ b=>t b;exact BI e g c (d+400) a.cP.nb a.D.b i f h _ j k l m n o _ rfl rfl (.inr (.inl ⟨rfl,rfl,rfl⟩)) (λV W=>(OP e V u c K M v C O D E r (w.a W) Q d R U G s a x Z f).mono λ_ _ b=>⟨b.1,b.2.a (by omega)⟩);exact BI e g c (d+400) a.cP.nb a.D.b i f h _ j k l m n o _ rfl rfl (.inr (.inr ⟨rfl,rfl,rfl⟩)) (λV W=>(TD e V u c K M v C O D E r (w.a W) Q d R U G s a x Z).mono λ_ _ b=>⟨b.1,b.2.a (by omega)⟩);exact(PK e g u c K M v C O D E r w Q d R U G s a x i f h _ j k l m n o _ aa.b.1 aa.b.2 rfl rfl).mono λ_ _ b=>t b
def Te(l a g h)(n:fe l a g h)(d:iM)(x:d.b a)(o:d.j l g)(y:12<=d.a)(z:d.a<=21)(A:(h:Int)<1000000000):
 Cr 27 #[P (S ⟨g,0,N⟩),d.v] a (B T) λp=>fe l p g (h+400):=by
 have aT(_:=()):fe l a g h:=n;obtain⟨C,ao,c,⟨aU,aV,aW,ap,ar,aX,m,D,r⟩,E,G⟩:=n;by_cases H:c.length=0
 .have au:=m.b.a.a 1;simp at au;rw[H]at au;have aY:=m.h.1;obtain⟨K,M,O,Q,R,av,U,V,W,X,Y,Z,ab,ac,aw,ad⟩:=d;clear x o m D r A H E G;simp only at y z;go_enter func27,ntmps27;go_wp2;go_ret;exact⟨rfl,(aT.c ((ae.a aa a).b _)).a (by omega)⟩
 .obtain⟨i,ax,ay⟩:=yV d.e (c.length:Int) o.c.1 o.c.2 (by omega) (by omega);obtain⟨e,ag⟩:∃e,c[i]?=S e:=⟨_,Um (by omega)⟩
  have ai(_:=()):∀a,Cr 45 #[I J d.e,I J c.length] a (I J i) λp=>p=a:=λa=>(ay a).mono λ_ _ n=>⟨n.1,n.2.symm⟩;have s(_:=()):∀f,ae aa a f->Cr 46 #[P (S ⟨g,0,N⟩),.agg #[P (S ⟨e.cP.nb,0,N⟩),P (S ⟨e.D.b,0,N⟩)],d.v] f (B T) λp=>fe l p g (h+400):=λf t=>
   PJ l f aU g aV aW ap ar aX C ao c (m.a t) D h r G E i e ag A d (x.b t ⟨λ_ _ _ _ aj=>aj,λ_ _ _ _ aj=>aj⟩) o y z
  have u(_:=()):∀f,ae aa a f->∃j k,C=S ⟨j,k,N⟩/\f.cell? ⟨g,1,N⟩=S (L C c.length ao)/\f.cell? ⟨j,k+i*2,N⟩=S (P (S ⟨e.cP.nb,0,N⟩))/\f.cell? ⟨j,k+i*2+1,N⟩=S (P (S ⟨e.D.b,0,N⟩)):=λf t=>by have az:=m.a t;have aA:=az.b.a.a 1;simp at aA;obtain⟨a5,a6,aZ⟩:=az.c.b;obtain⟨_,aB,_⟩|⟨j,k,aB,aC⟩:=aZ;omega;have aD:=P4 c i e ag;exact⟨j,k,aB,aA,aC.a _ _ aD.1,by rw[UI];exact aC.a _ _ aD.2⟩
  have q(_:=()):(i:Int)<c.length/\bZ ar ap<=h/\0<c.length:=⟨ax,r,by omega⟩
  clear x o m D r A ay ag ax H E G;obtain⟨a7,aE⟩:=ah e.cP.nb;obtain⟨a8,aF⟩:=ah e.D.b;rw[<-aE,<-aF]at s u;clear aE aF;obtain⟨K,M,O,Q,R,av,U,V,W,X,Y,Z,ab,ac,aw,ad⟩:=d;simp only[iM.v]at y z ai s|-;generalize av.length=el at *;generalize aw.length=dl at *;go_enter func27,ntmps27;obtain⟨j,k,a0,v,ak,al⟩:=u () a (ae.a _ _);have aY:=UL a _ v;have a1:decide ((c.length:Int)=0)=F:=U7 (by have:=q;omega);have a2:((c.length:Int)==0)=F:=by rw[Uy];have:=q;omega
  go_wp2_with fail;obtain⟨am,w⟩:=ah (a.alloc (.cells #[I J K,I J M,I J O,I J Q,L R el U,B V,I J W,I J X,I J Y,I J Z,B ab,L ac dl ad] 80));have b:aq am a.heap.size #[I J K,I J M,I J O,I J Q,L R el U,B V,I J W,I J X,I J Y,I J Z,B ab,L ac dl ad] 80:=by rw[w];exact aq.e _ _ _
  have an:ae aa a am:=by rw[w];exact(ae.a aa a).b _
  rw[<-w];have a3:=@af _ an;clear v ak al a0 a1 a2;obtain⟨j,k,rfl,v,ak,al⟩:=u () am an;have aG:=b.a 0;have aH:=b.a 1;have aI:=b.a 2;have aJ:=b.a 3;have aK:=b.a 4;have aL:=b.a 5;have aM:=b.a 6;have aN:=b.a 7;have aO:=b.a 8;have aP:=b.a 9;have aQ:=b.a 10;have aR:=b.a 11;simp at aG aH aI aJ aK aL aM aN aO aP aQ aR;have a9:=q.1;have ba:=@af _ (q.2.1);clear w b an u q;generalize c.length=ln at *;go_still_tail 16,(by kernel_rfl)
  still_call (ai () _);repeat still_step
  refine wpStill_nil ?_;go_wp2_with fail;refine Uq (s () _ (a3.drew)) ?_;rintro bb bc ⟨rfl,aS⟩;have a4:=@af _ aS;clear aS s ai aG aH aI aJ aK aL aM aN aO aP aQ aR v ak al;go_wp2;go_ret;exact⟨rfl,a4⟩
def Td(e b c d)(i:fe e b c d)(a:iM)(k:a.b b)(f:a.a=11)(l:(d:Int)<1000000000):
 Cr 27 #[P (S ⟨c,0,N⟩),a.v] b (B T) λg=>fe e g c (d+400):=by
 obtain⟨K,M,O,⟨Q,R,U,V,W,X,m,n,o⟩,p,q⟩:=i;have j(_:=()):∀h,ae aa b h->Cr 43 #[P (S ⟨c,0,N⟩),a.v] h (B T) λg=>fe e g c (d+400):=λh r=>by have s:=(show rF b a.c a.i a.q from k.e).a r;obtain⟨Y,t,u,v,w,x,y,z,A,C,D,E,G,Z,ab,ac⟩:=a;simp only at f s;subst f;refine(OT e h Q c R U V W X K M O (m.a r) n d o q p l t u v _ z A C D E G _ w x y rfl s rfl).mono ?_;rintro ad g ⟨rfl,i⟩;exact⟨rfl,i.a (by omega)⟩
 obtain⟨Y,t,u,v,w,x,y,z,A,C,D,E,G,Z,ab,ac⟩:=a;simp only at f;subst f;clear k l m n o p q;simp only[iM.v]at j;go_enter func27,ntmps27;go_wp2_with fail;refine Uq (j () _ ((ae.a aa b).b _)) ?_;rintro ad ah ⟨rfl,H⟩;have ag:=@af _ H;clear H j;go_wp2;go_ret;exact⟨rfl,ag⟩
def Ib(c d b e)(f:fe c d b e)(a:iM)(g:a.b d)(i:a.j c b)(k:a.a<=21)(h:(e:Int)<1000000000):
 Cr 27 #[P (S ⟨b,0,N⟩),a.v] d (B T) λj=>fe c j b (e+400):=by
 by_cases l:a.a<=10;obtain⟨m,n,o,p,q,t⟩:=f;refine(S0 c d b _ _ e p a g i l h).mono ?_;rintro u j ⟨rfl,r⟩;exact⟨rfl,m,n,o,r.a (by omega),q,by omega⟩;by_cases s:a.a=11;exact Td c d b e f a g s h;exact Te c d b e f a g i (by omega) k h
def fe.b{b c d e}(a:fe b c d e):ae (ap d) b c:=let ⟨_,_,_,a,_⟩:=a;a.c
def fe.d{e a c d}(b:fe e a c d)(f:(d:Int)<1000000000):
 Cr 28 #[P (S ⟨c,2,N⟩)] a (B T) λg=>ae aa a g:=let ⟨_,_,_,b,_⟩:=b;b.d f
def KT(b d)(i:aq b d #[L N 0 0,L N 0 0,L N 0 0,L N 0 0,L N 0 0,L N 0 0,L N 0 0,L N 0 0] 73):fe b b d 0:=by have m:=i.b;refine⟨N,0,[],⟨λc=>if c<b.heap.size then (if c=d then 10 else 9)else 0,N,0,[],λ_=>Rw.d,λ_ _=>True,⟨ix.d _ _ _,T9,?_⟩,(λe f a=>by simp at a),by simp[bZ,Rw.d,mP]⟩,(λf a=>by cases a),by simp⟩;refine⟨ae.a _ _,i,λk _=>Ur ⟨rfl,rfl,rfl,rfl⟩,?_,λc j l=>?_,(λk _ e n a=>by simp[Rw.d]at a),λc j=>?_,⟨⟨RV.d _ _ _,λg h=>(b8 g h).elim,(λe f a=>by simp at a)⟩,⟨RV.d _ _ _,λg h=>(b8 g h).elim,(λe f a=>by simp at a)⟩,VU⟩⟩;grind;rw[UG (show c<b.heap.size from j),Us l];rw[Us (by omega)]
def QU(al h aF k)(am:xS k al h)(an:∀b∈h,b.o)(ao:(h.length:Int)<=1048576):
 Cr 10 #[L al h.length aF,.int J 21] k (B T) λG=>ae aa k G:=by
 have O:=@cf _ _ _ am ao an;clear am ao an;go_enter func10,ntmps10;go_wp2_with fail;obtain⟨Y,Q⟩:=ah (k.alloc (.cells #[L N 0 0,L N 0 0,L N 0 0,L N 0 0,L N 0 0,L N 0 0,L N 0 0,L N 0 0] 73));have R:aq Y k.heap.size #[L N 0 0,L N 0 0,L N 0 0,L N 0 0,L N 0 0,L N 0 0,L N 0 0,L N 0 0] 73:=by rw[Q];exact aq.e _ _ _
 have ar:ae aa k Y:=by rw[Q];exact(ae.a aa k).b _
 rw[<-Q];obtain⟨e,au⟩:=ah k.heap.size;rw[<-au]at R|-;refine(NM Y).mono ?_;rintro Z i ⟨ab,H,rfl,aG,av,aH,aw,d,ax,ac⟩;have aI:=R.b;have j(_:=()):qW i ab 0 (oR H)/\ab<i.heap.size/\ab≠e/\(∀b∈oR H,b.b i)/\H≠e/\ae aa k i/\k.heap.size<=e:=⟨d,av,by omega,NL aw ax,by omega,ar.c ac,by omega⟩
 have ay:=@af _ (KT i e (R.c ac λf=>f));clear Q R ar au aG av aH aw d ax ac aI;go_wp2_with fail;go_loopw [7,8] (λad C wr=>∃a:Nat,a<=12/\C= .int J a/\ad=B T/\fe i wr e (400*a)) λ_ C _=>12-(intOf C).toNat;case atStart=>exact⟨0,by omega,rfl,rfl,ay⟩
 case round=>
  obtain⟨a,K,rfl,rfl,g⟩:=hrel;have U:=@af _ g;have m:=@af _ g.b;clear ay g;by_cases D:a<12
  .as_aux_lemma=>
   obtain⟨b,c⟩:∃b,(oR H)[a]?=S b:=⟨_,Um (show a<(oR H).length from D)⟩
   have d:=j.1.a m j.2.1 λf=>j.2.2.1 f;have E:=(j.2.2.2.1 b (Uo c))
   have ag:(a:Int)<12:=by omega
   have aJ:=Un j.2.1 m.size;have n(_:=()):b.a<=21->Cr 27 #[P (S ⟨e,0,N⟩),b.v] wr (B T) λG=>fe i G e (400*a+400):=λl=>
    Ib i wr e (400*a) U b (E.b m ⟨λV W _ f az=>j.2.2.2.2.1 (((Fy b (Uo c)).1 V W f).symm.trans az),λV W _ f az=>(Fy b (Uo c)).2 V W f⟩) (NK i e b (Uo c)) l (by omega)
   have z:=jp d a b c 0 _ rfl;have o:=jp d a b c 1 _ rfl;have p:=jp d a b c 2 _ rfl;have q:=jp d a b c 3 _ rfl;have r:=jp d a b c 4 _ rfl;have s:=jp d a b c 5 _ rfl;have t:=jp d a b c 6 _ rfl;have u:=jp d a b c 7 _ rfl;have v:=jp d a b c 8 _ rfl;have w:=jp d a b c 9 _ rfl;have x:=jp d a b c 10 _ rfl;have y:=jp d a b c 11 _ rfl;simp only[Ve,Vn]at z o p q r s t u v w x y;clear d E c;obtain⟨M,aK,aL,aM,aN,aO,aP,aQ,aR,aS,aT,aU,aV,aW,aX,aY⟩:=b;simp only[iM.v]at n;simp only at z o p q r s t u v w x y;by_cases l:M<=21
   .go_wp2_with fail;refine Uq (n () l) ?_;rintro Z aZ ⟨rfl,g⟩;have X:=@af _ g;clear g n z o p q r s t u v w x y l;go_wp2;go_roundw;case rel=>exact⟨a+1,by omega,by go_num,rfl,X.a (by omega)⟩
    case measure=>simp[intOf];omega
   .clear n o p q r s t u v w x y;have ai:21<M:=by omega
    clear l;go_wp2;clear ai;go_roundw;case rel=>exact⟨a+1,by omega,by go_num,rfl,U.a (by omega)⟩
    case measure=>simp[intOf];omega
  .have aj:a=12:=by omega
   subst aj;clear K D m;go_wp2_with fail;have aA:((12:Nat):Int)=12:=rfl;rw[aA];clear aA;go_loopw [7,9] (λad C a0=>∃a:Nat,a<=h.length/\C= .int J a/\ad=B T/\fe i a0 e (400*(a+12))) λ_ C _=>h.length-(intOf C).toNat;case atStart=>exact⟨0,by omega,rfl,rfl,U.a (by omega)⟩
   case round=>
    obtain⟨a,K,rfl,rfl,g⟩:=hrel;have aB:=@af _ g;have m:=@af _ ((j.2.2.2.2.2.1.d λ_ _ f=>f.elim).c g.b);clear U g;by_cases D:a<h.length
    .as_aux_lemma=>
     obtain⟨b,c⟩:∃b,h[a]?=S b:=⟨_,Um D⟩
     obtain⟨V,W,rfl,ak,aC⟩:=O.1.c D;have d:=aC.a m ak (λf=>by simp only[ap]at f;have:=j.2.2.2.2.2.2;omega);have E:=(O.1.b b (Uo c))
     have ag:(a:Int)<h.length:=by omega
     have A(_:=()):(a:Int)<1048577/\a<h.length/\a<=h.length:=⟨by have:=O.2.1;omega,D,K⟩
     have a1:=@af _ (Nl E (O.2.2 b (Uo c)) j.2.2.2.2.2.1.size j.2.2.2.2.2.2);have aJ:=Un ak m.size;have n(_:=()):b.a<=21->Cr 27 #[P (S ⟨e,0,N⟩),b.v] wr (B T) λG=>fe i G e (400*(a+12)+400):=λl=>
      Ib i wr e (400*(a+12)) aB b (E.b m (E.c j.2.2.2.2.2.2)) a1 l (by have:=A;omega)
     have z:=jp d a b c 0 _ rfl;have o:=jp d a b c 1 _ rfl;have p:=jp d a b c 2 _ rfl;have q:=jp d a b c 3 _ rfl;have r:=jp d a b c 4 _ rfl;have s:=jp d a b c 5 _ rfl;have t:=jp d a b c 6 _ rfl;have u:=jp d a b c 7 _ rfl;have v:=jp d a b c 8 _ rfl;have w:=jp d a b c 9 _ rfl;have x:=jp d a b c 10 _ rfl;have y:=jp d a b c 11 _ rfl;simp only[Vn]at z o p q r s t u v w x y;clear d E c aC ak D K;obtain⟨M,aK,aL,aM,aN,aO,aP,aQ,aR,aS,aT,aU,aV,aW,aX,aY⟩:=b;simp only[iM.v]at n;simp only at z o p q r s t u v w x y;by_cases l:M<=21
     .go_wp2_with fail;refine Uq (n () l) ?_;rintro Z aZ ⟨rfl,g⟩;have X:=@af _ g;clear g n z o p q r s t u v w x y l;have aD:=@af _ (X.d (by have:=A;omega));go_wp2_with fail;refine Uq aD ?_;rintro Z a4 ⟨rfl,aE⟩;have a2:=@af _ aE;clear aE;have a3:=A.1;clear aD ag;go_wp2;go_roundw;case rel=>exact⟨a+1,by have:=A;omega,by go_num,rfl,(X.c a2).a (by omega)⟩
      case measure=>have:=A;simp[intOf];omega
     .clear n o p q r s t u v w x y;have ai:21<M:=by omega
      clear l;go_upto_region 11 with fail;clear ai ag z;have a3:=A.1;go_wp2;go_roundw;case rel=>exact⟨a+1,by have:=A;omega,by go_num,rfl,aB.a (by omega)⟩
      case measure=>have:=A;simp[intOf];omega
    .have aj:a=h.length:=by omega
     subst aj;go_wp2;go_ret;exact⟨rfl,(ae.a aa k).g m λa K f=>by simp only[ap]at f;have:=j.2.2.2.2.2.2;omega⟩
def Kv(c a d b)(e:xS b c a)(f:∀g∈a,g.o)(h:(a.length:Int)<=1048576):
 Cr 9 #[L c a.length d] b (B T) λi=>ae aa b i:=by
 go_enter func9,ntmps9;go_wp2_with fail;refine Uq ((@af _ (QU c a d b e f h)) ()) ?_;rintro j k ⟨rfl,l⟩;go_wp2;go_ret;simp_all
open Go.ChangeShapes Go.WideShapes Go.ChangeAt Go.RowKit Go.Deep
def Kw(d:Os)(n:d.Started)(o)(enc:TypeId×Value->o)(p:Stop.Interp):
 ReturnsInHanded {} checked d 9 .any ((Rows.OpenSpec.upto Rows.allSpec).pre6 enc prog f9 Rows.allUptoRow.domain F) (((Rows.OpenSpec.upto Rows.allSpec).at p).post enc prog f9 F T F F):=by
 refine returnsInHanded_of_cond_sized (C:=checked) (s:=Rows.OpenSpec.upto Rows.allSpec) (k:=Rows.uptoSmall) rfl NE n (by kernel_rfl) func9
  (OpenSpec.witness (enc:=enc) (C:=checked) (s:=Rows.OpenSpec.upto Rows.allSpec) (k:=Rows.uptoSmall) rfl F ⟨#[],#[L N 0 0],[]⟩ 8 (by kernel_rfl) (by kernel_rfl) (by kernel_rfl) (x:=([.nil],[],[])) (by kernel_rfl) rfl (by kernel_rfl)) ?_
 intro e V W X Y Z q f aa r t _;have b:=f;obtain⟨u,ab,v,w,rfl,_,_⟩:=f;obtain⟨y,g,rfl,rfl,h⟩:=trodAll_one v;obtain⟨rfl,rfl⟩:=trodVars_none w;have z:=h;obtain⟨ac,A⟩:=h;have D:∀x∈g.weights prog 22,x<=reachBytes:=λx c=>by have ad:=List.all_eq_true.1 t x (W6 (j:=0) rfl rfl x c);grind
 have i:Rows.uptoBulkAll [g]<=1048576:=WH r;simp only[VJ]at b;have E:∀x∈u,x.block<e.heap.size:=λx c=>by simpa using b.lt x c
 obtain⟨G,ae,H,rfl⟩:=okWide_slice underlying22 (q 0 22 y rfl rfl);obtain⟨l,rfl,K,M,O⟩:=Qm A D;have Q:(l.length:Int)<=1048576:=by obtain⟨_,a⟩|⟨R,af,a,ag⟩:=O;omega;rw[a]at i;simp only[Rows.uptoBulkAll,Rows.uptoBulk]at i;have:=Ll R;omega
 refine(Kv G l H e K M Q).mono λah ai ⟨U,m⟩=>?_;subst U;exact⟨_,rfl,⟨_,_,_,[],_,[],b,trodAll_mk1 (shut_bool underlying4 T),trodAll_mk1 (Below.trod ND (by kernel_rfl) (WH (by kernel_rfl)) z m.o E),rfl,m.o.frame _,λa=>by cases a⟩⟩
theorem all_upto_holds:Rows.AllUptoSaid:=
 OpenClaim.holds_of_cond 9 f9 rfl rfl rfl rfl rfl rfl rfl ⟨rfl,rfl,rfl,rfl,rfl⟩ rfl rfl rfl rfl rfl (by kernel_rfl) func9 (by kernel_rfl)
  (WH (by kernel_rfl)) (by unfold Func.isWrapper;first|(rw[UG (by decide+kernel)];kernel_rfl)|(rw[Us (by decide+kernel)];exact⟨rfl,rfl⟩))
  (λa b c d _ e=>Kw a b c d e)
end Go.Proofs.YtlfijfodklhplaaGreat
