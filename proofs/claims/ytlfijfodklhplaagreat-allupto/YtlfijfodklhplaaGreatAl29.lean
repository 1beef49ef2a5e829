import Derived.Test.YtlfijfodklhplaaGreatAl13
import Derived.Test.YtlfijfodklhplaaGreatAl26
import Derived.Test.YtlfijfodklhplaaGreatAl28
set_option maxRecDepth 100000
set_option maxHeartbeats 8000000
set_option linter.all false
open Go.RowKit Go.Proofs.Tryz
open Go.Value renaming int->I,slice->L,pointer->P,bool->B
open Go.IntKind renaming i64->J
open Option renaming some->S,none->N
open Bool renaming true->T,false->F
namespace Go.Proofs.YtlfijfodklhplaaGreat
def Ro(b e c f a)(g:ia b c):
 Cr 74 #[.int J b,L e c.length f] a (.int J 1) λh=>ae aa a h:=by
 go_enter func74,ntmps74;obtain d|d|d:=g
 .go_wp2;go_ret;exact⟨rfl,ae.a aa a⟩
 .go_wp2;all_goals
   go_ret;exact⟨rfl,ae.a aa a⟩
 .go_wp2;all_goals
   go_ret;exact⟨rfl,ae.a aa a⟩
def rh(a:Nat)(b:Nat->Bool):Array Value:=((List.range a).map λc=>B (b c)).toArray
def BB{a b k}(c:k<a):(rh a b)[k]?=S (B (b k)):=by unfold rh;simp[c]
def BC{b c k}:(rh b c).setIfInBounds k (B T)=rh b (fC c k):=by unfold rh;apply Array.ext;simp;intro d e f;simp[fC,List.getElem_set];by_cases a:k=d;subst a;simp;simp[a,WO a]
def O7(a:Nat)(b)(c:1<=a)(d:a<=10):(Instr.makeSlice 208 (.int J a) (.int J a)).run prog b= .ok (L (S ⟨b.heap.size,0,N⟩) a a) (b.alloc (.cells (rh a λ_=>F) 4)):=by
 obtain rfl|rfl|rfl|rfl|rfl|rfl|rfl|rfl|rfl|rfl:a=1\/a=2\/a=3\/a=4\/a=5\/a=6\/a=7\/a=8\/a=9\/a=10:=by omega
 all_goals
  kernel_rfl
structure sO(d e:World)(f g:Nat)(h:Nat->Bool):Prop where
 a:aq e f (rh g h) 4
 b:ae aa d e
 c:d.heap.size<=f
def sO.d{f e a g h}(b:sO f e a g h)(c d):sO f ((e.setCell ⟨a,c,N⟩ (B T)).setCell ⟨a,d,N⟩ (B T)) a g (fC (fC h c) d):=by refine⟨?_,b.b.g (((ae.a (ap a) e).e (p:=⟨a,c,N⟩) (λ_=>rfl) _).e (p:=⟨a,d,N⟩) (λ_=>rfl) _) (λj k i=>by simp only[ap]at i;have:=b.c;omega),b.c⟩;have:=(b.a.f c (B T)).f d (B T);rwa [BC,BC]at this
def QC{a:List Ed}{b c}(e:a[b]?=S c)(d):kL d (a.take (b+1))=lO (kL d (a.take b)) c:=by unfold kL;rw[Vz,e];simp
def NW{a:Nat}{b}(d:¬kO (a:Int) b):vA a b:=λc e=>by have:¬kK (a:Int) c:=λf=>d ⟨c,e,f⟩;unfold kK at this;omega
def Rn(q a4 b bk r)(a5:gh r a4 b)(au:¬ia q b):
 Calls prog 74 #[.int J q,L a4 b.length bk] r λh bl=>∃a6,h= .returned (.int J a6)/\gq q b a6/\ae aa r bl:=by
 have Q:=@af _ au;have am:1<=q:=by unfold ia at au;omega
 have Z:q<=10:=by unfold ia at au;omega
 have av:(b.length:Int)<=30:=by unfold ia at au;omega
 have ai(_:=()):b.length<=30/\1<=q/\q<=10:=⟨by omega,am,Z⟩
 have aK:=@af _ a5;clear au a5;go_enter func74,ntmps74;go_wp2_with fail;clear am Z av;go_loopw [5] (λf wr=>∃a:Nat,a<=b.length/\f= .int J a/\ae aa r wr/\∀c∈b.take a,¬kK q c) λf _=>b.length-(intOf f).toNat;case atStart=>exact⟨0,by omega,rfl,ae.a _ _,λc i=>by simp at i⟩
 case round=>
  obtain⟨a,W,rfl,E,s⟩:=hrel;have j:=@aC _ _ E s;clear E s;by_cases n:a<b.length
  .as_aux_lemma=>
   obtain⟨c,i⟩:∃c,b[a]?=S c:=⟨_,Um n⟩
   obtain⟨aw,aS,rfl,y,O⟩:=aK.b n;obtain⟨ab,ac,U⟩:=mN (O.a j.1 y λc=>c) a c i;have ax:=Un y j.1.size;have aL:(a:Int)<b.length:=by omega
   have aT:(a:Int)<1000:=by have:=ai;omega
   have R:=@af _ i;obtain⟨t,u,G⟩:=c;simp only at ab ac U;clear i O y;by_cases v:kK q ⟨t,u,G⟩
   .have w(_:=()):kO q b:=⟨_,Uo R,v⟩
    have ay:=@af _ (j.1);unfold kK at v;simp only at v;by_cases an:t<0
    .go_wp2;go_ret;exact⟨2,rfl,gq.a Q w,ay.b _⟩
    by_cases ao:q<=t
    .go_wp2;go_ret;exact⟨2,rfl,gq.a Q w,ay.b _⟩
    by_cases a7:u<0
    .go_wp2;go_ret;exact⟨2,rfl,gq.a Q w,ay.b _⟩
    by_cases a8:q<=u
    .go_wp2;go_ret;exact⟨2,rfl,gq.a Q w,ay.b _⟩
    have aU:t=u:=by omega
    subst aU;clear v;go_wp2;go_ret;exact⟨2,rfl,gq.a Q w,ay.b _⟩
   .have w:=@af _ v;have an:0<=t:=by unfold kK at v;simp only at v;omega
    have ao:t<q:=by unfold kK at v;simp only at v;omega
    have a7:0<=u:=by unfold kK at v;simp only at v;omega
    have a8:u<q:=by unfold kK at v;simp only at v;omega
    have aU:¬t=u:=by unfold kK at v;simp only at v;omega
    clear v;go_wp2;rename_i az;rw[V9]at az;omega;rename_i az;clear an ao a7 a8 aU az;go_roundw;case rel=>
     refine⟨a+1,by omega,by go_num,j.1.b _,λaj z=>?_⟩;obtain z|rfl:=(yK R).1 z;exact j.2 aj z;exact w
    case measure=>simp[intOf];omega
  .have X:a=b.length:=by omega
   subst X;have R(_:=()):¬kO q b:=λ⟨c,i,bm⟩=>j.2 c (by rw[Vu];exact i) bm;have a9:=@af _ (j.1);clear j n W;go_wp2_with fail;go_loopw [7] (λf A=>∃a:Nat,a<=b.length/\f= .int J a/\ae aa r A/\(∀c∈b.take a,¬qR c)/\∀(e d:Nat)(c g:Ed),e<a->d<e->b[e]?=S c->b[d]?=S g->¬xY c g) λf _=>b.length-(intOf f).toNat;case atStart=>exact⟨0,by omega,rfl,a9,λc i=>by simp at i,λe d c g C=>by omega⟩
   case round=>
    obtain⟨a,W,rfl,E,s,ba⟩:=hrel;have j:=@cf _ _ _ E s ba;clear E s ba a9;by_cases n:a<b.length
    .as_aux_lemma=>
     obtain⟨c,i⟩:∃c,b[a]?=S c:=⟨_,Um n⟩
     obtain⟨aw,aS,rfl,y,O⟩:=aK.b n;obtain⟨ab,ac,U⟩:=mN (O.a j.1 y λc=>c) a c i;have ax:=Un y j.1.size;have aL:(a:Int)<b.length:=by omega
     have aT:(a:Int)<1000:=by have:=ai;omega
     have o:=@cf _ _ _ i O y;obtain⟨t,u,G⟩:=c;simp only at ab ac U;clear i O y ab ac;by_cases an:G<1
     .have w(_:=()):mr b:=Ur ⟨_,Uo o.1,Ur an⟩;go_wp2;go_ret;exact⟨3,rfl,gq.c Q R w,j.1⟩
     by_cases ao:1000<G
     .have w(_:=()):mr b:=Ur ⟨_,Uo o.1,Up ao⟩;go_wp2;go_ret;exact⟨3,rfl,gq.c Q R w,j.1⟩
     have w(_:=()):¬qR ⟨t,u,G⟩:=λC=>C.elim an ao;go_wp2_with fail;clear an ao;go_loopw [8] (λf A=>∃d:Nat,d<=a/\f= .int J d/\ae aa r A/\∀(e:Nat)(g:Ed),e<d->b[e]?=S g->¬G=g.c) λf _=>a-(intOf f).toNat;case atStart=>exact⟨0,by omega,rfl,j.1,λe g C=>by omega⟩
     case round=>
      obtain⟨d,bn,rfl,E,s⟩:=hrel;have k:=@aC _ _ E s;clear E s U ax;by_cases aA:d<a;obtain⟨g,D⟩:∃g,b[d]?=S g:=⟨_,Um (XK aA n)⟩
      obtain⟨_,_,U⟩:=mN (o.2.1.a k.1 o.2.2 λc=>c) a _ o.1;obtain⟨_,_,aV⟩:=mN (o.2.1.a k.1 o.2.2 λc=>c) d g D;have ax:=Un o.2.2 k.1.size;have bo:(d:Int)<a:=by omega
      have ak:=@af _ D;obtain⟨aM,aN,aB⟩:=g;simp only at U aV;clear D;by_cases bb:aB=G
      .subst bb;have bp(_:=()):mr b:=Up ⟨a,d,_,_,aA,o.1,ak,rfl⟩;go_wp2_with fail;go_quiet (fail);go_wp2;go_ret;exact⟨3,rfl,gq.c Q R bp,k.1.drewN _⟩
      .go_wp2_with fail;go_quiet (fail);go_wp2;refine⟨⟨d+1,by omega,by go_num,k.1.drewN _,λe g aD D=>?_⟩,by simp[intOf];omega⟩;by_cases aW:e<d;exact k.2 e g aW D;have al:e=d:=by omega
       subst al;rw[ak]at D;cases D;exact λC=>bb C.symm
      .have aX:d=a:=by omega
       subst aX;go_wp2;go_roundw;case rel=>
        refine⟨d+1,by omega,by go_num,k.1,λaj z=>?_,λe aE aj aF aD aG z aH=>?_⟩;obtain z|rfl:=(yK o.1).1 z;exact j.2.1 aj z;exact w;by_cases aY:e<d;exact j.2.2 e aE aj aF aY aG z aH;have al:e=d:=by omega
        subst al;rw[o.1]at z;cases z;exact k.2 aE aF aG aH
       case measure=>simp[intOf];omega
    .have X:a=b.length:=by omega
     subst X;have aZ(_:=()):¬mr b:=λC=>by obtain⟨c,i,az⟩|⟨a,d,c,g,am,Z,av,a0⟩:=C;exact j.2.1 c (by rw[Vu];exact i) az;exact j.2.2 a d c g (Ul.1 Z).1 am Z av a0
     have bc:=@af _ (j.1);clear j n W;go_wp2_with fail;go_loopw [9] (λf A=>∃a:Nat,a<=b.length/\f= .int J a/\ae aa r A/\∀(e d:Nat)(c g:Ed),e<a->d<e->b[e]?=S c->b[d]?=S g->mi c g=F) λf _=>b.length-(intOf f).toNat;case atStart=>exact⟨0,by omega,rfl,bc,λe d c g C=>by omega⟩
     case round=>
      obtain⟨a,W,rfl,E,s⟩:=hrel;have j:=@aC _ _ E s;clear E s bc;by_cases n:a<b.length
      .as_aux_lemma=>
       obtain⟨c,i⟩:∃c,b[a]?=S c:=⟨_,Um n⟩
       obtain⟨aw,aS,rfl,y,O⟩:=aK.b n;have aL:(a:Int)<b.length:=by omega
       have aT:(a:Int)<1000:=by have:=ai;omega
       have o:=@cf _ _ _ i O y;obtain⟨t,u,G⟩:=c;clear i O y;go_wp2_with fail;go_loopw [10] (λf A=>∃d:Nat,d<=a/\f= .int J d/\ae aa r A/\∀(e:Nat)(g:Ed),e<d->b[e]?=S g->mi ⟨t,u,G⟩ g=F) λf _=>a-(intOf f).toNat;case atStart=>exact⟨0,by omega,rfl,j.1,λe g C=>by omega⟩
       case round=>
        obtain⟨d,bn,rfl,E,s⟩:=hrel;have k:=@aC _ _ E s;clear E s;by_cases aA:d<a
        .as_aux_lemma=>
         obtain⟨g,D⟩:∃g,b[d]?=S g:=⟨_,Um (XK aA n)⟩
         obtain⟨ab,ac,U⟩:=mN (o.2.1.a k.1 o.2.2 λc=>c) a _ o.1;obtain⟨aV,bq,br⟩:=mN (o.2.1.a k.1 o.2.2 λc=>c) d g D;have ax:=Un o.2.2 k.1.size;have bo:(d:Int)<a:=by omega
         have ak:=@af _ D;obtain⟨aM,aN,aB⟩:=g;simp only at ab ac U aV bq br;clear D;go_upto_region 27 with fail;go_cut [145] λf A=>f=B (mi ⟨t,u,G⟩ ⟨aM,aN,aB⟩)/\A=(wr.alloc (.cells #[I J t,I J u,I J G] 30)).alloc (.cells #[I J aM,I J aN,I J aB] 30);case first=>
          go_wp2;all_goals
           go_meet;case rel=>exact⟨by simp_all [mi],by first|rfl|simp_all⟩
         case rest=>
          obtain⟨rfl,rfl⟩:=hcut;generalize bd:mi ⟨t,u,G⟩ ⟨aM,aN,aB⟩=pe;have V:=@af _ bd;clear bd;cases pe
          .go_wp2;go_roundw;case rel=>
            refine⟨d+1,by omega,by go_num,(k.1.b _).b _,λe g aD D=>?_⟩;by_cases aW:e<d;exact k.2 e g aW D;have al:e=d:=by omega
            subst al;rw[ak]at D;cases D;exact V
           case measure=>simp[intOf];omega
          .go_wp2;go_ret;exact⟨4,rfl,gq.f Q R aZ ⟨a,d,_,_,aA,o.1,ak,by simpa [mi,mL]using V⟩,(k.1.b _).b _⟩
        .have aX:d=a:=by omega
         subst aX;go_wp2;go_roundw;case rel=>
          refine⟨d+1,by omega,by go_num,k.1,λe aE aj aF aD aG z aH=>?_⟩;by_cases aY:e<d;exact j.2 e aE aj aF aY aG z aH;have al:e=d:=by omega
          subst al;rw[o.1]at z;cases z;exact k.2 aE aF aG aH
         case measure=>simp[intOf];omega
      .have X:a=b.length:=by omega
       subst X;have w(_:=()):¬l9 mL b:=λ⟨a,d,c,g,am,Z,av,a0⟩=>by have:=j.2 a d c g (Ul.1 Z).1 am Z av;simp[mi]at this;unfold mL at a0;omega
       have a1:=@af _ (j.1);clear j n W;obtain⟨m,rfl⟩:∃m:Nat,q=(m:Int):=⟨q.toNat,by have:=ai;omega⟩
       have ad(_:=()):1<=m/\m<=10/\vA m b:=⟨by have:=ai;omega,by have:=ai;omega,NW R⟩
       have bs:=λr=>O7 m r ad.1 ad.2.1;have bC:(0:Int)<(m:Int):=by have:=ad;omega
       have bD:(m:Int)<=10:=by have:=ad;omega
       go_upto_region 30 with fail;obtain⟨aO,aP⟩:=ah (wr.alloc (.cells (rh m λ_=>F) 4));have aI:aq aO wr.heap.size (rh m λ_=>F) 4:=by rw[aP];exact aq.e _ _ _
       have be:ae aa r aO:=by rw[aP];exact a1.b _
       rw[<-aP];obtain⟨H,aQ⟩:∃H,H=wr.heap.size:=⟨_,rfl⟩
       rw[<-aQ]at aI|-;have aR:r.heap.size<=H:=by rw[aQ];exact a1.size
       have bf:=aI.a 0;rw[BB (by have:=ad;omega)]at bf;have bt:=aI.d 0;have bg(_:=()):sO r (aO.setCell ⟨H,0,N⟩ (B T)) H m mq:=by refine⟨?_,be.g ((ae.a (ap H) aO).e (p:=⟨H,0,N⟩) (λ_=>rfl) _) (λa W c=>by simp only[ap]at c;omega),aR⟩;have:=aI.f 0 (B T);rwa [BC]at this
       clear aP aI be aQ aR bs a1;go_wp2_with fail;clear bf bt;go_loopw [14] (λf A=>∃h:Nat,h<=m/\f= .int J h/\sO r A H m (jK b mq h)) λf _=>m-(intOf f).toNat;case atStart=>exact⟨0,by omega,rfl,bg⟩
       case round=>
        obtain⟨h,bu,rfl,l⟩:=hrel;have Y(_:=()):sO r wr H m (jK b mq h):=l;clear l bg;by_cases bv:h<m
        .as_aux_lemma=>
         have bE:(h:Int)<m:=by omega
         go_wp2_with fail;go_loopw [15] (λf A=>∃a:Nat,a<=b.length/\f= .int J a/\sO r A H m (kL (jK b mq h) (b.take a))) λf _=>b.length-(intOf f).toNat;case atStart=>exact⟨0,by omega,rfl,Y⟩
         case round=>
          obtain⟨a,W,rfl,l⟩:=hrel;clear Y;by_cases n:a<b.length
          .as_aux_lemma=>
           obtain⟨c,i⟩:∃c,b[a]?=S c:=⟨_,Um n⟩
           obtain⟨aw,aS,rfl,y,O⟩:=aK.b n;obtain⟨ab,ac,U⟩:=mN (O.a l.b y λc=>c) a c i;have ax:=Un y l.b.size;have aR:=l.a.b;have bw:¬aw=H:=by have:=l.c;omega
           have aQ:¬H=aw:=λC=>bw C.symm;have aL:(a:Int)<b.length:=by omega
           have aT:(a:Int)<1000:=by have:=ai;omega
           have bh:=ad.2.2 c (Uo i);have bi:c.a≠c.b:=λC=>R () ⟨c,Uo i,by unfold kK;omega⟩;have ak:=@af _ i;obtain⟨t,u,G⟩:=c;simp only at ab ac U bh bi;obtain⟨K,rfl⟩:∃K:Nat,t=(K:Int):=⟨t.toNat,by omega⟩
           obtain⟨M,rfl⟩:∃M:Nat,u=(M:Int):=⟨u.toNat,by omega⟩
           have bF:(K:Int)<m:=by omega
           have bG:(M:Int)<m:=by omega
           have bH:¬K=M:=by omega
           have bI:¬M=K:=by omega
           have V(_:=()):kL (jK b mq h) (b.take (a+1))=lO (kL (jK b mq h) (b.take a)) ⟨(K:Int),(M:Int),G⟩:=QC ak _;generalize kL (jK b mq h) (b.take a)=P0 at l V;have ag:=l.a.a K;have a2:=l.a.a M;rw[BB (by omega)]at ag a2;have bJ:=l.a.d K;have bK:=l.a.d M;have Y:=@af _ l;clear l i O y bh bi;cases x:P0 K;cases ar:P0 M
           .rw[x]at ag;rw[ar]at a2;have aJ(_:=()):kL (jK b mq h) (b.take (a+1))=P0:=by rw[V];unfold lO;simp[x,ar]
            clear x ar V;go_wp2;go_roundw;case rel=>exact⟨a+1,by omega,by go_num,by rw[aJ];exact Y⟩
            case measure=>simp[intOf];omega
           .rw[x]at ag;rw[ar]at a2;have aJ(_:=()):kL (jK b mq h) (b.take (a+1))=fC (fC P0 K) M:=by rw[V];unfold lO;simp[x,ar]
            clear x ar V;go_wp2;go_roundw;case rel=>exact⟨a+1,by omega,by go_num,by rw[aJ];exact Y.d K M⟩
            case measure=>simp[intOf];omega
           .rw[x]at ag;have aJ(_:=()):kL (jK b mq h) (b.take (a+1))=fC (fC P0 K) M:=by rw[V];unfold lO;simp[x]
            clear x V;go_wp2;go_roundw;case rel=>exact⟨a+1,by omega,by go_num,by rw[aJ];exact Y.d K M⟩
            case measure=>simp[intOf];omega
          .have X:a=b.length:=by omega
           subst X;rw[Vu]at l;have bx:=@af _ l;clear l W n;go_wp2;go_roundw;case rel=>exact⟨h+1,by omega,by go_num,bx⟩
           case measure=>simp[intOf];omega
        .have bz:h=m:=by omega
         subst bz;clear bu bv;have a3(_:=()):(mW h b↔∀e,e<h->jK b mq h e=T):=RW (by have:=ad;omega) (λc i=>by have:=ad.2.2 c i;omega);have bj(_:=()):((h:Int)).toNat=h:=by simp
         generalize jK b mq h=RN at Y a3;go_wp2_with fail;go_loopw [16] (λf A=>∃a:Nat,a<=h/\f= .int J a/\sO r A H h RN/\∀e,e<a->RN e=T) λf _=>h-(intOf f).toNat;case atStart=>exact⟨0,by omega,rfl,Y,λe aD=>by omega⟩
         case round=>
          obtain⟨a,W,rfl,l,s⟩:=hrel;have k:=@aC _ _ l s;clear Y s;by_cases n:a<h;have aL:(a:Int)<h:=by omega
          have aR:=l.a.b;have ag:=l.a.a a;rw[BB n]at ag;clear l;cases x:RN a
          .rw[x]at ag;have bA(_:=()):¬mW (h:Int).toNat b:=λC=>by rw[bj]at C;have:=a3.1 C a n;rw[x]at this;cases this
           clear x;go_wp2;go_ret;exact⟨5,rfl,gq.g Q R aZ w bA,k.1.b⟩
          .rw[x]at ag;have bB:=@af _ x;clear x;go_wp2;go_roundw;case rel=>
            refine⟨a+1,by omega,by go_num,k.1,λe aD=>?_⟩;by_cases c:e=a;rw[c];exact bB;exact k.2 e (by omega)
           case measure=>simp[intOf];omega
          .have X:a=h:=by omega
           subst X;clear l;go_wp2;go_ret;exact⟨0,rfl,gq.e Q R aZ w (by rw[bj];exact a3.2 k.2),k.1.b⟩
def R9{P}(d t g e)(h:TypeInfo)(i:P.underlying t=S (.slice e))(j:P.info? e=S h)(a b c)(k:b<=c)(f c'):
 (Builtin.append_ #[t,t] g #[L a b c,L f 0 c']).run P d= .ok (L a b c) d:=by
 cases a<;>cases f<;>simp[Builtin.append_,Wk i,sizeOf,typeInfo,j,Builtin.lenOf,k,Builtin.firstCells,loadCells,loadCellsFrom,storeCells]
def Hk{P}(b t n e z f o)(u:P.underlying t=S (.slice e))(v:(P.info? e).map (λh=>(h.zero,h.size,h.bytes))=S (S z,f,o))(A:z.cells.size=f)(d c g p)(q:RV b e f d c g p)(r a c' i)(w:i.length=a*f)(C:0<a->∃j,r=S j/\∀x k,i[x]?=S k->b.cell? (j.add x)=S k)(D:∀k∈i,k.oneCell'=T)(E:(c+a)*o<=140737488355328)(G:c+a<=9223372036854775807):
 ∃l s m,(Builtin.append_ #[t,t] n #[L d c g,L r a c']).run P b= .ok (L l (c+a) s) m/\RV m e f l (c+a) s (p++i)/\((l=d/\s=g)\/(l=S ⟨b.heap.size,0,N⟩/\ae aa b m))/\ae (ag d) b m:=by
 by_cases y:0<a;obtain⟨j,rfl,H⟩:=C y;exact Cb (P:=P) b t n e z f o u v A d c g p q j a c' y i w H D E G;have K:a=0:=by omega
 subst K;have M:=U1 (by simpa using w);subst M;obtain⟨h,O,Q,R,U⟩:=Xj v;exact⟨d,g,b,R9 (P:=P) b t n e h u O d c g q.2.1 r c',by simpa using q,Ur ⟨rfl,rfl⟩,ae.a _ _⟩
def zp{P}(a){k l f h o}(u:f.guard=N)(p q t)(v:f.op=Op.call {callee:=Callee.builtin Builtin.append,args:= #[p,q],argTypes:= #[t,t]})(e z size bytes)(w:P.underlying t=S (.slice e))(x:(P.info? e).map (λj=>(j.zero,j.size,j.bytes))=S (S z,size,bytes))(y:z.cells.size=size)(sa n c)(A:h.eval p=L sa n c)(vs)(C:RV a e size sa n c vs)(xa m c')(D:h.eval q=L xa m c')(news)(E:news.length=m*size)(G:0<m->∃r,xa=S r/\∀s i,news[s]?=S i->a.cell? (r.add s)=S i)(H:∀i∈news,i.oneCell'=T)(K:(n+m)*bytes<=140737488355328)(M:n+m<=9223372036854775807)(O:∀b g d,RV d e size b (n+m) g (vs++news)->((b=sa/\g=c)\/(b=S ⟨a.heap.size,0,N⟩/\ae aa a d))->ae (ag sa) a d->wpList P k o l (h.put f.dst (L b (n+m) g)) d):
 wpList P k o (f::l) h a:=by
 refine WR u λX Q=>?_;obtain⟨b,g,d,R,U,V,W⟩:=Hk (P:=P) a t f.type e z size bytes w x y sa n c vs C xa m c' news E G H K M;unfold Oper.wp;simp[execOp,v,resolve,invoke,builtin,A,D,R,Result.andThen];exact Q _ _ (O b g d U V W)
def S7{P k a d b l s u}(v:a.guard=N)(o p t)(w:a.op=Op.call {callee:=Callee.builtin Builtin.append,args:= #[o,p],argTypes:= #[t,t]})(e z size bytes)(x:P.underlying t=S (.slice e))(y:(P.info? e).map (λj=>(j.zero,j.size,j.bytes))=S (S z,size,bytes))(A:z.cells.size=size)(sa n c)(C:d.eval o=L sa n c)(vs)(D:RV b e size sa n c vs)(xa m c')(E:d.eval p=L xa m c')(news)(G:news.length=m*size)(H:0<m->∃q,xa=S q/\∀r i,news[r]?=S i->b.cell? (q.add r)=S i)(K:∀i∈news,i.oneCell'=T)(M:(n+m)*bytes<=140737488355328)(O:n+m<=9223372036854775807)(Q:∀f h g,RV g e size f (n+m) h (vs++news)->((f=sa/\h=c)\/(f=S ⟨b.heap.size,0,N⟩/\ae aa b g))->ae (ag sa) b g->l (d.put a.dst (L f (n+m) h)) g):
 if Region.wanted a (yielded k d.tmps)=T then Oper.wp P a d b l s else u:=by
 have R:Region.wanted a (yielded k d.tmps)=T:=by simp[Region.wanted,v]
 rw[UG R];obtain⟨f,h,g,U,V,W,X⟩:=Hk (P:=P) b t a.type e z size bytes x y A sa n c vs D xa m c' news G H K M O;unfold Oper.wp;simp[execOp,w,resolve,invoke,builtin,C,E,U,Result.andThen];exact Q f h g V W X
noncomputable def Dn.h(a:Dn)(z b:Nat)(c:Ds)(e:List (Nat×bV))(d:Option Addr)(f:Nat):Dn:=
 {a with aE:=a.aE.set b {c with n:= {c.n with an:=e},oa:=d,oc:=f},cE:=a.e z (ag d) (7,b,0)}
def bP.r{r w1 f}(a:bP r f){g h}(s:f.aE[g]?=S h)(o a' c')(G:RV w1 289 5 a' o.length c' (hQ o))(H:∀d,ag a' d->ag h.oa d\/r.heap.size<=d)(D:ae (ag h.oa) r w1):
 bP (w1.setCell ⟨f.c,g*11+10,N⟩ (L a' o.length c')) (f.h r.heap.size g h o a' c')/\dR r (w1.setCell ⟨f.c,g*11+10,N⟩ (L a' o.length c')) f (f.h r.heap.size g h o a' c'):=by
 have K:ae (ap f.c) w1 (w1.setCell ⟨f.c,g*11+10,N⟩ (L a' o.length c')):=(ae.a (ap f.c) w1).e (p:=⟨f.c,g*11+10,N⟩) (λ_=>rfl) _;have t:=(D.d λ_ _ m=>Ur m).c (K.d λ_ _ m=>Up m);have V:=(Ul.1 s).1;have no:∀ {c:Nat} {E u v:Nat},f.cE c=(E,u,v)->(E,u,v)≠(7,g,0)->E≠2->¬(ag h.oa c\/c=f.c):=λm O A b=>by obtain b|b:=b;rw[a.t7 g h s _ b]at m;exact O m.symm;rw[b,a.t2]at m;cases m;exact A rfl
 have w:∀ {c:Nat},c<r.heap.size->(f.h r.heap.size g h o a' c').cE c=f.cE c:=λe=>oQ e;have M:(f.aE.set g {h with n:= {h.n with an:=o},oa:=a',oc:=c'}).length=f.aE.length:=UA;have C:∀ {d:Nat} {b:Ds},(f.aE.set g {h with n:= {h.n with an:=o},oa:=a',oc:=c'})[d]?=S b->∃i,f.aE[d]?=S i/\b.sa=i.sa/\b.sc=i.sc/\b.ss=i.ss/\b.n.ai=i.n.ai:=λ{d b} D=>by obtain⟨k,l⟩|⟨k,l⟩:=nP D;grind;grind
 have Q:∀d,ag a' d->d≠f.c:=λd R m=>by obtain b|b:=H d R;have:=a.t7 g h s d b;rw[m,a.t2]at this;cases this;have:=a.d;omega
 refine⟨{dk:=?_,jq:=a.jq.a t (λc e=>no (a.t5 c e) (by simp) (by omega)),jL:=?_,iG:=a.iG.a t (λc e=>no (a.t3 c e) (by simp) (by omega)),iH:=λd b j=>?_,gL:=λd b j=>?_,jd:=λd b j=>?_,eC:=λd b j v u x=>?_,fD:=λb j=>⟨(a.fD b j).1.a t (no (a.t4 b j) (by simp) (by omega)),(a.fD b j).2⟩,kP:=a.kP,t1:=(w a.dk.b).trans a.t1,t2:=(w a.d).trans a.t2,t3:=λc e=>(w (a.iG.b c e)).trans (a.t3 c e),t4:=λb j=>(w (a.fD b j).1.b).trans (a.t4 b j),t5:=λc e=>(w (a.jq.b c e)).trans (a.t5 c e),t6:=λd b j c e=>?_,t7:=λd b j c e=>?_,t8:=λd b j v u x c e=>?_,jc:=λc e=>?_},rfl,rfl,za s rfl,t.d (λc _ m=>m.elim (λb=>gz (a.t7 g h s c b) (by omega)) λb=>by rw[b];exact gz a.t2 (by omega)),λd m=>yv m⟩
 have k:(f.h r.heap.size g h o a' c').cells=f.cells:=by unfold Dn.cells Dn.h;dsimp only;rw[M]
 rw[k];exact a.dk.c t (no a.t1 (by simp) (by omega));show RV _ _ _ _ (f.aE.set g _).length _ (jS (f.aE.set g _));rw[M];have U:=a.jL.a D λc e b=>by have:=a.t7 g h s c b;rw[show c=f.c from cM.1 e,a.t2]at this;cases this
 have A:=U.e (g*11+10) (by unfold jS;rw[vU qm];omega) (L a' o.length c');rw[Ve]at A;have k:(jS f.aE).set (g*11+10) (L a' o.length c')=jS (f.aE.set g {h with n:= {h.n with an:=o},oa:=a',oc:=c'}):=ti qm f.aE g h _ s 10 (by omega) _ rfl;rw[k]at A;exact A;obtain⟨i,q,k,l,y,z⟩:=C j;rw[k,l,y,z];exact(a.iH d i q).a t (λc e=>no (a.t6 d i q c e) (by simp) (by omega));obtain⟨i,q,k,l,y,z⟩:=C j;rw[y,z];exact a.gL d i q;obtain⟨k,l⟩|⟨k,l⟩:=nP j;subst k;subst l;exact G.a K λc e=>Q c e;exact(a.jd d b l).a t (λc e=>no (a.t7 d b l c e) (by intro m;cases m;exact k rfl) (by omega));obtain⟨i,q,k,l,y,z⟩:=C j;rw[y]at x;exact⟨(a.eC d i q v u x).1.a t (λc e=>no (a.t8 d i q v u x c e) (by simp) (by omega)),(a.eC d i q v u x).2⟩;obtain⟨i,q,k,l,y,z⟩:=C j;rw[k]at e;exact(w ((a.iH d i q).b c e)).trans (a.t6 d i q c e);obtain⟨k,l⟩|⟨k,l⟩:=nP j;subst k;subst l;obtain b|b:=H c e;exact(w ((a.jd d h s).b c b)).trans (a.t7 d h s c b);exact yw b e;exact(w ((a.jd d b l).b c e)).trans (a.t7 d b l c e);obtain⟨i,q,k,l,y,z⟩:=C j;rw[y]at x;exact(w ((a.eC d i q v u x).1.b c e)).trans (a.t8 d i q v u x c e);refine(vV λb=>?_).trans (a.jc c (UM t.size e));have:=G.b c b;rw[VS]at e;omega
def mH.j{e w1 b i c f}(g:mH e b i c f){d}(j:b.aE[c]?=S d)(l:d.n= {f with aD:=[]})(a a' c')(m:RV w1 289 5 a' a.length c' (hQ a))(o:∀h,ag a' h->ag d.oa h\/e.heap.size<=h)(p:ae (ag d.oa) e w1):
 ∃k,mH (w1.setCell ⟨b.c,c*11+10,N⟩ (L a' a.length c')) k i c {f with an:=a}/\dR e (w1.setCell ⟨b.c,c*11+10,N⟩ (L a' a.length c')) b k:=by
 obtain⟨u1,u2⟩:=g.iN.r j a a' c' m o p;refine⟨_,⟨u1,?_,g.e,g.d,g.c⟩,u2⟩;have q:(b.h e.heap.size c d a a' c').a=({b with aE:=b.aE.set c {d with n:= {f with an:=a,aD:=[]}}}:Dn).a:=by unfold Dn.a Dn.h;rw[Wl,Wl,l];rfl
 rw[q,Ec j _ (λ_=> {f with an:=a,aD:=[]}) rfl,g.b,Ce,wm]
structure PO(u:World)(v:Dn)(q i:Nat)(w:Option Addr)(r:List (Nat×Array Value×TypeId))(x:AN)(l:Nat)(m:World)(j:ay)(h:Option Addr)(s:Nat):Prop where
 b:RV m 289 5 h j.an.length s (hQ j.an)
 a:m.cell? ⟨i,l*11+10,N⟩=S (L h j.an.length s)
 c:∀g,ag h g->g≠i
 e:∀g,ag h g->g≠q
 f:∀y∈r,¬ag h y.1
 d:∀(n o:World)(k:List (Nat×bV))(p:Option Addr)(t:Nat),ae aa m n->RV o 289 5 p k.length t (hQ k)->(∀g,ag p g->ag h g\/n.heap.size<=g)->ae (ag h) n o->Pn u v q i w r x l (o.setCell ⟨i,l*11+10,N⟩ (L p k.length t)) {j with an:=k}
def Pn.l{k l m n o p q b r s}(C:Pn k l m n o p q b r s):∃D E,PO k l m n o p q b r s D E:=by obtain⟨t,u,G,H,a,g,v⟩:=C;obtain⟨c,d,w⟩:=a.a;have h:=g.d.trans u;refine⟨c.oa,c.oc,⟨?_,?_,λi e f=>?_,λi e f=>?_,λx K f=>?_,λW X M O Q y R U e=>?_⟩⟩;have:=a.iN.jd b c d;grind;rw[<-h];exact(a.iN.cells d w).b;have:=a.iN.t7 b c d i e;rw[f,<-h,a.iN.t2]at this;cases this;have:=a.iN.t7 b c d i e;rw[f,<-(g.b.trans t),a.iN.t1]at this;cases this;have:=a.iN.t7 b c d x.1 f;rw[(v x K).2]at this;cases this;obtain⟨V,z,j⟩:=(a.f y).j d w M O Q R U e;rw[h]at z j;have A:=dR.c H y;exact⟨t,u,G,V,z,(g.a A).a j,(v.a A).a j⟩
def uS(a):(hQ a).length=a.length*5:=vU GH a
def yR(a b):hQ (a++b)=hQ a++hQ b:=by unfold hQ;rw[Wy]
def P7(a k):hQ (a.take k)=(hQ a).take (k*5):=by
 by_cases c:k<=a.length;have b:hQ a=hQ (a.take k)++hQ (a.drop k):=by rw[<-yR,Vd]
 rw[b,WU];rw[uS,UK];omega;rw[US (by omega),US (by rw[uS];omega)]
def P6(a k):hQ (a.drop k)=(hQ a).drop (k*5):=by
 by_cases c:k<=a.length;have b:hQ a=hQ (a.take k)++hQ (a.drop k):=by rw[<-yR,Vd]
 rw[b,List.drop_left'];rw[uS,UK];omega;rw[U6 (by omega),U6 (by rw[uS];omega)];rfl
def GI(c):∀b∈hQ c,b.oneCell'=T:=by intro b a;obtain⟨d,e,a⟩:=VW.1 a;simp only[wB,dy,UZ,U9,Wc]at a;obtain rfl|rfl|rfl|rfl|rfl:=a<;>rfl
end Go.Proofs.YtlfijfodklhplaaGreat
namespace Go.Proofs.YtlfijfodklhplaaGreat.Ghs
open bV
def gY(b:List (Nat×bV))(c:Nat):List bV:=(b.filter λa=>a.1==c).map λa=>a.2
def CM(a:ay):Prop:=∀b∈a.an,(a.a b.1 b.2).2=F
structure iT(i:Gr)(g:bT i)(l:Nat->Prop)(f:Nat->ay)(m:Nat->Nat->List bV):Prop where
 a:∃j,jf i g f j/\∀e h,h<g.dg e->j (g.nb e h) e=gY (f e).an h++m (g.nb e h) e
 b:∀e k,k∈(f e).an->k.1<g.dg e
 d:∀e,(f e).aP=0->(f e).an=[]
 c:∀e,l e->CM (f e)
def jf.b{d}{e:bT d}{f g b h}(i:jf d e (aj f b h) g)(j):jf d e (aj f b {h with an:=j}) g:=by obtain⟨k,l,m,c,n,o,p⟩:=i;refine⟨k,l,m,?_,n,o,p⟩;have a:=c.a b;rw[cS]at a;refine c.c (λs t=>⟨rfl,rfl,rfl,rfl,rfl,rfl,rfl,rfl,rfl,rfl,rfl,rfl⟩) ⟨a.l,a.b,a.g,a.f,a.c,a.a,a.h,a.d,a.i,a.o,a.n,a.j,a.r,a.e,a.m,a.q,a.p⟩ (λq r=>?_) c.b;have:=c.q b q r;rw[cS]at this;exact this
def iT.m{h}{j:bT h}{k f l}(d:iT h j k f l)(c):iT h j k (aj f c (f c).b) l:=by obtain⟨o,p,q⟩:=d.a;have i:=xC (f c);refine⟨⟨o,zJ p c,λa r s=>?_⟩,λa t e=>?_,λa b=>?_,λa m=>?_⟩;rw[q a r s];by_cases b:a=c;subst b;rw[cS,i.1];rw[dW _ _ b];by_cases b:a=c;subst b;rw[cS,i.1]at e;exact d.b _ _ e;rw[dW _ _ b]at e;exact d.b _ _ e;by_cases g:a=c;subst g;rw[cS]at b;exact(vy _ b).elim;rw[dW _ _ g]at b|-;exact d.d _ b;by_cases g:a=c;subst g;rw[cS];by_cases n:(f a).aP=0;intro t e;rw[i.1,d.d a n]at e;cases e;rw[uh n];exact d.c a m;rw[dW _ _ g];exact d.c a m
def pW(b c a):gY (b++c) a=gY b a++gY c a:=by simp[gY]
def tZ(a c b):gY (a::c) b=(if a.1=b then [a.2]else [])++gY c b:=by by_cases d:a.1=b<;>simp[gY,d]
def vv{a b c}:c∈gY a b↔(b,c)∈a:=by simp only[gY,Vb,Vw];simp
def iT.f{l}{e:bT l}{f n chan'}(v:l.n<2 ^ 30)(w:∀x,e.dg x<2 ^ 30){a b m}(i:iT l e (λc=>c≠a) f n)(p:b<e.dg a){X Y B}(y:gY (f a).an b++n (e.nb a b) a=gY X b++m::B)(Q:gY (X++Y) b++chan' (e.nb a b) a=gY X b++B)(R:∀g,g<e.dg a->g≠b->gY (X++Y) g++chan' (e.nb a g) a=gY (f a).an g++n (e.nb a g) a)(z:∀c q,q≠a->chan' c q=n c q)(A:∀h∈X,((f a).a h.1 h.2).2=F)(s:∀h,h∈X++Y->h∈(f a).an)(C:((f a).a b m).2=T):
 iT l e (λc=>c≠a) (aj f a { ((f a).a b m).1 with an:=X++Y}) chan':=by
 obtain⟨U,D,E⟩:=i.a;have G:=rP (f a) b m;have H:∀r∈gY X b,((f a).a b r).2=F:=λr K=>A (b,r) (vv.1 K);have t:(f a).aP=0->X++Y=[]:=λd=>by apply Vp.2;intro h j;have:=s h j;rw[i.d a d]at this;cases this
 have M:=IJ v w D p (by rw[E a b p,y]) H (λd=>by have:=t d;have:X=[]:=Wo.1 this |>.1;rw[this];rfl) C
 refine⟨⟨_,M.b (X++Y),λc g O=>?_⟩,λc h j=>?_,λc d=>?_,λc u=>?_⟩;simp only[am];by_cases d:c=a;subst d;rw[cS];by_cases o:g=b;grind;have:e.nb c g≠e.nb c b:=λk=>o (e.jh c _ _ O p k);grind;rw[Us λk=>d k.2,dW _ _ d,z _ _ d];grind;by_cases d:c=a;subst d;rw[cS]at j;exact i.b _ _ (s h j);rw[dW _ _ d]at j;exact i.b _ _ j;by_cases o:c=a;subst o;rw[cS]at d|-;refine t ?_;apply UC;intro k;exact G.2 k d;rw[dW _ _ o]at d|-;exact i.d _ d;rw[dW _ _ u];exact i.c c u
def Ag{b}(n:b.aP≠0):∀f c,b.an.length<=c+f->(∀d,d<c->∀a,b.an[d]?=S a->(b.a a.1 a.2).2=F)->
 (b.h f c=(b,F)/\CM b)\/∃l a o,b.an=l++a::o/\(∀g∈l,(b.a g.1 g.2).2=F)/\(b.a a.1 a.2).2=T/\b.h f c=({ (b.a a.1 a.2).1 with an:=l++o},T)
 |0,c,r,h=>by left;refine⟨rfl,λa i=>?_⟩;obtain⟨d,e,rfl⟩:=U3 i;exact h d (by omega) _ (Um e)
 |f+1,c,r,h=>by
  rw[ay.h];cases m:b.an[c]? with
  |none=>
   left;refine⟨rfl,λa i=>?_⟩;obtain⟨d,e,rfl⟩:=U3 i;have:=List.getElem?_eq_none_iff.1 m;exact h d (by omega) _ (Um e)
  |some a=>
   obtain⟨t,i⟩:=Ul.1 m;dsimp only;by_cases k:(b.a a.1 a.2).2=T;right;rw[UG k];refine⟨b.an.take c,a,b.an.drop (c+1),?_,?_,k,?_⟩;rw[<-i,XG,Vd];intro g j;obtain⟨d,e,rfl⟩:=U3 j;rw[UK]at e;rw[Xy];exact h d (by omega) _ (Um (by omega));rw[(rP b a.1 a.2).1,Vo];rw[Us k];have p:(b.a a.1 a.2).2=F:=by simpa using k
   have q:=(zI p).1;rw[uh n]at q;rw[q];refine Ag n f (c+1) (by omega) λd e g j=>?_;by_cases s:d=c;subst s;rw[m]at j;cases j;exact p;exact h d (by omega) g j
def iT.h{l}{i:bT l}(q:l.n<2 ^ 30)(r:∀u,i.dg u<2 ^ 30){a}:∀(n) {c} {g},iT l i (λe=>e≠a) c g->(c a).an.length<n->iT l i (λ_=>True) (aj c a ((c a).v n)) g
 |0,c,g,b,p=>by omega
 |n+1,c,g,b,p=>by
  rw[ay.v];by_cases s:(c a).aP=0;have d:=b.d a s;have j:(c a).h (c a).an.length 0=(c a,F):=by rw[d];rfl
  rw[j];simp only[V7,Xi];rw[mV];refine⟨b.a,b.b,b.d,λe _=>?_⟩;by_cases f:e=a;subst f;intro h o;rw[d]at o;cases o;exact b.c e f;obtain⟨d,j⟩|⟨X,h,Y,d,j,f,v⟩:=Ag s (c a).an.length 0 (by omega) (λz A=>by omega);rw[d];simp only[V7,Xi];rw[mV];refine⟨b.a,b.b,b.d,λe _=>?_⟩;by_cases f:e=a;subst f;exact j;exact b.c e f;rw[v];simp only[VR];have o:h.1<i.dg a:=b.b a h (by rw[d];simp);have w:=iT.f q r (chan':=g) (m:=h.2) (X:=X) (Y:=Y) (B:=gY Y h.1++g (i.nb a h.1) a) b o
   (by rw[d,pW,tZ];simp) (by rw[pW];simp) (λC D x=>by rw[d,pW,pW,tZ,Us λy=>x y.symm];simp) (λ_ _ _=>rfl) j (λE k=>by rw[d];simp at k|-;obtain k|k:=k<;>simp[k]) f
  have t:=iT.h q r n w (by rw[cS];rw[d]at p;simp at p|-;omega);rw[cS,xF]at t;exact t
def iT.q{n}{b:bT n}(v:n.n<2 ^ 30)(w:∀D,b.dg D<2 ^ 30){g j}(k:iT n b (λ_=>True) g j){a c}(x:c<b.dg a){m l}(p:j (b.nb a c) a=cy m::l):
 iT n b (λ_=>True) (aj g a ((g a).w c m)) (am j (b.nb a c) a l):=by
 unfold ay.w;have q:∀h,h<b.dg a->h≠c->am j (b.nb a c) a l (b.nb a h) a=j (b.nb a h) a:=λh q E=>by have:b.nb a h≠b.nb a c:=λi=>E (b.jh a _ _ q x i);simp[am,this]
 have y:∀d r,r≠a->am j (b.nb a c) a l d r=j d r:=λd r G=>by simp[am,G]
 have z:am j (b.nb a c) a l (b.nb a c) a=l:=by simp[am]
 by_cases s:((g a).a c (cy m)).2=T;rw[UG s];have H:iT n b (λd=>d≠a) g j:=⟨k.a,k.b,k.d,λd _=>k.c d VU⟩
 have o:=iT.f v w (chan':=am j (b.nb a c) a l) (m:=cy m) (X:=(g a).an) (Y:=[]) (B:=l) H x
  (by rw[p]) (by rw[z,VJ]) (λh t K=>by rw[q h t K,VJ]) y (k.c a VU) (λu p=>by simpa using p) s
 have f:({ ((g a).a c (cy m)).1 with an:=(g a).an++[]}:ay)=((g a).a c (cy m)).1:=by rw[VJ,<-(rP (g a) c (cy m)).1]
 rw[f]at o;have A:=iT.h v w (((g a).a c (cy m)).1.an.length+1) o (by rw[cS];omega);rw[cS,xF]at A;exact A;rw[Us s];have M:((g a).a c (cy m)).2=F:=by simpa using s
 obtain⟨O,Z⟩:=zI M;rw[O];have o:=k.m a;obtain⟨Q,R,U⟩:=o.a;have V:=xC (g a);refine⟨⟨Q,R.b _,λd h t=>?_⟩,λd u e=>?_,λd f=>?_,λd _=>?_⟩;rw[U d h t];by_cases f:d=a;subst f;rw[cS,cS];rw[pW,tZ];by_cases i:h=c;subst i;rw[z,p];simp[gY];rw[q h t i,Us λW=>i W.symm];simp[gY];rw[dW _ _ f,dW _ _ f,y _ _ f];by_cases f:d=a;subst f;rw[cS]at e;simp at e;obtain e|e:=e;rw[V.1]at e;exact k.b _ _ e;grind;rw[dW _ _ f]at e;exact k.b _ _ e;by_cases i:d=a;subst i;rw[cS]at f;exact(vy _ f).elim;rw[dW _ _ i]at f|-;exact k.d _ f;by_cases i:d=a;subst i;have C:=o.c d VU;rw[cS]at C;rw[cS];intro u e;rw[II];simp at e;obtain e|e:=e;exact C u e;grind;rw[dW _ _ i];exact k.c d VU
def iT.p(f)(d:bT f)(j)(k:∀b,j b=ay.g ((List.range (d.dg b)).map λa=>f.w b (d.nb b a))):iT f d (λ_=>True) j (λ_ _=>[]):=by
 have i:∀b,(j b).an=[]:=λb=>by rw[k];rfl
 refine⟨⟨λ_ _=>[],⟨⟨λ_=>F,λ_=>0,λ_=>0,λ_=>F,λ_ _=>0,λ_=>N,λ_=>N,λ_=>1001,λ_=>N,λ_=>0,λ_=>F,λ_ _=>[]⟩,g0,h0,⟨λb=>?_,λb a e=>?_,(λb g o m=>by cases m)⟩,?_,λ_ c=>c,λ_ c=>c⟩,(λg a e=>by rw[i];rfl)⟩,(λg n h=>by rw[i]at h;cases h),λg _=>i g,(λg _ n h=>by rw[i]at h;cases h)⟩;rw[k];have l:∀a,a<d.dg b->(ay.g ((List.range (d.dg b)).map λa=>f.w b (d.nb b a))).ai[a]?=S (f.w b (d.nb b a),0):=λa e=>by simp[ay.g,Xn,e]
 refine⟨by simp[ay.g],rfl,rfl,by simp[ay.g],by simp[ay.g],λa e=>?_,λa e=>?_,rfl,(λa c=>by cases c),rfl,(λa c=>by cases c),rfl,(λa c=>by cases c),rfl,rfl,rfl,by simp[ay.g]⟩;simp only[ay.c,l a e];simp only[ay.p,l a e];rw[k];rfl;exact Ji f (λ_=>rfl) (λ_=>rfl) (λ_ _=>rfl) (λ_=>rfl) (λ_=>rfl) (λ_=>rfl) (λ_ _=>rfl) λ_=>UF _
def iT.o{m}{h:bT m}{w i r s}(k:iT m h w i r){b}(G:∀f,f<h.dg b->s b (h.nb b f)=r b (h.nb b f)++mD (i b) f)(X:∀g,g≠b->s g=r g):
 iT m h w (aj i b {i b with aD:=[]}) s:=by
 obtain⟨H,⟨x,K,M,n,O,Q,R⟩,U⟩:=k.a;have t:∀d,(aj i b {i b with aD:=[]} d).an=(i d).an:=λd=>by by_cases a:d=b;subst a;rw[cS];rw[dW _ _ a]
 refine⟨⟨λg y=>if g=b then x.q b y else H g y,⟨x,K,M,⟨λg=>?_,λg f o=>?_,n.b⟩,O,Q,R⟩,λd f o=>?_⟩,λd u p=>?_,λd a=>?_,λd z=>?_⟩;have c:=n.a g;by_cases a:g=b;subst a;rw[cS];exact⟨c.l,c.b,c.g,c.f,c.c,c.a,c.h,c.d,c.i,c.o,c.n,c.j,c.r,c.e,c.m,c.q,c.p⟩;rw[dW _ _ a];exact c;by_cases a:g=b;subst a;rw[cS,UG rfl];simp[mD];rw[dW _ _ a,Us a];exact n.q g f o;rw[t];dsimp only;by_cases a:h.nb d f=b;rw[UG a,a];have A:=m.iK _ _ (h.iU d f o);rw[a]at A;obtain⟨j,C,rfl⟩:=h.pU b d A;have v:=U (h.nb b j) f o;rw[a]at v;rw[G j C,n.q b j C,v,UJ];grind;rw[t]at p;exact k.b d u p;rw[t];refine k.d d ?_;by_cases D:d=b;subst D;rw[cS]at a;exact a;rw[dW _ _ D]at a;exact a;by_cases a:d=b;subst a;rw[cS];intro u p;have v:=k.c d z u p;have:∀(e:ay)(f:Nat)(q:bV),(({e with aD:=[]}:ay).a f q).2=(e.a f q).2:=λe f q=>by
  have l:(({e with aD:=[]}:ay).b).aM=e.b.aM/\(({e with aD:=[]}:ay).b).ai=e.b.ai/\(({e with aD:=[]}:ay).b).cX=e.b.cX/\(({e with aD:=[]}:ay).b).cB=e.b.cB:=by unfold ay.b;split;have a:({e with aM:=0,aP:=2,bI:=0,aD:=[]}:ay).u=({e with aM:=0,aP:=2,bI:=0}:ay).u:=rfl;rw[a];split<;>exact⟨rfl,rfl,rfl,rfl⟩;simp
  have V:∀j,(({e with aD:=[]}:ay).b).c j=e.b.c j:=λj=>by simp only[ay.c,l.2.1]
  cases q with
  |bG E=>
   simp only[ay.a,ay.m,l.1,V];split;rfl;split<;>rfl
  |aL E W Y=>rfl
  |cW E W=>
   simp only[ay.a,ay.r,l.1,l.2.2.1,l.2.2.2];split;rfl;split;rfl;split<;>rfl
  |dG=>rfl
  |dK=>rfl
  |bH Z=>
   simp only[ay.a,ay.i];split;split;rfl;split;rfl;split<;>rfl;rfl
  |dO=>rfl
 grind;rw[dW _ _ a];exact k.c d z
structure E3 where
 a:Nat
 b:Nat
 w:Nat
def oe(a:(Nat->Nat)×List E3)(b:E3):(Nat->Nat)×List E3:=
 if a.1 b.a=a.1 b.b then a else (λc=>if a.1 c=a.1 b.b then a.1 b.a else a.1 c,a.2++[b])
def Ad(a:List E3):(Nat->Nat)×List E3:=a.foldl oe (λb=>b,[])
def KJ(b:(Nat->Nat)×List E3):Prop:=∀c d,b.1 c=b.1 d->∀a:Nat->Prop,(∀e∈b.2,(a e.a↔a e.b))->(a c↔a d)
def Jk{b}(c:KJ b)(a):KJ (oe b a):=by unfold oe;split;exact c;intro e d h g f;dsimp only at h f;have k:∀a∈b.2,(g a.a↔g a.b):=λa i=>f a (by simp[i]);have l:=f a (by simp);have m:=c e a.b;have n:=c d a.b;have o:=c e a.a;have p:=c d a.a;have q:=c e d;by_cases r:b.1 e=b.1 a.b;by_cases j:b.1 d=b.1 a.b;simp_all;simp_all;by_cases j:b.1 d=b.1 a.b;simp_all;simp_all
def Dg:∀(b:List E3) {a:(Nat->Nat)×List E3},KJ a->KJ (b.foldl oe a)
 |[],a,c=>c
 |d::b,a,c=>Dg b (Jk c d)
def Di:∀(c:List E3)(a:(Nat->Nat)×List E3)(b:E3),b∈a.2->b∈(c.foldl oe a).2
 |[],a,b,d=>d
 |e::c,a,b,d=>Di c (oe a e) b (by unfold oe;split<;>simp[d])
def Dh:∀(d:List E3)(c:(Nat->Nat)×List E3)(b:E3),b∈(d.foldl oe c).2->b∈c.2\/b∈d
 |[],c,b,e=>Ur e
 |f::d,c,b,e=>by obtain a|a:=Dh d (oe c f) b e;unfold oe at a;split at a;exact Ur a;simp at a;obtain a|a:=a;exact Ur a;right;simp[a];right;simp[a]
def Jl{c}(j:c.Pairwise λa g=>a.w<g.w){b}(k:b∈c)(S:Nat->Prop)(l:¬(S b.a↔S b.b))(m:∀a∈c,¬(S a.a↔S a.b)->b.w<=a.w):b∈(Ad c).2:=by
 obtain⟨d,n,rfl⟩:=Xs k;unfold Ad;rw[V5,WE];refine Di n _ b ?_;have o:KJ (d.foldl oe (λf=>f,[])):=Dg d (λa g h S _=>by dsimp only at h;rw[h]);unfold oe;split;rename_i p;exfalso;refine l (o _ _ p S λa q=>?_);apply UC;intro r;have i:a∈d:=by obtain e|e:=(Dh d (λf=>f,[])) a q;cases e;exact e
 have e:=m a (by simp[i]) r;have s:=(Wg.1 j).2.2 a i b (by simp);omega;simp
def Jh(r:Nat)(o:List E3)(s:∀a∈o,a.a<r/\a.b<r/\a.a≠a.b/\1<=a.w/\a.w<=1000)(y:o.Pairwise λb i=>b.w<i.w)
 (j:Nat->Nat->Nat) (k:∀c d,j c d=j d c) (m:∀a∈o,j a.a a.b=a.w):Gr where
 n:=r
 fg c d:=∃a∈o,(a.a=c/\a.b=d)\/(a.a=d/\a.b=c)
 w:=j
 iK:=λc d ⟨a,e,f⟩=>⟨a,e,f.symm⟩
 jN:=λc ⟨a,e,f⟩=>by have:=(s a e).2.2.1;obtain⟨p,h⟩|⟨p,h⟩:=f<;>exact this (p.trans h.symm)
 lt:=λc d ⟨a,e,f⟩=>by have:=s a e;obtain⟨p,h⟩|⟨p,h⟩:=f<;>omega
 ws:=k
 w1:=λc d ⟨a,e,f⟩=>by have p:=s a e;have h:=m a e;obtain⟨rfl,rfl⟩|⟨rfl,rfl⟩:=f;omega;rw[k];omega
 wd:=λc d b i ⟨a,e,f⟩ ⟨t,z,A⟩ V=>by
  have h:=m a e;have C:=m t z;have W:=k;have O:j c d=a.w:=by obtain⟨rfl,rfl⟩|⟨rfl,rfl⟩:=f;exact h;rw[k];exact h
  have Q:j b i=t.w:=by obtain⟨rfl,rfl⟩|⟨rfl,rfl⟩:=A;exact C;rw[k];exact C
  have R:a=t:=by apply UC;intro U;have:=Vv.1 y;obtain⟨u,D,rfl⟩:=U3 e;obtain⟨v,E,rfl⟩:=U3 z;obtain g|g|g:=XA u v;have:=this u v D E g;omega;subst g;exact U rfl;have:=this v u E D g;omega
  subst R;obtain⟨rfl,rfl⟩|⟨rfl,rfl⟩:=f<;>obtain⟨rfl,rfl⟩|⟨rfl,rfl⟩:=A<;>simp
 tP c d:=∃a∈(Ad o).2,(a.a=c/\a.b=d)\/(a.a=d/\a.b=c)
 CK:=λq c d ⟨a,e,f⟩ G H K=>by
  refine⟨a,Jl y e q ?_ ?_,f⟩;obtain⟨rfl,rfl⟩|⟨rfl,rfl⟩:=f;exact λb=>H (b.1 G);exact λb=>H (b.2 G);intro b x M;have O:j c d=a.w:=by obtain⟨rfl,rfl⟩|⟨rfl,rfl⟩:=f;exact m a e;rw[k];exact m a e
  have Q:=m b x;by_cases g:q b.a;have l:¬q b.b:=λl=>M ⟨λ_=>l,λ_=>g⟩;have:=K b.a b.b ⟨b,x,Ur ⟨rfl,rfl⟩⟩ g l;omega;have l:q b.b:=UC λl=>M ⟨λi=>(g i).elim,λi=>(l i).elim⟩;have:=K b.b b.a ⟨b,x,Up ⟨rfl,rfl⟩⟩ l g;have X:=k b.b b.a;omega
structure lD(s r:En)(out back:Fr.ff->Prop)(d:List Fr.cF):Prop where
 ju:∀a,out a->a.b=T->d[a.a]?=S a.m/\a.a<s.aJ+s.c
 jM:∀a,back a->a.b=F->a.a<=r.aT
 lo:s.aJ<=r.aT
 hi:r.aT<=s.aJ+s.c
 pm:s.aJ+s.aI.length=d.length
 pS:∀b c,s.aI[b]?=S c->d[s.aJ+b]?=S c
 ny:∀b c,r.aO[b]?=S (S c)->d[r.aT+b]?=S c/\r.aT+b<s.aJ+s.c
 pj:r.aO.length=4
def xD(a:En):a.c<=a.aI.length/\a.c<=4:=by unfold En.c;omega
def Jd(a e f)(b:f∈En.gU a e):∃c d,e[c]?=S d/\f=⟨T,a+c,d⟩:=by
 induction e generalizing a with
 |nil=>simp[En.gU]at b
 |cons i j g=>
  obtain rfl|b:=UZ.1 b;simp;obtain⟨c,d,h,rfl⟩:=g (a+1) b;exact⟨c+1,d,by simpa using h,by rw[Nat.add_right_comm,UI]⟩
def sK(a:En)(k f)(c:f∈(a.r k).aA):f∈a.aA\/∃b d,b<a.c/\a.aI[b]?=S d/\f=⟨T,a.aJ+b,d⟩:=by obtain c|c:=UP.1 c;grind;obtain⟨b,d,e,rfl⟩:=Jd _ _ _ c;rw[VC]at e;have g:=(Ul.1 e).1;rw[UK]at g;rw[V2 (by omega)]at e;exact Up ⟨k+b,d,by unfold En.c;omega,e,by rw[UI]⟩
def lD.f:lD En.e En.e (λ_=>False) (λ_=>False) []:=by
 refine⟨λ_ a=>a.elim,λ_ a=>a.elim,UF _,by simp[En.e],rfl,λb c a=>by simp[En.e]at a,λb c a=>?_,rfl⟩;have:b=0\/b=1\/b=2\/b=3\/4<=b:=by omega
 obtain rfl|rfl|rfl|rfl|d:=this;simp[En.e]at a;simp[En.e]at a;simp[En.e]at a;simp[En.e]at a;have:=(Ul.1 a).1;simp[En.e]at this;omega
def lD.b{d e f g h i j}(b:lD d e f g j)(k:∀a,h a->f a)(l:∀a,i a->g a):lD d e h i j:=
 {b with ju:=λa c=>b.ju a (k a c),jM:=λa c=>b.jM a (l a c)}
def zV{a}{b:Nat}{c e:Fr.cF}(d:a[b]?=S c):(a++[e])[b]?=S c:=by have:=(Ul.1 d).1;rw[Ux this];exact d
def lD.g{a n k o out' h}(e:lD a n k o h)(b)(s:∀c,out' c->k c\/c∈(a.n b).aA)(t:∀c∈a.aA,k c):lD (a.n b) n out' o (h++[b]):=by
 have p:∀d f,(a.n b).aI[d]?=S f->(h++[b])[a.aJ+d]?=S f:=by
  intro d f i;have j:(a.aI++[b])[d]?=S f:=i;by_cases l:d<a.aI.length;rw[Ux l]at j;exact zV (e.pS d f j);rw[Ut (by omega)]at j;have u:=(Ul.1 j).1;simp at u;have:d-a.aI.length=0:=by omega
  rw[this]at j;have v:=e.pm;rw[Ut (by omega),show a.aJ+d-h.length=0 by omega];exact j
 have m:a.aJ+a.c<=(a.n b).aJ+(a.n b).c:=by show a.aJ+a.c<=a.aJ+min (a.aI++[b]).length 4;unfold En.c;simp;omega
 refine {ju:=?_,jM:=e.jM,lo:=e.lo,hi:=UM e.hi m,pm:=?_,pS:=p,ny:=λd f i=>⟨zV (e.ny d f i).1,Un (e.ny d f i).2 m⟩,pj:=e.pj};intro c g q;have r:k c->(h++[b])[c.a]?=S c.m/\c.a<(a.n b).aJ+(a.n b).c:=λg=>⟨zV (e.ju c g q).1,Un (e.ju c g q).2 m⟩
 obtain g|g:=s c g;exact r g;obtain g|⟨d,f,l,i,rfl⟩:=sK (a.w b) _ c g;exact r (t c g);exact⟨p d f i,by show a.aJ+d<a.aJ+_;exact Xo l _⟩;show a.aJ+(a.aI++[b]).length=(h++[b]).length;have:=e.pm;simp;omega
def lD.h{d f e g out' h}(b:lD d f e g h)(j:∀a,out' a->e a\/a∈d.o.aA)(k:∀a∈d.aA,e a):lD d.o f out' g h:=by refine {ju:=?_,jM:=b.jM,lo:=b.lo,hi:=b.hi,pm:=b.pm,pS:=b.pS,ny:=b.ny,pj:=b.pj};intro a c i;obtain c|c:=j a c;exact b.ju a c i;obtain c|⟨l,m,n,o,rfl⟩:=sK d 0 a c;exact b.ju a (k a c) i;exact⟨b.pS l m o,Xo n _⟩
def lD.c{a l m p out' j}(f:lD a l m p j)(e)(z:e<=l.aT)(k:∀b,out' b->m b\/b∈(a.h e).aA)(q:∀b∈a.aA,m b):lD (a.h e) l out' p j:=by
 by_cases r:a.aJ<e/\e<=a.aJ+a.c;have s:e-a.aJ<=a.c:=by omega
 have A:=xD a;have n:a.h e=(a.u (e-a.aJ)).r (a.c-(e-a.aJ)):=by unfold En.h;rw[UG r]
 rw[n]at k|-;obtain⟨d,w⟩:=ah (e-a.aJ);rw[<-w]at s k|-;have o:a.aJ+a.c<=(a.aJ+d)+(a.u d).c:=by show a.aJ+a.c<=a.aJ+d+min (a.aI.drop d).length 4;unfold En.c at s|-;simp;omega
 have t:∀h g,(a.aI.drop d)[h]?=S g->j[a.aJ+d+h]?=S g:=by intro h g i;rw[VC]at i;rw[UI];exact f.pS _ g i
 refine {ju:=?_,jM:=f.jM,lo:=?_,hi:=UM f.hi o,pm:=?_,pS:=t,ny:=λh g i=>⟨(f.ny h g i).1,Un (f.ny h g i).2 o⟩,pj:=f.pj};intro b c u;have v:m b->j[b.a]?=S b.m/\b.a<a.aJ+d+(a.u d).c:=λc=>⟨(f.ju b c u).1,Un (f.ju b c u).2 o⟩
 obtain c|c:=k b c;exact v c;obtain c|⟨h,g,x,i,rfl⟩:=sK (a.u d) _ b c;exact v (q b c);exact⟨t h g i,Xo x _⟩;show a.aJ+d<=l.aT;omega;show a.aJ+d+(a.aI.drop d).length=j.length;have:=f.pm;simp;omega;have n:a.h e=a:=by unfold En.h;rw[Us r]
 rw[n]at k|-;exact f.b (λb c=>(k b c).elim id λy=>q b y) λb c=>c
def Jx(c)(a:Nat)(d)(b:(En.dU c)[a]?=S d):c[a]?=S (S d):=by
 induction c generalizing a with
 |nil=>simp[En.dU]at b
 |cons e g f=>
  cases e with
  |none=>simp[En.dU]at b
  |some h=>
   cases a with
   |zero=>simpa [En.dU]using b
   |succ a=>simpa using f a (by simpa [En.dU]using b)
def Jy(a):(En.dU a).length<=a.length:=by
 induction a with
 |nil=>simp[En.dU]
 |cons b d c=>cases b<;>simp[En.dU];exact c
def lD.e{k a s r back' o}(i:lD k a s r o)(e b)(M:o[e]?=S b)(O:e<k.aJ+k.c)(D:∀g,back' g->r g\/g∈(a.i e b).aA)(E:∀g∈a.aA,r g):
 lD k (a.i e b) s back' o/\(a.i e b).aT=a.aT+(a.q e b).length/\o.drop a.aT=a.q e b++o.drop (a.i e b).aT:=by
 obtain⟨f,n⟩:=ah (a.a e b);have t:f.aT=a.aT:=by rw[n];unfold En.a;split;split<;>rfl;rfl
 have u:f.aA=a.aA:=by rw[n];unfold En.a;split;split<;>rfl;rfl
 have Q:f.aO.length=4:=by rw[n];unfold En.a;split;split;simp[i.pj];exact i.pj;exact i.pj
 have v:∀c h,f.aO[c]?=S (S h)->o[a.aT+c]?=S h/\a.aT+c<k.aJ+k.c:=by intro c h d;rw[n]at d;unfold En.a at d;by_cases w:a.aT<=e;rw[UG w]at d;split at d;simp only[Vi]at d;by_cases x:e-a.aT=c;subst x;rw[UG rfl]at d;split at d;grind;cases d;rw[Us x]at d;exact i.ny c h d;exact i.ny c h d;rw[Us w]at d;exact i.ny c h d
 obtain⟨m,p⟩:=ah ((En.dU f.aO).length);have R:m<=4:=by have:=Jy f.aO;omega
 have y:∀c h,(En.dU f.aO)[c]?=S h->o[a.aT+c]?=S h/\a.aT+c<k.aJ+k.c:=λc h d=>v c h (Jx _ c h d);have U:a.aT+m<=k.aJ+k.c:=by by_cases V:m=0;have:=i.hi;omega;have W:=y (m-1) _ (Um (by omega));omega
 have q:(a.i e b).aT=a.aT+m:=by
  have:(f.g.p).aT=f.g.aT:=by unfold En.p;split<;>rfl
  show (En.p (En.g (a.a e b))).aT=_;rw[<-n,this];show f.aT+(En.dU f.aO).length=_;rw[t,p]
 have G:(a.i e b).aO=f.aO.drop m++List.replicate m N:=by
  have:(f.g.p).aO=f.g.aO:=by unfold En.p;split<;>rfl
  show (En.p (En.g (a.a e b))).aO=_;rw[<-n,this,p];rfl
 have H:∀g,g∈(a.i e b).aA->g∈a.aA\/g=⟨F,a.aT+m,Fr.dq⟩:=by
  intro g j;have K:(a.i e b).aA=f.g.p.aA:=by rw[n];rfl
  rw[K]at j;unfold En.p at j;split at j;obtain b|b:=UP.1 j;exact Ur (by rw[<-u];exact b);simp at b;refine Up ?_;rw[b,p,<-t];rfl;exact Ur (by rw[<-u];exact j)
 have z:a.q e b=En.dU f.aO:=by unfold En.q;rw[n]
 refine⟨{ju:=i.ju,jM:=?_,lo:=?_,hi:=?_,pm:=i.pm,pS:=i.pS,ny:=?_,pj:=?_},by rw[q,z,<-p],?_⟩;intro g j A;rw[q];obtain j|j:=D g j;have:=i.jM g j A;omega;obtain j|rfl:=H g j;have:=i.jM g (E g j) A;omega;simp;rw[q];have:=i.lo;omega;grind;intro c h d;rw[G]at d;rw[q];by_cases C:c<(f.aO.drop m).length;rw[Ux C,VC]at d;have:=v _ h d;rw[UI];exact this;grind;grind;rw[q,z];apply Vc;intro c;rw[VC];by_cases C:c<m;rw[Ux (by omega),Um (l:=En.dU f.aO) (by omega)];exact(y c _ (Um (by omega))).1;rw[Ut (by omega),VC,<-p];congr 1;omega
def lD.a{s r e g out back n o p}(b:lD s r out back p)(c:e.aJ=s.aJ)(h:e.aI=s.aI)(f:g.aT=r.aT)(q:g.aO=r.aO)(t:∀a,n a->out a)(u:∀a,o a->back a):lD e g n o p:=by
 have i:e.c=s.c:=by unfold En.c;rw[h]
 exact⟨λa j k=>by rw[c,i];exact b.ju a (t a j) k,λa j k=>by rw[f];exact b.jM a (u a j) k,by rw[c,f];exact b.lo,by rw[c,f,i];exact b.hi,by rw[c,h];exact b.pm,λl m d=>by rw[c];rw[h]at d;exact b.pS l m d,λl m d=>by rw[q]at d;rw[c,f,i];exact b.ny l m d,by rw[q];exact b.pj⟩
structure LS where
 jg:Nat->ay
 en:Nat->Nat->En
 io:List (Nat×Nat×Option Fr.ff)
structure fN(i:Gr)(e:bT i)(S:LS)(j l m:Nat->Nat->List Fr.cF):Prop where
 b:∀d f g,f<e.dg d->g<e.dg (e.nb d f)->e.nb (e.nb d f) g=d->lD (S.en d f) (S.en (e.nb d f) g) (λh=>(d,e.nb d f,some h)∈S.io) (λh=>(e.nb d f,d,some h)∈S.io) (j d (e.nb d f))
 c:∀d f,(S.en d f).aA=[]
 a:∃k,iT i e (λ_=>True) S.jg k/\∀d f g,f<e.dg d->g<e.dg (e.nb d f)->e.nb (e.nb d f) g=d->k d (e.nb d f)=(l d (e.nb d f)++(j d (e.nb d f)).drop (S.en (e.nb d f) g).aT++m d (e.nb d f)).map cy
def fN.e{c}{e:bT c}{S f g h}(d:fN c e S f g h)(i)(j:∀b k a,(b,k,some a)∈i->(b,k,some a)∈S.io):fN c e {S with io:=i} f g h:=
 ⟨λb l m n o p=>(d.b b l m n o p).b (λa=>j _ _ a) λa=>j _ _ a,d.c,d.a⟩
def tU{d}(a:bT d){b c}(f:c<a.dg b):∃e,e<a.dg (a.nb b c)/\a.nb (a.nb b c) e=b:=a.pU _ _ (d.iK _ _ (a.iU b c f))
def fN.d{l}{a:bT l}{S p K M}(x:fN l a S p K M){b e k}(q:e<a.dg b)(y:k<a.dg (a.nb b e))(z:a.nb (a.nb b e) k=b)(e' j m A C)(D:∀c d g,(c,d,some g)∈j->(c,d,some g)∈S.io\/(c=b/\d=a.nb b e))(O:e'.aA=[])(E:∀c d,¬(c=b/\d=a.nb b e)->m c d=p c d)(Y:lD e' (S.en (a.nb b e) k) (λg=>(b,a.nb b e,some g)∈j) (λg=>(a.nb b e,b,some g)∈j) (m b (a.nb b e)))(Q:lD (S.en (a.nb b e) k) e' (λg=>(a.nb b e,b,some g)∈j) (λg=>(b,a.nb b e,some g)∈j) (p (a.nb b e) b))(R:∃G,iT l a (λ_=>True) S.jg G/\∀c d f,d<a.dg c->f<a.dg (a.nb c d)->a.nb (a.nb c d) f=c->G c (a.nb c d)=(A c (a.nb c d)++(m c (a.nb c d)).drop (am S.en b e e' (a.nb c d) f).aT++C c (a.nb c d)).map cy):
 fN l a {S with en:=am S.en b e e',io:=j} m A C:=by
 have r:b≠a.nb b e:=λc=>by have:=a.iU b e q;rw[<-c]at this;exact l.jN _ this
 refine⟨λc d f s t u=>?_,λc d=>?_,R⟩;dsimp only;by_cases v:c=b/\d=e;obtain⟨rfl,rfl⟩:=v;have:f=k:=a.jh _ _ _ t y (u.trans z.symm);have n:am S.en c d e' c d=e':=by simp[am]
 have o:am S.en c d e' (a.nb c d) f=S.en (a.nb c d) f:=by simp[am,r.symm]
 grind;by_cases i:a.nb c d=b/\f=e;obtain⟨i,rfl⟩:=i;have U:c=a.nb b f:=by rw[<-u,i]
 subst U;have V:d=k:=a.jh _ _ _ s y (i.trans z.symm);subst V;rw[i];have n:am S.en b f e' (a.nb b f) d=S.en (a.nb b f) d:=by simp[am,r.symm]
 have o:am S.en b f e' b f=e':=by simp[am]
 rw[n,o,E _ _ λh=>r h.1.symm];exact Q;have W:¬(c=b/\a.nb c d=a.nb b e):=λh=>by obtain⟨rfl,h⟩:=h;exact v ⟨rfl,a.jh _ _ _ s q h⟩
 have Z:¬(a.nb c d=b/\c=a.nb b e):=λh=>by
  obtain⟨H,aa⟩:=h;refine i ⟨H,?_⟩;have X:f<a.dg b:=by rw[<-H];exact t
  refine a.jh b f e X q ?_;grind
 have n:am S.en b e e' c d=S.en c d:=by simp only[am,Us v]
 have o:am S.en b e e' (a.nb c d) f=S.en (a.nb c d) f:=by simp only[am,Us i]
 rw[n,o,E _ _ W];refine(x.b c d f s t u).b (λg w=>?_) λg w=>?_;obtain h|h:=D _ _ g w;exact h;omega;obtain h|h:=D _ _ g w;exact h;omega;simp only[am];split;exact O;exact x.c c d
def fN.n{o}{f:bT o}{S q s t}(j:fN o f S q s t){b e}(k:e<f.dg b)(l)(m:∀g h a,(g,h,some a)∈l->(g,h,some a)∈S.io\/(g=b/\h=f.nb b e/\a∈(S.en b e).o.aA)):
 fN o f {S with en:=am S.en b e (S.en b e).o.f,io:=l} q s t:=by
 obtain⟨w,u,n⟩:=tU f k;have G:b≠f.nb b e:=λg=>by have:=f.iU b e k;rw[<-g]at this;exact o.jN _ this
 have i:=j.b b e w k u n;have p:=j.b (f.nb b e) w e u (by rw[n];exact k) (by rw[n]);rw[n]at p;have x:=j.c b e;refine j.d k u n _ l q s t (λg h a c=>(m g h a c).imp_right λd=>⟨d.1,d.2.1⟩) rfl (λ_ _ _=>rfl) ?_ ?_ ?_;have:=i.h (out':=λa=>(b,f.nb b e,some a)∈l) (λa c=>(m _ _ a c).imp_right λd=>d.2.2) (λa c=>by rw[x]at c;cases c);refine this.a rfl rfl rfl rfl (λa c=>c) λa c=>?_;obtain d|d:=m _ _ a c;exact d;grind;refine lD.a (back:=λa=>(b,f.nb b e,some a)∈l) ?_ rfl rfl (r:=(S.en b e).o) rfl rfl (λa c=>c) λa c=>c;refine {p with ju:=λa c i=>p.ju a ?_ i,jM:=λa c i=>?_};obtain d|d:=m _ _ a c;exact d;omega;obtain d|d:=m _ _ a c;exact p.jM a d i;obtain d|⟨H,K,_,_,rfl⟩:=sK _ _ a d.2.2;grind;cases i;obtain⟨y,z,A⟩:=j.a;refine⟨y,z,λg h v C D E=>?_⟩;rw[A g h v C D E];have:(am S.en b e (S.en b e).o.f (f.nb g h) v).aT=(S.en (f.nb g h) v).aT:=by simp only[am];split;rename_i d;rw[d.1,d.2];rfl;rfl
 rw[this]
def lD.d{a b e f c}(d:lD a b e f c):b.aT<=c.length:=by have:=d.hi;have:=d.pm;have:=xD a;omega
def fN.j{q}{e:bT q}{S j v w}(n:fN q e S j v w){a b}(k:b<e.dg a){m r}(D:w a (e.nb a b)=m::r)(o)(p:∀g h d,(g,h,some d)∈o->(g,h,some d)∈S.io\/(g=a/\h=e.nb a b/\d∈((S.en a b).n m).aA)):
 fN q e {S with en:=am S.en a b ((S.en a b).n m).f,io:=o} (am j a (e.nb a b) (j a (e.nb a b)++[m])) v (am w a (e.nb a b) r):=by
 obtain⟨x,s,l⟩:=tU e k;have O:a≠e.nb a b:=λg=>by have:=e.iU a b k;rw[<-g]at this;exact q.jN _ this
 have i:=n.b a b x k s l;have t:=n.b (e.nb a b) x b s (by rw[l];exact k) (by rw[l]);rw[l]at t;have E:=n.c a b;have y:am j a (e.nb a b) (j a (e.nb a b)++[m]) a (e.nb a b)=j a (e.nb a b)++[m]:=by simp[am]
 refine n.d k s l _ o _ v _ (λg h d f=>(p g h d f).imp_right λc=>⟨c.1,c.2.1⟩) rfl (λg h c=>by simp only[am,Us c]) ?_ ?_ ?_;rw[y];have:=i.g m (out':=λd=>(a,e.nb a b,some d)∈o) (λd f=>(p _ _ d f).imp_right λc=>c.2.2) (λd f=>by rw[E]at f;cases f);refine this.a rfl rfl rfl rfl (λd f=>f) λd f=>?_;obtain c|c:=p _ _ d f;exact c;grind;refine lD.a (back:=λd=>(a,e.nb a b,some d)∈o) ?_ rfl rfl (r:=(S.en a b).n m) rfl rfl (λd f=>f) λd f=>f;refine {t with ju:=λd f i=>t.ju d ?_ i,jM:=λd f i=>?_};obtain c|c:=p _ _ d f;exact c;omega;obtain c|c:=p _ _ d f;exact t.jM d c i;obtain c|⟨Q,g,_,_,rfl⟩:=sK _ _ d c.2.2;have R:d∈(S.en a b).aA:=c;grind;cases i;obtain⟨G,H,K⟩:=n.a;refine⟨G,H,λg h u z A C=>?_⟩;rw[K g h u z A C];have M:(am S.en a b ((S.en a b).n m).f (e.nb g h) u).aT=(S.en (e.nb g h) u).aT:=by simp only[am];split;rename_i c;rw[c.1,c.2];rfl;rfl
 rw[M];by_cases c:g=a/\e.nb g h=e.nb a b;obtain⟨rfl,c⟩:=c;have:=e.jh _ _ _ z k c;subst this;have:u=x:=e.jh _ _ _ A s (C.trans l.symm);subst this;rw[y,D];simp only[am,and_self,VR];rw[VF i.d];simp;simp only[am,Us c]
def fN.h{p}{e:bT p}{S q r t}(l:fN p e S q r t){a k}(j:k<e.dg a){c}(K:(e.nb a k,a,some c)∈S.io)(M:c.b=T)(m)(n:∀g h b,(g,h,some b)∈m->(g,h,some b)∈S.io\/(g=a/\h=e.nb a k/\b∈((S.en a k).i c.a c.m).aA)):
 fN p e {S with en:=am S.en a k ((S.en a k).i c.a c.m).f,io:=m} q (am r (e.nb a k) a (r (e.nb a k) a++(S.en a k).q c.a c.m)) t:=by
 obtain⟨z,u,o⟩:=tU e j;have aa:a≠e.nb a k:=λg=>by have:=e.iU a k j;rw[<-g]at this;exact p.jN _ this
 have v:=l.b a k z j u o;have w:=l.b (e.nb a k) z k u (by rw[o];exact j) (by rw[o]);rw[o]at w;have A:=l.c a k;have C:=w.ju c K M;have D:=w.e (back':=λb=>(a,e.nb a k,some b)∈m) c.a c.m C.1 C.2 (λb d=>(n _ _ b d).imp_right λf=>f.2.2) (λb d=>by rw[A]at d;cases d);have O:((S.en a k).i c.a c.m).aJ=(S.en a k).aJ:=by
  unfold En.i En.p En.g En.a;repeat' split
  all_goals rfl
 have Q:((S.en a k).i c.a c.m).aI=(S.en a k).aI:=by
  unfold En.i En.p En.g En.a;repeat' split
  all_goals rfl
 have ab:∀b∈((S.en a k).i c.a c.m).aA,b.b=F:=λb d=>by
  have ac:((S.en a k).a c.a c.m).g.aA=[]:=by
   unfold En.g En.a;repeat' split
   all_goals exact A
  unfold En.i En.p at d;split at d;grind;grind
 refine l.d j u o _ m q _ t (λg h b d=>(n g h b d).imp_right λf=>⟨f.1,f.2.1⟩) rfl (λ_ _ _=>rfl) ?_ ?_ ?_;refine lD.a (s:=S.en a k) (out:=λb=>(a,e.nb a k,some b)∈m) ?_ O Q rfl rfl (λb d=>d) λb d=>d;refine {v with ju:=λb d x=>v.ju b ?_ x,jM:=λb d x=>v.jM b ?_ x};obtain f|f:=n _ _ b d;exact f;grind;obtain f|f:=n _ _ b d;exact f;omega;refine D.1.a rfl rfl rfl rfl (λb d=>?_) λb d=>d;obtain f|f:=n _ _ b d;exact f;omega;obtain⟨R,U,V⟩:=l.a;refine⟨R,U,λg h i W E G=>?_⟩;rw[V g h i W E G];by_cases f:e.nb g h=a/\i=k;obtain⟨f,rfl⟩:=f;have X:g=e.nb a i:=by rw[<-G,f]
 subst X;rw[f];have y:(am S.en a i ((S.en a i).i c.a c.m).f a i).aT=((S.en a i).i c.a c.m).aT:=by simp[am];rfl
 rw[y,D.2.2];simp[am];have y:am S.en a k ((S.en a k).i c.a c.m).f (e.nb g h) i=S.en (e.nb g h) i:=by simp only[am,Us f]
 have Y:¬(g=e.nb a k/\e.nb g h=a):=λZ=>by obtain⟨ad,H⟩:=Z;refine f ⟨H,e.jh a i k (by rw[<-H];exact E) j ?_⟩;grind
 rw[y];simp only[am,Us Y]
def fN.g{o}{e:bT o}{S q s t}(i:fN o e S q s t){b k}(j:k<e.dg b){g}(C:(e.nb b k,b,some g)∈S.io)(D:g.b=F)(l)(m:∀f h a,(f,h,some a)∈l->(f,h,some a)∈S.io\/(f=b/\h=e.nb b k/\a∈((S.en b k).h g.a).aA)):
 fN o e {S with en:=am S.en b k ((S.en b k).h g.a).f,io:=l} q s t:=by
 obtain⟨y,u,n⟩:=tU e j;have R:b≠e.nb b k:=λf=>by have:=e.iU b k j;rw[<-f]at this;exact o.jN _ this
 have z:=i.b b k y j u n;have p:=i.b (e.nb b k) y k u (by rw[n];exact j) (by rw[n]);rw[n]at p;have E:=i.c b k;have v:=z.jM g C D;have A:((S.en b k).h g.a).aT=(S.en b k).aT:=by unfold En.h;split<;>rfl
 have G:((S.en b k).h g.a).aO=(S.en b k).aO:=by unfold En.h;split<;>rfl
 have U:∀a∈((S.en b k).h g.a).aA,a.b=T:=λa c=>by unfold En.h at c;split at c;obtain d|⟨V,W,_,_,rfl⟩:=sK _ _ a c;have X:a∈(S.en b k).aA:=d;grind;rfl;grind
 refine i.d j u n _ l q s t (λf h a c=>(m f h a c).imp_right λd=>⟨d.1,d.2.1⟩) rfl (λ_ _ _=>rfl) ?_ ?_ ?_;have:=z.c (out':=λa=>(b,e.nb b k,some a)∈l) g.a v (λa c=>(m _ _ a c).imp_right λd=>d.2.2) (λa c=>by rw[E]at c;cases c);refine this.a rfl rfl rfl rfl (λa c=>c) λa c=>?_;obtain d|d:=m _ _ a c;exact d;omega;refine lD.a (r:=S.en b k) (back:=λa=>(b,e.nb b k,some a)∈l) ?_ rfl rfl A G (λa c=>c) λa c=>c;refine {p with ju:=λa c w=>p.ju a ?_ w,jM:=λa c w=>p.jM a ?_ w};obtain d|d:=m _ _ a c;exact d;omega;obtain d|d:=m _ _ a c;exact d;grind;obtain⟨H,K,M⟩:=i.a;refine⟨H,K,λf h x O Q v=>?_⟩;rw[M f h x O Q v];have:(am S.en b k ((S.en b k).h g.a).f (e.nb f h) x).aT=(S.en (e.nb f h) x).aT:=by simp only[am];split;rename_i d;rw[d.1,d.2];exact A;rfl
 rw[this]
end Go.Proofs.YtlfijfodklhplaaGreat.Ghs
