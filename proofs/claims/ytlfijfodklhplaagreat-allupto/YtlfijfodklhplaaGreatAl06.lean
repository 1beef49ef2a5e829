import Derived.Test.YtlfijfodklhplaaGreatAl05
import Derived.Deep.DeepCutAuto
import Derived.Deep.CutBlock
import Derived.Deep.RegionHeld3
set_option maxRecDepth 100000
set_option maxHeartbeats 32000000
set_option linter.all false
open Go.RowKit Go.Proofs.Tryz
open Go.Value renaming int->I,slice->L,pointer->P,bool->B
open Go.IntKind renaming i64->J
open Option renaming some->S,none->N
open Bool renaming true->T,false->F
namespace Go.Proofs.YtlfijfodklhplaaGreat
def pv.ald{a b}{c w':World}{d e f g h}(i:pv a b c w'.drew d e f g):pv a b c (w'.alloc h).drew d e f g:=i.b h
def ld.drew{a b c d e}(f:ld a b c d e):ld a.drew b c d e:=f
def Q3(b c d e a):nO b c d e (a*1) 1=b.setCell ⟨c,d+a,N⟩ (e a):=by simp[nO]
def Q4(e b c d a):nO e b c d a 3=((e.setCell ⟨b,c+a,N⟩ (d a)).setCell ⟨b,c+(a+1),N⟩ (d (a+1))).setCell ⟨b,c+(a+2),N⟩ (d (a+2)):=rfl
def Q5(e b c d a):nO e b c d a 4=(((e.setCell ⟨b,c+a,N⟩ (d a)).setCell ⟨b,c+(a+1),N⟩ (d (a+1))).setCell ⟨b,c+(a+2),N⟩ (d (a+2))).setCell ⟨b,c+(a+3),N⟩ (d (a+3)):=rfl
def FC{a b f c z d}(g:a≠0)(e:(qq a b z)[c]?=S d):r9 a b z (f*jA a+c)=d:=by
 have h:=(Ul.1 e).1;have i:(qq a b z).length=jA a:=by unfold qq jA;split<;>simp_all
 unfold r9;rw[Us g,Nat.add_comm,Nat.add_mul_mod_self_right,Nat.mod_eq_of_lt (by omega),List.getD_eq_getElem?_getD,e];rfl
def AZ:Nat->FuncId
 |0=>127
 |1=>123
 |2=>133
 |3=>140
 |4=>145
 |_=>137
def yd:Nat->Int
 |0=>140737488351300
 |1=>5864062014700
 |5=>5864062014700
 |_=>1000
def ye(e)(cZ:e<6)(H j c s E aO d bD bh a7 g)(bi:aq g H a7 73)(bE:a7[e+2]?=some (L aO d bD))(bV:¬ag j H)(bF:lu g aO d bD (qx e) bh λaP=>ag j aP\/aP=H)(ad:RV g (uB e) (jA e) j c s E)(bG:(c:Int)<=yd e)(bW:(d:Int)<1099511627776):
 Cr (AZ e) #[P (some ⟨H,2,N⟩),L j c s] g (.tuple #[]) λl=>Bk e (ag j) g l H d aO bh a7:=by
 obtain⟨bj,bX,Y,Z,ab,ce,cf,cg⟩:∃bj bX,prog.underlying (vX e)=some (.slice (uB e))/\(prog.info? (uB e)).map (λaV=>(aV.zero,aV.size,aV.bytes))=some (some bX,jA e,bj)/\bX.cells.size=jA e/\prog.underlying (64+e)=some (.slice (qx e))/\(prog.info? (qx e)).map (λaV=>(aV.zero,aV.size,aV.bytes))=some (some (L N 0 0),1,24)/\((c+1)*bj<=140737488355328/\(c+2)*bj<=140737488355328/\(c+3)*bj<=140737488355328):=by obtain rfl|rfl|rfl|rfl|rfl|rfl:=(by omega:e=1\/e=2\/e=3\/e=4\/e=5\/e=0)<;>simp only[yd]at bG;exact⟨24,.agg #[I J 0,I J 0,I J 0],by kernel_rfl,by kernel_rfl,rfl,by kernel_rfl,by kernel_rfl,by omega⟩;exact⟨32,.agg #[I J 0,I J 0,I J 0,.bool F],by kernel_rfl,by kernel_rfl,rfl,by kernel_rfl,by kernel_rfl,by omega⟩;exact⟨40,.agg #[I J 0,I J 0,L N 0 0],by kernel_rfl,by kernel_rfl,rfl,by kernel_rfl,by kernel_rfl,by omega⟩;exact⟨8,I J 0,by kernel_rfl,by kernel_rfl,rfl,by kernel_rfl,by kernel_rfl,by omega⟩;exact⟨24,L N 0 0,by kernel_rfl,by kernel_rfl,rfl,by kernel_rfl,by kernel_rfl,by omega⟩;exact⟨1,I .u8 0,by kernel_rfl,by kernel_rfl,rfl,by kernel_rfl,by kernel_rfl,by omega⟩
 have bk:(c:Int)<=140737488351300:=by unfold yd at bG;split at bG<;>omega
 obtain⟨K,bm,a8,bn,i,bH,bI⟩:=Lq g (kM ⟨#[80]⟩ d);have a9(_:=()):∀g,Cr 100 #[I J d] g (.string (kM ⟨#[80]⟩ d)) λl=>g=l:=λg=>(GS d g bW).mono λc0 l b=>⟨b.1,b.2.symm⟩;obtain⟨ba,aA⟩:=ah (r9 e d (rr d g.heap.size K));obtain⟨aB,x⟩:=ah (qq e d (rr d g.heap.size K));have ch:∀r∈aB,r.oneCell'=T:=by rw[x];unfold qq rr;intro r a;split at a<;>simp at a<;>(try obtain rfl|rfl|rfl|rfl:=a)<;>(try obtain rfl|rfl|rfl:=a)<;>(try obtain rfl|rfl:=a)<;>(try subst a)<;>rfl
 have aW(_:=()):e≠0->∀f z aX,aB[z]?=some aX->ba (f*jA e+z)=aX:=λbY f z aX ci=>by rw[aA];rw[x]at ci;exact FC bY ci
 have bb(_:=()):e=0->∀f,ba f=bv (nQ d f):=λbY f=>by rw[aA,r9,UG bY]
 obtain⟨fi,bo⟩:=ah (e+2);obtain⟨p,bp⟩:=ah (uB e);obtain⟨aQ,bc⟩:=ah (jA e);obtain⟨cj,bJ⟩:=ah (vX e);obtain⟨ck,bd⟩:=ah (qx e);obtain⟨c1,bZ⟩:=ah (64+e);rw[<-bo]at bE;rw[<-bp,<-bc]at ad;rw[<-bd]at bF;rw[<-bp,<-bJ]at Y;rw[<-bp,<-bc]at Z;rw[<-bc]at ab aW;rw[<-bZ,<-bd]at ce;rw[<-bd]at cf;obtain⟨bq,cl⟩:=ah λv l=>pv p aQ v l j c s E;obtain⟨br,aD⟩:=ah λv C o S=>xQ p aQ cj v C j c o S;obtain⟨aE,bK⟩:=ah λwc wr S k=>qY p aQ ba wc wr S k;obtain⟨bL,cm⟩:=ah λA bM f=>ld A bM f aQ ba;have M(_:=()):∀ {v l:World},bq v l↔pv p aQ v l j c s E:=@λ_ _=>by rw[cl]
 have ai(_:=()):∀ {v C:World} {o:Nat} {S:List Ls},br v C o S↔xQ p aQ cj v C j c o S:=@λ_ _ _ _=>by rw[aD]
 have ar(_:=()):∀ {wc wr:World} {S:List Ls} {k:Nat},aE wc wr S k↔qY p aQ ba wc wr S k:=@λ_ _ _ _=>by rw[bK]
 have aY(_:=()):∀ {A:World} {bM:Option Addr} {f:Nat},bL A bM f↔ld A bM f aQ ba:=@λ_ _ _=>by rw[cm]
 have cC(_:=()):∀ {v C wr be:World} {o au bN:Nat} {S:List Ls} {b0:Obj},ae aa g v->(∀h aZ,ve e d g.heap.size=some (h,aZ)->g.heap.size<=h/\h<v.heap.size/\fE v h 0 aZ)->br v C o S->aE C wr S 4->dL be au ck 1 (bh++[L (some ⟨o,0,N⟩) 4 4]) bN->(aO=some ⟨au,0,N⟩\/au=(wr.alloc b0).heap.size)->ae (λaP=>aO=some ⟨aP,0,N⟩) (wr.alloc b0) be->Bk e (ag j) g (be.setCell ⟨H,fi,N⟩ (L (some ⟨au,0,N⟩) (d+1) bN)) H d aO bh a7:=@λv C wr be o au bN S b0 a0 cn aF a1 cD cE cF=>by rw[aD]at aF;rw[bK]at a1;have:=Lg (fi:=fi) (EZ aF a1) a0 bi bV ad.b (by omega) bF cD cE cF cn;rw[bJ,bd,bc,aA,bo]at this;rw[bo];exact⟨_,_,this⟩
 have cG(_:=()):∀ {v C wr:World} {o:Nat} {S:List Ls},ae aa g v->br v C o S->aE C wr S 4->aq wr H a7 73/\lu wr aO d bD ck bh (λaP=>aP=H):=@λv C wr o S a0 aF a1=>by rw[aD]at aF;rw[bK]at a1;have co:=(a0.d λ_ _ p=>p.elim).c (EZ aF a1).a;exact⟨bi.c co bV,bF.imp id λ⟨au,av,aw,ax,bO⟩=>⟨au,av,aw.a co λp=>bO (Ur p),ax,λp=>bO (Up p)⟩⟩
 have cp(_:=()):∀wr,aq wr H a7 73->wr.cell? ⟨H,fi,N⟩=some (L aO d bD)/\wr.frozen? ⟨H,fi,N⟩=F/\H<wr.heap.size:=λwr b=>⟨(b.a fi).trans bE,b.d fi,b.b⟩
 have cq:=@af _ bW;have ac:=@af _ bk;have b1:=@af _ ch;have aj:=@af _ cg;have bP:=@af _ ad;have cr:=(bi.a fi).trans bE;have c2:=bi.b;have c3:IntKind.i64.wrap (-7070-(d:Int))= -7070-(d:Int):=by rw[VM];omega
 have bs:=ad.b;obtain⟨t,aH⟩:=ah (g.alloc (.cells aB.toArray p));have ak(_:=()):aq t g.heap.size aB.toArray p:=by rw[aH];exact aq.e _ _ _
 clear bi bF bW bG bV cg ch aD bK cm cl aA bE ad;obtain rfl|rfl|rfl|rfl|rfl|rfl:=(by omega:e=1\/e=2\/e=3\/e=4\/e=5\/e=0)
 all_goals
  simp only[uB,jA,vX,qx,AZ,qq,Nat.reduceAdd]at bp bc bJ bd bo bZ x|-;subst bp bc bJ bd bo bZ
 all_goals first
  |(first|go_enter func123,ntmps123|go_enter func133,ntmps133|go_enter func140,ntmps140
    clear a8 bn i bH bI a9 bb bk
    have a0:ae aa g t:=by rw[aH];exact(ae.a _ g).b _
    have bt:=ak
    have aR:∀al,ag j al->al<t.heap.size:=λal cH=>Un (bs al cH) a0.size
    have cs(_:=()):bq t t:=M.2 ⟨ae.a _ _,by rw[aH];exact bP.c _⟩
    have bu:=@af _ a0
    have bQ(_:=()):¬ag j g.heap.size:=λb=>by have:=bs _ b;omega
    have bw:=bt.a 0
    have bx:=bt.a 1
    have bz:=bt.a 2
    have bA:=bt.a 3
    simp[x]at bw bx bz bA
    obtain⟨h,a2⟩:=ah g.heap.size
    rw[<-a2]at bw bx bz bA ak bQ
    rw[x]at aH
    clear a0 bt
    go_upto_region 1 with fail
    rw[<-aH,<-a2]
    clear aH a2
    have D(_:=()):∀l,bq t l↔(l.cell? ⟨h,0,N⟩=t.cell? ⟨h,0,N⟩/\l.cell? ⟨h,1,N⟩=t.cell? ⟨h,1,N⟩/\l.cell? ⟨h,2,N⟩=t.cell? ⟨h,2,N⟩/\l.cell? ⟨h,3,N⟩=t.cell? ⟨h,3,N⟩/\bq t l):=λl=>⟨λb=>by have aF:=ak.c (M.1 b).c bQ;exact⟨(aF.a _).trans (ak.a _).symm,(aF.a _).trans (ak.a _).symm,(aF.a _).trans (ak.a _).symm,(aF.a _).trans (ak.a _).symm,b⟩,λb=>b.2.2.2.2⟩
    go_cut [5] (λaX C=>∃(S:List Ls)(o:Nat),aX=L (some ⟨o,0,N⟩) 4 4/\br t C o S)
    case first=>
     go_region_held3 (λl=>l.cell? ⟨h,0,N⟩=t.cell? ⟨h,0,N⟩/\l.cell? ⟨h,1,N⟩=t.cell? ⟨h,1,N⟩/\l.cell? ⟨h,2,N⟩=t.cell? ⟨h,2,N⟩/\l.cell? ⟨h,3,N⟩=t.cell? ⟨h,3,N⟩/\bq t l) (first|exact(D () _).1 (M.2 (pv.ald (M.1 ((D () _).2 (by assumption)))))|exact(D () _).1 (M.2 ((M.1 ((D () _).2 (by assumption))).b _))|exact(D () _).1 (M.2 ((M.1 ((D () _).2 (by assumption))).d (by assumption) (by assumption) (by assumption)))|exact(D () _).1 (M.2 (M.1 cs).drew)) ((first|(refine mj rfl (.tmp 16) (.tmp 18) _ rfl _ _ _ _ Y Z ab j c s (by simp[Act.eval,Act.put]) E (M.1 ((D () _).2 (by assumption))).a _ 1 1 (by omega) (by rfl) (aB) (by rw[x];rfl) (At.a (B:=t.heap.size) (by rw[x];repeat (first|exact At.b (by simp) (by (try simp only[Uv]);omega)|exact At.e (by simp) (by first|(have m:=i.size;(try simp only[World.size_alloc,World.size_drew]at m);(try simp only[World.size_alloc,World.size_drew]);omega)|(have m:=i.size;have u:=n.size;(try simp only[World.size_alloc,World.size_drew]at m);(try simp only[World.size_alloc,World.size_drew]at u);(try simp only[World.size_alloc,World.size_drew]);omega))|refine At.ald ?_|refine At.al ?_|refine At.c n aR ?_|refine At.c i aR ?_))) (λr a=>b1 () r (by simpa using a)) aj.1 (by have:=ac;omega) ?_;intro av a3 aI O Q i)|(refine mj rfl (.tmp 20) (.tmp 23) _ rfl _ _ _ _ Y Z ab j c s (by simp[Act.eval,Act.put]) E (M.1 ((D () _).2 (by assumption))).a _ 2 2 (by omega) (by rfl) (aB++aB) (by rw[x];rfl) (At.a (B:=t.heap.size) (by rw[x];repeat (first|exact At.b (by simp) (by (try simp only[Uv]);omega)|exact At.e (by simp) (by first|(have m:=i.size;(try simp only[Uv,UR]at m);(try simp only[Uv,UR]);omega)|(have m:=i.size;have u:=n.size;(try simp only[World.size_alloc,World.size_drew]at m);(try simp only[World.size_alloc,World.size_drew]at u);(try simp only[World.size_alloc,World.size_drew]);omega))|refine At.ald ?_|refine At.al ?_|refine At.c n aR ?_|refine At.c i aR ?_))) (λr a=>b1 () r (by simpa using a)) aj.2.1 (by have:=ac;omega) ?_;intro aw a4 aJ R U n)|(refine mj rfl (.tmp 25) (.tmp 29) _ rfl _ _ _ _ Y Z ab j c s (by simp[Act.eval,Act.put]) E (M.1 ((D () _).2 (by assumption))).a _ 3 3 (by omega) (by rfl) (aB++aB++aB) (by rw[x];rfl) (At.a (B:=t.heap.size) (by rw[x];repeat (first|exact At.b (by simp) (by (try simp only[Uv]);omega)|exact At.e (by simp) (by first|(have m:=i.size;(try simp only[Uv,UR]at m);(try simp only[Uv,UR]);omega)|(have m:=i.size;have u:=n.size;(try simp only[Uv,UR]at m);(try simp only[Uv,UR]at u);(try simp only[Uv,UR]);omega))|refine At.ald ?_|refine At.al ?_|refine At.c n aR ?_|refine At.c i aR ?_))) (λr a=>b1 () r (by simpa using a)) aj.2.2 (by have:=ac;omega) ?_;intro ax a5 a6 V W w)));all_goals
      have m:=i.size;have u:=n.size;have X:=w.size;have q:=@af _ (ai.2 (yL (M.1 ((D () _).2 (by assumption))) aR (by (try simp only[Uv,UR]at m);(try simp only[Uv,UR]at u);(try simp only[Uv,UR]at X);(try simp only[Uv,UR]);omega) O (Q.imp id λ⟨b,_⟩=>⟨_,b,by (try simp only[Uv,UR]at m);(try simp only[Uv,UR]at u);(try simp only[Uv,UR]at X);(try simp only[Uv,UR]);omega⟩) (by first|exact n|exact n.al|exact n.al.al) R (U.imp id λ⟨b,_⟩=>⟨_,b,by (try simp only[Uv,UR]at m);(try simp only[Uv,UR]at u);(try simp only[Uv,UR]at X);(try simp only[Uv,UR]);omega⟩) (by first|exact w|exact w.al) V (W.imp id λ⟨b,_⟩=>⟨_,b,by (try simp only[Uv,UR]at m);(try simp only[Uv,UR]at u);(try simp only[Uv,UR]at X);(try simp only[Uv,UR]);omega⟩)));clear O R V i n w Q U W m u X;go_wp2_with fail;go_meet;case rel=>exact⟨_,_,rfl,q⟩
    obtain⟨S,o,rfl,aD⟩:=hcut
    have q:=@af _ aD
    clear aD bw bx bz bA aR D cs)
  |(go_enter func145,ntmps145
    clear a8 bn i bH bI a9 bb aH bk ak
    have bu(_:=()):ae aa g g:=ae.a _ _
    have am:=bP
    have aS:=bs
    go_upto_region 1 with fail
    go_cut [5] (λaX C=>∃(S:List Ls)(o:Nat),aX=L (some ⟨o,0,N⟩) 4 4/\br g C o S)
    case first=>
     go_wp2_with (first|(at_builtin;refine jX _ rfl _ _ _ rfl _ _ _ _ Y Z ab j c s rfl E (am.c _) ⟨g.heap.size,0,N⟩ 1 1 (by omega) rfl [I J (-7070-(d:Int))] rfl (gJ g [I J (-7070-(d:Int))] _ _ rfl) (by intro r a;simp at a;(try obtain rfl|rfl|rfl:=a);all_goals (try subst a);all_goals rfl) aj.1 (by have:=ac;omega) ?_;intro av a3 aI O Q i;have ay:=pH (am.c _) O Q)|(at_builtin;refine jX _ rfl _ _ _ rfl _ _ _ _ Y Z ab j c s rfl E (ay.c _) ⟨aI.heap.size,0,N⟩ 2 2 (by omega) rfl [I J (-7070-(d:Int)),I J (-7070-(d:Int))] rfl (gJ aI [I J (-7070-(d:Int)),I J (-7070-(d:Int))] _ _ rfl) (by intro r a;simp at a;(try obtain rfl|rfl|rfl:=a);all_goals (try subst a);all_goals rfl) aj.2.1 (by have:=ac;omega) ?_;intro aw a4 aJ R U n;have az:=pH (ay.c _) R U)|(at_builtin;refine jX _ rfl _ _ _ rfl _ _ _ _ Y Z ab j c s rfl E (az.c _) ⟨aJ.heap.size,0,N⟩ 3 3 (by omega) rfl [I J (-7070-(d:Int)),I J (-7070-(d:Int)),I J (-7070-(d:Int))] rfl (gJ aJ [I J (-7070-(d:Int)),I J (-7070-(d:Int)),I J (-7070-(d:Int))] _ _ rfl) (by intro r a;simp at a;(try obtain rfl|rfl|rfl:=a);all_goals (try subst a);all_goals rfl) aj.2.2 (by have:=ac;omega) ?_;intro ax a5 a6 V W w;have aT:=pH (az.c _) V W));have m:=i.size;have u:=n.size;have X:=w.size;simp only[Uv]at m u X;have q:=@af _ (ai.2 (yL (pv.b ⟨(i.al.c n.al).c w.al,aT⟩ _) aS (by omega) O (Q.imp id λ⟨b,_⟩=>⟨_,b,by simp⟩) n.al R (U.imp id λ⟨b,_⟩=>⟨_,b,by simp only[Uv];omega⟩) w.al V (W.imp id λ⟨b,_⟩=>⟨_,b,by simp only[Uv];omega⟩)));clear O R V i n w Q U W m u X am ay az aT;go_meet;case rel=>exact⟨_,_,rfl,q⟩
    obtain⟨S,o,rfl,aD⟩:=hcut
    have q:=@af _ aD
    clear aD am aS)
  |(clear bb aH bk ak
    obtain⟨h,a2⟩:=ah g.heap.size
    obtain⟨an,b2⟩:=ah ((bl (kM ⟨#[80]⟩ d)).length)
    have bu:=@af _ i
    have b3(_:=()):∀aK aZ,ve 5 d g.heap.size=some (aK,aZ)->g.heap.size<=aK/\aK<bm.heap.size/\fE bm aK 0 aZ:=λaK aZ b=>by simp only[ve,VR,VO,VT]at b;obtain⟨rfl,rfl⟩:=b;exact⟨UF _,by omega,bn⟩
    have am:=bP.a i λ_ _ aU=>aU
    have aS:∀al,ag j al->al<bm.heap.size:=λal b=>by have:=bs al b;omega
    rw[rr,<-a2,<-b2]at x
    rw[<-a2,<-b2]at a8
    obtain⟨c4,ct⟩:=ah (kM ⟨#[80]⟩ d)
    rw[<-ct]at a8 a9
    clear bn i bI a2 b2 ct bH
    go_enter func137,ntmps137
    go_wp2_with fail
    refine(a9 () _).mono ?_
    rintro p l ⟨rfl,rfl⟩
    clear a9 cr
    go_wp2_with (first|(at_builtin;refine jX _ rfl _ _ _ rfl _ _ _ _ Y Z ab j c s rfl E (am.c _) ⟨bm.heap.size,0,N⟩ 1 1 (by omega) rfl [L (some ⟨h,0,N⟩) an K] rfl (gJ bm [L (some ⟨h,0,N⟩) an K] _ _ rfl) (by intro r a;simp at a;(try obtain rfl|rfl|rfl:=a);all_goals (try subst a);all_goals rfl) aj.1 (by have:=ac;omega) ?_;intro av a3 aI O Q i;have ay:=pH (am.c _) O Q)|(at_builtin;refine jX _ rfl _ _ _ rfl _ _ _ _ Y Z ab j c s rfl E (ay.c _) ⟨aI.heap.size,0,N⟩ 2 2 (by omega) rfl [L (some ⟨h,0,N⟩) an K,L (some ⟨h,0,N⟩) an K] rfl (gJ aI [L (some ⟨h,0,N⟩) an K,L (some ⟨h,0,N⟩) an K] _ _ rfl) (by intro r a;simp at a;(try obtain rfl|rfl|rfl:=a);all_goals (try subst a);all_goals rfl) aj.2.1 (by have:=ac;omega) ?_;intro aw a4 aJ R U n;have az:=pH (ay.c _) R U)|(at_builtin;refine jX _ rfl _ _ _ rfl _ _ _ _ Y Z ab j c s rfl E (az.c _) ⟨aJ.heap.size,0,N⟩ 3 3 (by omega) rfl [L (some ⟨h,0,N⟩) an K,L (some ⟨h,0,N⟩) an K,L (some ⟨h,0,N⟩) an K] rfl (gJ aJ [L (some ⟨h,0,N⟩) an K,L (some ⟨h,0,N⟩) an K,L (some ⟨h,0,N⟩) an K] _ _ rfl) (by intro r a;simp at a;(try obtain rfl|rfl|rfl:=a);all_goals (try subst a);all_goals rfl) aj.2.2 (by have:=ac;omega) ?_;intro ax a5 a6 V W w;have aT:=pH (az.c _) V W))
    have m:=i.size
    have u:=n.size
    have X:=w.size
    simp only[Uv]at m u X
    have q:=@af _ (ai.2 (yL (pv.b ⟨(i.al.c n.al).c w.al,aT⟩ _) aS (by omega) O (Q.imp id λ⟨b,_⟩=>⟨_,b,by simp⟩) n.al R (U.imp id λ⟨b,_⟩=>⟨_,b,by simp only[Uv];omega⟩) w.al V (W.imp id λ⟨b,_⟩=>⟨_,b,by simp only[Uv];omega⟩)))
    clear O R V i n w Q U W m u X am ay az aT
    obtain⟨S,bB⟩:∃S:List Ls,S=[⟨j,c,s⟩,⟨av,c+1,a3⟩,⟨aw,c+2,a4⟩,⟨ax,c+3,a5⟩]:=⟨_,rfl⟩
    rw[<-bB]at q
    generalize b4:a6.alloc (.cells #[L j c s,L av (c+1) a3,L aw (c+2) a4,L ax (c+3) a5] 105)=wc at q|-
    generalize b5:a6.heap.size=o at q|-
    clear b4 b5 bB aS
    clear a8)
  |(clear a8 bn i bH bI a9 aW aH ak
    have bu(_:=()):ae aa g g:=ae.a _ _
    have am:=bP
    have aS:=bs
    have bR:(d:Int)<4611686018427387904:=by have:=cq;omega
    go_enter func127,ntmps127
    go_wp2_with fail
    refine(wI d c bR (by omega) _).mono ?_
    rintro p l ⟨rfl,rfl⟩
    go_wp2_with fail
    refine(wI d (c+1) bR (by omega) _).mono ?_
    rintro p l ⟨rfl,rfl⟩
    go_wp2_with fail
    refine(wI d (c+2) bR (by omega) _).mono ?_
    rintro p l ⟨rfl,rfl⟩
    generalize nQ d c=aU
    generalize nQ d (c+1)=y
    generalize nQ d (c+2)=aK
    go_wp2_with (first|(at_builtin;refine jX _ rfl _ _ _ rfl _ _ _ _ Y Z ab j c s rfl E (am.c _) ⟨g.heap.size,0,N⟩ 1 1 (by omega) rfl [I .u8 ((aU:Nat):Int)] rfl (gJ g [I .u8 ((aU:Nat):Int)] _ _ rfl) (by intro r a;simp at a;(try obtain rfl|rfl|rfl:=a);all_goals (try subst a);all_goals rfl) aj.1 (by have:=ac;omega) ?_;intro av a3 aI O Q i;have ay:=pH (am.c _) O Q)|(at_builtin;refine jX _ rfl _ _ _ rfl _ _ _ _ Y Z ab j c s rfl E (ay.c _) ⟨aI.heap.size,0,N⟩ 2 2 (by omega) rfl [I .u8 ((aU:Nat):Int),I .u8 ((y:Nat):Int)] rfl (gJ aI [I .u8 ((aU:Nat):Int),I .u8 ((y:Nat):Int)] _ _ rfl) (by intro r a;simp at a;(try obtain rfl|rfl|rfl:=a);all_goals (try subst a);all_goals rfl) aj.2.1 (by have:=ac;omega) ?_;intro aw a4 aJ R U n;have az:=pH (ay.c _) R U)|(at_builtin;refine jX _ rfl _ _ _ rfl _ _ _ _ Y Z ab j c s rfl E (az.c _) ⟨aJ.heap.size,0,N⟩ 3 3 (by omega) rfl [I .u8 ((aU:Nat):Int),I .u8 ((y:Nat):Int),I .u8 ((aK:Nat):Int)] rfl (gJ aJ [I .u8 ((aU:Nat):Int),I .u8 ((y:Nat):Int),I .u8 ((aK:Nat):Int)] _ _ rfl) (by intro r a;simp at a;(try obtain rfl|rfl|rfl:=a);all_goals (try subst a);all_goals rfl) aj.2.2 (by have:=ac;omega) ?_;intro ax a5 a6 V W w;have aT:=pH (az.c _) V W))
    have m:=i.size
    have u:=n.size
    have X:=w.size
    simp only[Uv]at m u X
    have q:=@af _ (ai.2 (yL (pv.b ⟨(i.al.c n.al).c w.al,aT⟩ _) aS (by omega) O (Q.imp id λ⟨b,_⟩=>⟨_,b,by simp⟩) n.al R (U.imp id λ⟨b,_⟩=>⟨_,b,by simp only[Uv];omega⟩) w.al V (W.imp id λ⟨b,_⟩=>⟨_,b,by simp only[Uv];omega⟩)))
    clear O R V i n w Q U W m u X am ay az aT
    obtain⟨S,bB⟩:∃S:List Ls,S=[⟨j,c,s⟩,⟨av,c+1,a3⟩,⟨aw,c+2,a4⟩,⟨ax,c+3,a5⟩]:=⟨_,rfl⟩
    rw[<-bB]at q
    generalize b4:a6.alloc (.cells #[L j c s,L av (c+1) a3,L aw (c+2) a4,L ax (c+3) a5] 56)=wc at q|-
    generalize b5:a6.heap.size=o at q|-
    clear b4 b5 bB aS
    clear bk cr)
 all_goals
  have cu:=@af _ ((ar () (wc:=wc) (wr:=wc) (S:=S) (k:=0)).2 ⟨ae.a _ _,(ai.1 q).h,λz aG cv=>by omega⟩);have cI(_:=()):∀aG∈S,(aG.n:Int)<=140737488351303:=λaG bf=>by have:=(ai.1 q).f aG bf;have:=ac;omega
  try go_wp2_with fail
  first|(have:=@bb;go_loopw [10] (λz wr=>∃k:Nat,k<=4/\z= .int J k/\aE wc wr S k) λz _=>4-(intOf z).toNat)|(have:=@b3;go_loopw [7] (λz wr=>∃k:Nat,k<=4/\z= .int J k/\aE wc wr S k) λz _=>4-(intOf z).toNat)|go_loopw [6] (λz wr=>∃k:Nat,k<=4/\z= .int J k/\aE wc wr S k) λz _=>4-(intOf z).toNat
  case atStart=>exact⟨0,by omega,rfl,cu⟩
  case round=>
   obtain⟨k,c5,rfl,G⟩:=hrel;clear cu;by_cases bS:k<4
   .obtain⟨aG,bf⟩:∃aG,S[k]?=some aG:=⟨S[k]'(by rw[(ai.1 q).a];exact bS),Um _⟩
    have b6:=Uo bf;have D(_:=()):∀A,aE wc A S k->A.cell? ⟨o,k,N⟩=some aG.d/\o<A.heap.size:=λA cJ=>by have ad:=(ai.1 q).c.c (ar.1 cJ).a λ⟨r,a,ad⟩=>(ai.1 q).e r a _ ad rfl;have:=ad.a k;rw[UN,Uz,bf]at this;exact⟨this,ad.b⟩
    have c6:(k:Int)<4:=by omega
    obtain⟨b7,cw⟩:=D () wr G;have cK:=cI () aG b6;have b8:=@aC _ _ bf b6;have bT:=@af _ G;obtain⟨b9,aL,c7⟩:=aG;simp only[Ls.d]at b7 D cK;clear G bf b6;go_wp2_with fail;first|(have:=@bb;go_loopw [11] (λao A=>∃f:Nat,f<=aL/\ao= .int J f/\aE wc A S k/\bL A b9 f) λao _=>aL-(intOf ao).toNat)|(have:=@b3;go_loopw [8] (λao A=>∃f:Nat,f<=aL/\ao= .int J f/\aE wc A S k/\bL A b9 f) λao _=>aL-(intOf ao).toNat)|go_loopw [7] (λao A=>∃f:Nat,f<=aL/\ao= .int J f/\aE wc A S k/\bL A b9 f) λao _=>aL-(intOf ao).toNat
    case atStart=>exact⟨0,by omega,rfl,bT,aY.2 λal cx _ ao c8=>by omega⟩
    case round=>
     obtain⟨f,cn,rfl,G,aA⟩:=hrel;clear b7 bT cw;obtain⟨b7,cw⟩:=D () wr G;by_cases cL:f<aL
     .obtain⟨al,cx,cy,c9,a⟩:=((ar.1 G).b _ b8.2).b cL;simp only at cy;subst cy;obtain⟨⟨da,cz⟩,cA⟩:=a 0 (by omega);have aM:=(ar.1 G).e al cx f ⟨_,b8.2,rfl⟩ (ai.1 q).i;have aN:=(aY.1 aA).d λz cv=>(a z cv).1;have db:(f:Int)<aL:=by omega
      first
      |(rw[Q3]at aM aN
        rw[Vn,Xb]at cz cA
        first|(have ap:=bb () VU f;unfold bv at ap;rw[ap]at aM aN;clear ap)|(have ap:=aW () (by omega) f 0 _ (by rw[x];rfl);rw[Xb,Vn]at ap;rw[ap]at aM aN;clear ap)
        have bg:=@af _ (ar.2 aM)
        have bU:=@af _ (aY.2 aN)
        clear G aA aM aN a
        first
        |(have cM:(f:Int)<4611686018427387904:=by omega
          go_wp2_with fail
          go_region_with (go_at_call 47;refine(wI d f bR cM _).mono ?_;rintro p l ⟨rfl,rfl⟩)
          all_goals
           go_wp2;go_roundw;case rel=>exact⟨f+1,by omega,by go_num,ar.2 (ar.1 bg).drew,aY.2 (ld.drew (aY.1 bU))⟩
           case measure=>simp[intOf];omega)
        |(go_wp2
          go_roundw
          case rel=>exact⟨f+1,by omega,by go_num,bg,bU⟩
          case measure=>simp[intOf];omega))
      |(have bC:=(ak.c (ai.1 q).d bQ).c (ar.1 G).a (λ⟨r,a,ad⟩=>by obtain b|b:=(ai.1 q).b r a _ ad;exact bQ () b;have:=ak.b;omega)
        have bw:=bC.a 0
        have bx:=bC.a 1
        have bz:=bC.a 2
        have bA:=bC.a 3
        simp[x]at bw bx bz bA
        obtain⟨⟨dc,cN⟩,cO⟩:=a 1 (by omega)
        obtain⟨⟨dd,cP⟩,cQ⟩:=a 2 (by omega)
        have ap:=aW () (by omega) f 0 _ (by rw[x];rfl)
        have ca:=aW () (by omega) f 1 _ (by rw[x];rfl)
        have cb:=aW () (by omega) f 2 _ (by rw[x];rfl)
        rw[Vn]at cz cA ap
        rw[<-UI]at cN cP cO cQ
        try (have cR:=a 3 (Nat.lt_succ_self 3);obtain⟨⟨de,cS⟩,cT⟩:=cR;rw[<-UI]at cS cT)
        first|rw[Q4,ap,ca,cb,<-UI,<-UI]at aM aN|rw[Q5,ap,ca,cb,aW () (by omega) f 3 _ (by rw[x];rfl),<-UI,<-UI,<-UI]at aM aN
        have bg:=@af _ (ar.2 aM.drew)
        have bU:=@af _ (aY.2 (ld.drew aN))
        clear G aA aM aN bC a ap ca cb
        go_wp2_with fail
        go_still_tail 7,(by kernel_rfl)
        go_wp2
        go_roundw
        case rel=>exact⟨f+1,by omega,by go_num,bg,bU⟩
        case measure=>simp[intOf];omega)
     .have cU:f=aL:=by omega
      subst cU;have bg:=@af _ (ar.2 ((ar.1 G).d _ b8.1 (aY.1 aA)));clear G aA;go_wp2;go_roundw;case rel=>exact⟨k+1,by omega,by go_num,bg⟩
      case measure=>simp[intOf];omega
   .have cV:k=4:=by omega
    subst cV;obtain⟨cc,cB⟩:=cG () bu q G;obtain⟨df,dg,dh⟩:=cp () wr cc;have cW:=cq;have bT:=@af _ G;have cd:=@aC _ _ cc cB;clear G cc cB;go_wp2_with (at_builtin;refine TY _ rfl _ _ _ rfl _ ce cf rfl (out:=λaP=>aP=H) (cd.2.imp id λ⟨au,av,aw,ax,bO⟩=>⟨au,av,aw.d _,ax,bO⟩) ⟨wr.heap.size,0,N⟩ (L (some ⟨o,0,N⟩) 4 4) rfl (aq.a (aq.e wr #[L (some ⟨o,0,N⟩) 4 4] _) 0) rfl cW ?_;intro au bN be cX cY bS;obtain⟨di,dj,dk⟩:=cp () be ((cd.1.g _).c bS λp=>by obtain⟨b,_⟩|⟨au,b,_,_,a1⟩:=cd.2;rw[b]at p;cases p;rw[b]at p;cases p;exact a1 rfl));go_end0;exact⟨rfl,cC () bu (by first|exact b3|(intro aK aZ b;simp[ve]at b)) q bT cX cY bS⟩
end Go.Proofs.YtlfijfodklhplaaGreat
