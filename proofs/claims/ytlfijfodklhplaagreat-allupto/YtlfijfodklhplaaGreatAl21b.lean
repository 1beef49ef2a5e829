import Derived.Test.YtlfijfodklhplaaGreatAl21
set_option maxRecDepth 100000
set_option maxHeartbeats 8000000
set_option linter.all false
open Go.RowKit Go.Proofs.Tryz
open Go.Value renaming int->I,slice->L,pointer->P,bool->B
open Go.IntKind renaming i64->J
open Option renaming some->S,none->N
open Bool renaming true->T,false->F
namespace Go.Proofs.YtlfijfodklhplaaGreat
def Ig(b a p z)(a6:cV z b a p)(g l c)(aP:a.cw=g++(a.bu,c)::l)(a7:∀f∈g,f.1≠a.bu)(R:a.cw.length<=1000)(a8:a.bu<=65536):
 Cr 182 #[P (S ⟨b,0,N⟩)] z (.tuple #[mv c,B T]) λa9=>∃ba,cV a9 b {a with cw:=g++l,bu:=a.bu+1} ba/\fR z a9 b p ba:=by
 have aQ:=@af _ a6;have G:=@gA _ _ _ _ a7 R aP a8;have ax(_:=()):a.cw.length=g.length+1+l.length:=by rw[aP];simp;omega
 clear a6 a7 R aP a8;go_enter func182,ntmps182;go_wp2_with fail;obtain⟨ay,az⟩:=ah (z.alloc (.cells #[I J 0,I J 0,I J 0,B F] 76));have ad:aq ay z.heap.size #[I J 0,I J 0,I J 0,B F] 76:=by rw[az];exact aq.e _ _ _
 have bb:ae aa z ay:=by rw[az];exact(ae.a aa z).b _
 rw[<-az];obtain⟨e,aR⟩:=ah z.heap.size;rw[<-aR]at ad|-;have A:=@cf _ _ _ ad bb aR;clear az ad bb aR;go_loopw [4] (λv wr=>∃d:Nat,d<=g.length/\v= .int J d/\ae aa ay wr) λv _=>a.cw.length-(intOf v).toNat;case atStart=>exact⟨0,by omega,rfl,ae.a _ _⟩
 case round=>
  obtain⟨d,bc,rfl,aA⟩:=hrel;have aS:=@af _ aA;have M:=aQ.a (A.2.1.c aA) λ_ _ f=>f;have bd:=@af _ M;have ai:=M.cG.a 4;have aB:=M.cG.a 3;simp[fJ]at aB ai;have aD:=M.cG.b;have be:d<a.cw.length:=by have:=ax;omega
  obtain⟨f,U⟩:∃f,a.cw[d]?=S f:=⟨_,Um be⟩
  obtain⟨q,aj,aT,H,O⟩:=M.r d f U;rw[aT]at ai;have ak:=O 0 _ rfl;have bJ:(d:Int)<a.cw.length:=by omega
  have bK:(d:Int)<1000:=by have:=G.2.1;omega
  by_cases bf:d<g.length
  .as_aux_lemma=>
   have bg:¬f.1=a.bu:=G.1 f (by have n:=U;rw[G.2.2.1,Ux bf]at n;exact Uo n)
   obtain⟨bL,cn⟩:=f;simp only[Vn]at ak bg;have co:¬(bL:Int)=a.bu:=by omega
   clear aA M aT O U bg bc;go_wp2_with fail;go_quiet (fail);go_wp2;exact⟨⟨d+1,by omega,by go_num,aS.drewN _⟩,by simp[intOf];omega⟩
  .as_aux_lemma=>
   have aU:d=g.length:=by omega
   have bM:f=(a.bu,c):=by have n:=U;rw[G.2.2.1,aU,Ut (UF _)]at n;simp at n;exact n.symm
   subst bM;have aE:=O 1 _ rfl;have aF:=O 2 _ rfl;have aG:=O 3 _ rfl;have aH:=O 4 _ rfl;simp only[Vn]at ak aE aF aG aH;have C:=@cf _ _ _ aT H aU;clear aA M O U bf aU bc;go_wp2_with fail;go_quiet (fail);obtain⟨V,aV⟩:=ah (wr.drewN nq);have o:ae aa wr V:=by rw[aV];exact(ae.a aa wr).drewN nq
   rw[<-aV];replace aB:=(o.f b 3 aD λa=>a).trans aB;replace ai:=(o.f b 4 aD λa=>a).trans ai;replace ak:=(o.f q _ H λa=>a).trans ak;replace aE:=(o.f q _ H λa=>a).trans aE;replace aF:=(o.f q _ H λa=>a).trans aF;replace aG:=(o.f q _ H λa=>a).trans aG;replace aH:=(o.f q _ H λa=>a).trans aH;have bN:=Un aD o.size;have cp:=Un H o.size;have al:=@aC _ _ (bd.a o λ_ _ f=>f) (aS.c o);clear aV o aD H;go_upto_region 7 with fail;obtain⟨x,aI⟩:=ah (V.alloc (.cells #[I J c.a,I J c.c,I J c.b,B c.d] 76));have aW:aq x V.heap.size #[I J c.a,I J c.c,I J c.b,B c.d] 76:=by rw[aI];exact aq.e _ _ _
   have aX:ae aa V x:=by rw[aI];exact(ae.a aa V).b _
   rw[<-aI];obtain⟨D,aY⟩:=ah V.heap.size;rw[<-aY]at aW|-;have y:=al.1.a aX λ_ _ f=>f;obtain⟨am,bO⟩:∃am:lz x q aj 283 5 (fB a.cw) p.kc,True:=by obtain⟨an,_⟩|⟨cq,cr,an,bP⟩:=y.nI.2.2;rw[C.1]at an;cases an;rw[C.1]at an;cases an;exact⟨bP,VU⟩
   have aZ:fB a.cw=fB g++(qr (a.bu,c)++fB l):=by rw[G.2.2.1,Bo,uI]
   have m:=@lP _ _ _ _ _ y (al.2.c aX) aW aY am;have bh(_:=()):∀h i,(fB g)[h]?=S i->x.cell? ((⟨q,aj,N⟩:Addr).add h)=S i:=λh i W=>by rw[Va];exact am.a h i (by rw[aZ,Ux (Ul.1 W).1];exact W)
   have bi(_:=()):∀h i,(fB l)[h]?=S i->x.cell? ((⟨q,aj+(d+1)*5,N⟩:Addr).add h)=S i:=λh i W=>by
    rw[Va,UI];refine am.a ((d+1)*5+h) i ?_;have bQ:(fB g).length=d*5:=by rw[Bp,C.2.2]
    rw[aZ,Ut (by omega),bQ,Ut (by rw[sg];omega),sg];rw[show (d+1)*5+h-d*5-5=h by omega];exact W
   have ao:=y.cG.a 3;have X:=y.cG.a 4;simp[fJ]at ao X;rw[C.1]at X;have aJ:=y.cG.d 3;have aK:=y.cG.d 4;have Y:=y.cG.b;have bR:=y.nI.2.1;have bS:(d:Int)<=p.kc:=by omega
   clear aZ bO y am aB ai ak aE aF aG aH bN aI aW aX aY;go_upto_region 8 with (at_builtin;refine Io _ rfl (.tmp 37) (.tmp 43) 148 rfl 283 (.agg #[I J 0,I J 0,I J 0,I J 0,B F]) 5 40 underlying148 Br rfl N 0 0 rfl [] (RV.d _ _ _) (S ⟨q,aj,N⟩) d p.kc rfl (fB g) (by rw[Bp,C.2.2]) (λ_=>⟨_,rfl,bh⟩) (Bq g) (by omega) (by omega) ?_;intro K bj ar a0 bk bl)
   simp only[Ve,VG]at a0;have r:=bl.d λau _ a=>b8 au a;have bm:∀s,ag K s->s=x.heap.size:=λs R=>(bk s R).elim (λa=>(b8 s a).elim) id;replace ao:=(r.f b 3 Y λa=>a).trans ao;replace X:=(r.f b 4 Y λa=>a).trans X;replace aJ:=(r.h b 3 Y λa=>a).trans aJ;replace aK:=(r.h b 4 Y λa=>a).trans aK;have av:=Un Y r.size;have t(_:=()):cV ar b a p/\ae aa ay ar/\aq ar D #[I J c.a,I J c.c,I J c.b,B c.d] 76/\RV ar 283 5 K d bj (fB g)/\(∀s,ag K s->s=x.heap.size)/\(∀h i,(fB l)[h]?=S i->ar.cell? ((⟨q,aj+(d+1)*5,N⟩:Addr).add h)=S i):=
    ⟨m.1.a r λ_ _ f=>f,m.2.1.c r,m.2.2.1.c r λa=>a,a0,bm,λh i W=>by have:=bi () h i W;rw[Va]at this|-;exact(r.f q _ (m.2.2.2.2.b) λa=>a).trans this⟩
   have a1:=@af _ r;clear a0 bk bl r bm Y;by_cases cs:p.kc=d+1;all_goals
    go_upto_region 9 with (at_builtin;refine Io _ rfl (.tmp 46) (.tmp 53) 148 rfl 283 (.agg #[I J 0,I J 0,I J 0,I J 0,B F]) 5 40 underlying148 Br rfl K d bj rfl (fB g) t.2.2.2.1 _ _ _ rfl (fB l) (by rw[Bp];congr 1;have:=ax;have:=C.2.2;omega) (λct=>by first|exact⟨_,rfl,t.2.2.2.2.2⟩|(exfalso;have:=ax;have:=C.2.2;omega)) (Bq l) (by have:=G.2.1;omega) (by have:=G.2.1;omega) ?_;intro j k u bn bo E;have aw:¬ag K b:=(λf=>by have Q:=t.2.2.2.2.1 b f;have n:=m.1.cG.b;omega);have bT:=(E.f b 4 av aw).trans X;have bU:=(E.h b 4 av aw).trans aK;have bV:=(E.f b 3 av aw).trans ao;have bW:=(E.h b 3 av aw).trans aJ)
    have bX:e<x.heap.size:=by have Q:=A.1.b;have n:=m.2.1.size;omega
    have bY:=t.2.2.1.b;have bp:¬ag K D:=λf=>by have Q:=t.2.2.2.2.1 D f;have n:=m.2.2.1.b;omega
    have bq:¬ag K e:=λf=>by have Q:=t.2.2.2.2.1 e f;omega
    have br:=(ae.a aa x).g ((a1.d (ex':=ag K) λ_ _ a=>a.elim).c E) (λau aL f=>by have Q:=t.2.2.2.2.1 au f;omega);have a2:(g++l).length=d+(a.cw.length-(d+1)):=by rw[Uu];have:=ax;have:=C.2.2;omega
    have Z:=m.1.u (w1:=u) (g++l) j k (by rw[a2,Bo];exact bn) (λs R=>Up (by obtain f|f:=bo s R;have:=t.2.2.2.2.1 s f;omega;have:=a1.size;omega)) (br.d λ_ _ a=>a.elim)
    rw[a2]at Z;have a3:=Z.1.s (e':= {a with cw:=g++l,bu:=a.bu+1}) 3 (I J ((a.bu:Int)+1)) (by simp[fJ]) rfl rfl rfl Z.1.i Z.1.j;have ab:=t.2.2.1.c E bp;have w:=(A.1.c t.2.1 λa=>a).c E bq;have aM(_:=()):cV ((u.setCell ⟨b,4,N⟩ (L j (d+(a.cw.length-(d+1))) k)).setCell ⟨b,3,N⟩ (I J ((a.bu:Int)+1))) b {a with cw:=g++l,bu:=a.bu+1} {p with ka:=j,kc:=k}/\fR x ((u.setCell ⟨b,4,N⟩ (L j (d+(a.cw.length-(d+1))) k)).setCell ⟨b,3,N⟩ (I J ((a.bu:Int)+1))) b p {p with ka:=j,kc:=k}:=⟨a3.1,Z.2.a a3.2⟩
    have ad:b<e:=by have Q:=aQ.cG.b;have n:=A.2.2;omega
    have bZ:b<D:=by have Q:=al.1.cG.b;have n:=m.2.2.2.1;omega
    have b0:e<D:=by have Q:=A.1.b;have n:=m.2.2.2.1;have y:=al.2.size;omega
    have bs(_:=()):∀aN:World,ae (ap e) aN ((((aN.setCell ⟨e,0,N⟩ (I J c.a)).setCell ⟨e,1,N⟩ (I J c.c)).setCell ⟨e,2,N⟩ (I J c.b)).setCell ⟨e,3,N⟩ (B c.d)):=λaN=>((((ae.a (ap e) aN).e (p:=⟨e,0,N⟩) (λ_=>rfl) _).e (p:=⟨e,1,N⟩) (λ_=>rfl) _).e (p:=⟨e,2,N⟩) (λ_=>rfl) _).e (p:=⟨e,3,N⟩) (λ_=>rfl) _;have bt:=ab.a 0;have bv:=ab.a 1;have bw:=ab.a 2;have bx:=ab.a 3;have bz:=w.a 0;have bA:=w.a 1;have bB:=w.a 2;have bC:=w.a 3;have b1:=w.d 0;have b2:=w.d 1;have b3:=w.d 2;have b4:=w.d 3;have b5:=ab.b;have b6:=w.b;simp at bt bv bw bx bz bA bB bC;have b7:¬b=D:=by omega
    have b9:¬b=e:=by omega
    have ca:¬D=b:=by omega
    have bD:¬e=b:=by omega
    have cb:¬e=D:=by omega
    have cc:¬D=e:=by omega
    have cd:(a.bu:Int)<=65536:=by have:=G.2.2.2;omega
    have ce:b<u.heap.size:=by have:=E.size;omega
    have bE(_:=()):aq ((((((u.setCell ⟨b,4,N⟩ (L j (d+(a.cw.length-(d+1))) k)).setCell ⟨b,3,N⟩ (I J ((a.bu:Int)+1))).setCell ⟨e,0,N⟩ (I J c.a)).setCell ⟨e,1,N⟩ (I J c.c)).setCell ⟨e,2,N⟩ (I J c.b)).setCell ⟨e,3,N⟩ (B c.d)) e #[I J c.a,I J c.c,I J c.b,B c.d] 76:=by have cg:ae (ap b) u ((u.setCell ⟨b,4,N⟩ (L j (d+(a.cw.length-(d+1))) k)).setCell ⟨b,3,N⟩ (I J ((a.bu:Int)+1))):=((ae.a (ap b) u).e (p:=⟨b,4,N⟩) (λ_=>rfl) _).e (p:=⟨b,3,N⟩) (λ_=>rfl) _;exact((((w.c cg bD).f 0 (I J c.a)).f 1 (I J c.c)).f 2 (I J c.b)).f 3 (B c.d)
    clear bn bo E br Z a3 ab w a2 bp bq aw bY bX ad bZ b0 ao X aJ aK av bS bR bJ bK be;have bF:Unit->aq ((((((u.setCell ⟨b,4,N⟩ (L j (d+(a.cw.length-(d+1))) k)).setCell ⟨b,3,N⟩ (I J ((a.bu:Int)+1))).setCell ⟨e,0,N⟩ (I J c.a)).setCell ⟨e,1,N⟩ (I J c.c)).setCell ⟨e,2,N⟩ (I J c.b)).setCell ⟨e,3,N⟩ (B c.d)) e #[I J c.a,I J c.c,I J c.b,B c.d] 76:=@bE;clear bE;go_wp2;obtain⟨bG,aO⟩:=ah ((((((u.setCell ⟨b,4,N⟩ (L j (d+(a.cw.length-(d+1))) k)).setCell ⟨b,3,N⟩ (I J ((a.bu:Int)+1))).setCell ⟨e,0,N⟩ (I J c.a)).setCell ⟨e,1,N⟩ (I J c.c)).setCell ⟨e,2,N⟩ (I J c.b)).setCell ⟨e,3,N⟩ (B c.d));rw[<-aO];have bH(_:=()):cV bG b {a with cw:=g++l,bu:=a.bu+1} {p with ka:=j,kc:=k}/\fR z bG b p {p with ka:=j,kc:=k}:=by
     have U:=A.2.2;have cu:=A.1.b;have cv:=m.2.1.size;have ch:¬hJ b {p with ka:=j,kc:=k} e:=λf=>by obtain bI|bI:=aM.2.d e f;have:=aQ.b e bI;omega;omega
     have a4:=bs () ((u.setCell ⟨b,4,N⟩ (L j (d+(a.cw.length-(d+1))) k)).setCell ⟨b,3,N⟩ (I J ((a.bu:Int)+1)));rw[<-aO]at a4;refine⟨aM.1.a a4 (λau aL a=>by simp only[ap]at a;rw[a]at aL;exact ch aL),?_⟩;have ci:=A.2.1.c m.2.1;have a5:=(fR.c b p ci).a aM.2;exact⟨a5.e,a5.f,a5.b.g a4 λau aL a=>by simp only[ap]at a;omega⟩
    have ac:=bF ();rw[<-aO]at ac;have cj:=ac.a 0;have ck:=ac.a 1;have cl:=ac.a 2;have cm:=ac.a 3;simp at cj ck cl cm;clear aO ac bF bs aM A m t al a1 C aS bd bt bv bw bx bz bA bB bC b1 b2 b3 b4 b5 b6 b7 b9 ca bD cb cc bT bU bV bW ce cd bh bi;refine UO (v:= .tuple #[mv c,B T]) ?_ rfl ?_
    .rw[Xg rfl];unfold loadVar;go_simp
    exact⟨rfl, {p with ka:=j,kc:=k},bH.1,bH.2⟩
end Go.Proofs.YtlfijfodklhplaaGreat
