import Derived.Test.YtlfijfodklhplaaGreatAl17
set_option linter.all false
open Go.RowKit Go.Proofs.Tryz
open Option renaming some->S,none->N
open Bool renaming true->T,false->F
namespace Go.Proofs.YtlfijfodklhplaaGreat.Ghs
open bV
def gX(d:Nat->Nat->List bV)(f:Nat->Nat->Nat)(e b:Nat)(g:List bV)(h:bV):Nat->Nat->List bV:=
 λc a=>if c=e/\a=b then g else if c=b/\a≠e/\f b a=1 then d b a++[h]else d c a
def xx(c){d se f g h i e}(j:d f g=h++e::i)(k:c e=F):(λa b=>(gX d se f g (h++i) e a b).filter c)=λa b=>(d a b).filter c:=by funext a b;simp only[gX];split;grind;split;grind;rfl
def IU{d g h}(e):∀b c,sI b e c->c.1<d->sI b (e++[(d,g,h)]) (d,g):=by
 induction e with
 |nil=>intro b c a f;simp only[sI]at a;subst a;exact⟨f,rfl⟩
 |cons i k j=>
  obtain⟨l,m,n⟩:=i;intro b c a f;exact⟨a.1,j _ _ a.2 f⟩
def DL{c d e}{f g:bV}(j:c++[f]=d++g::e):(c=d/\e=[]/\f=g)\/∃i,c=d++g::i/\e=i++[f]:=by
 obtain⟨h,b,a⟩|⟨h,b,a⟩:=Wq.1 j;cases h with
 |nil=>simp at b a;exact Ur ⟨b.symm,a.2,a.1⟩
 |cons k l=>simp at a
 cases h with
 |nil=>simp at b a;exact Ur ⟨b,a.2,a.1.symm⟩
 |cons k l=>
  grind
def IY{al f y am}(a1:cL al f y am){j c k n m u v}(X:f.q j c=u++aL k n m::v)(a2:ci u=[])(bf:∀k,bG k∉u)(bg:∀Q,bH Q∉u)(c')(bh:(m=F/\c'=0)\/(m=T/\∃an:List Nat,an.Nodup/\an.length=c'/\∀e,e∈an↔(e≠j/\f.se c e=1))):
 f.cg c=F/\f.bE c<k/\cL al {f with bE:=aj f.bE c k,eU:=aj f.eU c n,j6:=aj f.j6 c (S j),j5:=aj f.j5 c N,bw:=aj f.bw c 1001,cg:=aj f.cg c m,ip:=aj f.ip c c',q:=gX f.q f.se j c (u++v) (aL k n m)} y {am with tg:=λe=>(e=c/\m=T)\/am.tg e}:=by
 have bF:=vx a1;obtain⟨av,i,s,aa,ah,aw⟩:=a1;have ao:aL k n m∈kS f.q j c:=by simp only[kS,X];simp[eF]
 have a3:=rL.2 ao;obtain⟨x,bI,bi⟩:=i.f j c k n m ao;have aF:=i.a c j x;have aG:=(i.e c j (by unfold ji at aF;omega)).1;have aH:=(i.e c j (by unfold ji at aF;omega)).2;have a4:j≠c:=by rintro rfl;exact al.jN _ aG
 have ai:f.bE c≠y.bB c:=λg=>i.O g ao;have af:f.cg c=F:=by
  cases g:f.cg c
  .rfl
  .exact(ai (s.a c g).2.1).elim
 obtain⟨bJ,bK⟩:=aa.a c af;have aI:kS f.q j c=u.filter (λp=>dA p||eF p)++aL k n m::v.filter (λp=>dA p||eF p):=by simp only[kS,X,U2,Vr,eF,Bool.or_true,VR]
 have aJ:ci (kS f.q j c)=(k,n,m)::ci v:=by rw[aI,nC,pV _ (by intros;rfl) u,a2];simp only[ci,VG];rw[pV _ (by intros;rfl) v]
 have a5:∀l,bG l∉kS f.q j c:=λl d=>by
  rw[aI]at d;obtain d|d:=UP.1 d
  .exact bf l (Vw.1 d).1
  .simp only[UZ]at d;obtain d|d:=d
   .cases d
   .exact i.K j c _ _ k n m aI l d
 have ag:(bY y j c/\f.bE c<k/\sI (k,n) (ci v) (f.bE j,f.eU j))\/(eV y j c/\f.bE c+1=y.bB c/\k=y.bB c/\n=y.j4 c/\m=T/\ci v=[]/\∀l,bG l∉kS f.q c j):=by
  by_cases g:y.bQ j=S c
  .right;have:=i.h j c ⟨g,x⟩;rw[aJ]at this;refine⟨⟨g,x⟩,?_⟩;obtain G|G|G:=this.2.2
   .cases G.2.1
   .have h:=G.2.1;simp only[XL,VT]at h;exact⟨G.1,h.1.1,h.1.2.1,h.1.2.2,h.2,G.2.2⟩
   .cases G.2.1
  .left;have h:=(i.y j c ⟨x,g⟩).2;rw[aJ]at h;exact⟨⟨x,g⟩,h.1,h.2⟩
 have a6:f.bE c<k:=by obtain h|h:=ag<;>omega
 refine⟨af,a6,?_⟩;have bj:=(i.b c j aF).1;have bL:=i.c c j bj;have a7:∀e,e≠j->f.se c e=1->bY y c e:=λe C a8=>by
  have ap:f.se e c=1:=by apply UC;intro g;have:=(i.m c e ⟨a8,g⟩).2.1;rw[x]at this;cases this
  have:=(i.b c e ⟨a8,ap⟩).2;unfold bY;rw[x]at this|-;grind
 have aK:∀e,bY y c e->e≠j/\f.se c e=1:=λe o=>by have:=i.a e c o.1;refine⟨?_,this.2⟩;rintro rfl;exact o.2 x
 have bk:∀e,bY y c e->f.bE e≠y.bB e:=λe o g=>ai (i.Q o g).2;have ax:∀e,bY y c e->y.fr c e:=λe o=>i.g _ _ (i.b e c (i.a e c o.1)).1;have aq:∀b a,ci (kS (gX f.q f.se j c (u++v) (aL k n m)) b a)=if b=j/\a=c then ci v else if b=c/\a≠j/\f.se c a=1 then ci (kS f.q c a)++[(k,n,m)]else ci (kS f.q b a):=by
  intro b a;simp only[kS,gX];rw[pV _ (by intros;rfl)];split
  .rw[nC,a2];rfl
  .split
   .rw[nC,pV _ (by intros;rfl)];rfl
   .rw[pV _ (by intros;rfl)]
 have aM:∀b a l r z,aL l r z∈kS (gX f.q f.se j c (u++v) (aL k n m)) b a->aL l r z∈kS f.q b a\/(b=c/\bY y c a/\l=k/\r=n/\z=m):=by
  intro b a l r z d;rw[<-jE,aq]at d;split at d
  .rename_i g;left;rw[g.1,g.2,<-jE,aJ];simp[d]
  .split at d
   .rename_i g;obtain d|d:=UP.1 d
    .left;rw[g.1];exact(jE _).1 d
    .right;simp only[UY,VT]at d;exact⟨g.1,a7 a g.2.1 g.2.2,d.1,d.2.1,d.2.2⟩
   .left;exact(jE _).1 d
 have a9:∀b a,(kS (gX f.q f.se j c (u++v) (aL k n m)) b a).filter dA=(kS f.q b a).filter dA:=by
  intro b a;have:=congrFun (congrFun (xx dA (se:=f.se) X rfl) b) a;simp only[kS,List.filter_filter]at this|-;have R:∀K:List bV,K.filter (λb=>dA b&&(dA b||eF b))=K.filter dA:=λK=>by congr 1;funext p;cases p<;>rfl
  rw[R,R];exact this
 have ay:∀b a l,bG l∈kS (gX f.q f.se j c (u++v) (aL k n m)) b a↔bG l∈kS f.q b a:=by
  intro b a l;have:=a9 b a;constructor
  .intro d;have ap:bG l∈(kS f.q b a).filter dA:=by rw[<-this];exact Vw.2 ⟨d,rfl⟩
   exact(Vw.1 ap).1
  .intro d;have ap:bG l∈(kS (gX f.q f.se j c (u++v) (aL k n m)) b a).filter dA:=by rw[this];exact Vw.2 ⟨d,rfl⟩
   exact(Vw.1 ap).1
 have bl:kT (gX f.q f.se j c (u++v) (aL k n m))=kT f.q:=xx (λp=>cC p||dm p) X rfl;have ba:kX (gX f.q f.se j c (u++v) (aL k n m))=kX f.q:=xx jO X rfl;have az:∀e,f.bE e<=aj f.bE c k e:=λe=>by simp only[aj];split;(rename_i g;subst g;omega);exact UF _
 refine⟨?_,?_,?_,?_,?_,?_⟩
 .intro b a p d;simp only[gX]at d;have h:=av b a p;split at d
  .rename_i g;rw[g.1,g.2];exact⟨al.iK _ _ aG,(av j c (aL k n m) (by rw[X];simp)).2⟩
  .split at d
   .rename_i g;rw[g.1];exact⟨(i.e c a (by omega)).1,aH⟩
   .exact h d
 .dsimp only;refine⟨?_,i.e,?_,i.d,i.g,i.q,i.c,i.j,?_,?_,i.D,i.E,i.b,i.a,?_,?_,?_,?_,i.s,?_,?_,i.r,i.i,i.G,?_,?_,i.M,i.u,i.x,i.H,?_⟩
  .intro b a p d;simp only[kS,gX]at d;have d:=(Vw.1 d).1;have h:=av b a p;split at d
   .rename_i g;rw[g.1,g.2];exact⟨al.iK _ _ aG,(av j c (aL k n m) (by rw[X];simp)).2⟩
   .split at d
    .rename_i g;rw[g.1];exact⟨(i.e c a (by omega)).1,aH⟩
    .exact h d
  .intro e C;have:e≠c:=by rintro rfl;rw[aH]at C;cases C
   simp only[aj,Us this];exact i.o e C
  .intro e;simp only[aj];have:=i.n e;grind
  .intro e;simp only[aj];have:=i.v e;grind
  .intro b a bm;have h:=i.m b a bm;have:b≠c:=by rintro rfl;rw[x]at h;grind
   refine⟨h.1,h.2.1,h.2.2.1,(ay b a _).2 h.2.2.2.1,h.2.2.2.2.1,UM h.2.2.2.2.2.1 (az a),?_⟩;simp only[aj,Us this];exact h.2.2.2.2.2.2
  .intro b a l d;rw[ay]at d;have h:=i.l b a l d;refine⟨h.1,λg=>?_,h.2.2⟩;have G:=h.2.1 g;have bn:b≠c:=by
    rintro rfl;have bo:a=j:=by have:=G.1.1;rw[x]at this;cases this;rfl
    subst bo;obtain t|t:=ag
    .exact t.1.2 G.1.2
    .exact t.2.2.2.2.2.2 l d
   have aN:a≠c:=by
    rintro rfl;have Y:b=j:=by have:=G.1.2;rw[x]at this;cases this;rfl
    subst Y;exact a5 l d
   simp only[aj,Us bn,Us aN];exact G
  .intro b a;have R:∀K:List bV,K.countP dA=(K.filter dA).length:=λK=>by rw[Wi]
   rw[R,a9,<-R];exact i.p b a
  .intro b a O;have h:=i.h b a O;refine⟨h.1,h.2.1,?_⟩;rw[aq];simp only[ay];by_cases g:b=j/\a=c
   .obtain⟨rfl,rfl⟩:=g;obtain t|t:=ag
    .exact(t.1.2 O.1).elim
    .left;rw[UG ⟨rfl,rfl⟩];simp only[aj,VR];exact⟨t.2.2.1,t.2.2.2.2.2.1,t.2.2.2.2.2.2⟩
   .rw[Us g];have D:¬(b=c/\a≠j/\f.se c a=1):=by rintro⟨rfl,bp,_⟩;have:=O.1;rw[x]at this;cases this;exact bp rfl
    rw[Us D];have aN:a≠c:=by rintro rfl;have:=O.2;rw[x]at this;cases this;exact g ⟨rfl,rfl⟩
    simp only[aj,Us aN];exact h.2.2
  .intro b a o;have h:=i.y b a o;rw[aq,aq];by_cases g:a=c
   .subst g;have Y:b=j:=by have:=o.1;rw[x]at this;cases this;rfl
    subst Y;rw[Us (by grind),if_neg (by grind),if_pos ⟨rfl,rfl⟩];simp only[aj,VR,Us a4];refine⟨h.1,?_⟩;obtain t|t:=ag
    .exact t.2.2
    .exact(o.2 t.1.1).elim
   .by_cases D:b=c
    .subst D;obtain⟨A,E⟩:=aK a o;rw[Us (by grind),if_neg (by grind),if_neg (by grind),if_pos ⟨rfl,A,E⟩];simp only[aj,VR,Us g];exact⟨h.1,IU _ _ _ h.2 a6⟩
    .rw[Us (by grind),if_neg (by grind),if_neg (by grind),if_neg (by grind)];simp only[aj,Us g,Us D];exact h
  .intro b a l r z d;obtain d|⟨rfl,o,rfl,rfl,rfl⟩:=aM b a l r z d
   .exact i.f b a l r z d
   .have aO:=i.c b a (ax a o);refine⟨o.1,by omega,λg=>?_⟩;rw[<-aO.2.1];exact bi (by omega)
  .intro e C;by_cases g:e=c
   .subst g;simp only[aj,VR];exact i.A j e k n m ao
   .simp only[aj,Us g]at C|-;exact i.w e C
  .intro b a l r z d;obtain d|⟨rfl,o,rfl,rfl,rfl⟩:=aM b a l r z d
   .exact i.A b a l r z d
   .obtain⟨bq,br,A,E,U,V⟩:=i.A j b l r z ao;exact⟨bq,br,A,E,U,i.q _ _ _ (i.g _ _ (ax a o)) V⟩
  .intro b a ar aP l r z au ab d;have bb:bG ab∈kS (gX f.q f.se j c (u++v) (aL k n m)) b a:=by rw[au];simp[d]
   rw[ay]at bb;by_cases g:b=j/\a=c
   .obtain⟨rfl,rfl⟩:=g;exact a5 ab bb
   .by_cases D:b=c/\a≠j/\f.se c a=1
    .have:kS (gX f.q f.se j c (u++v) (aL k n m)) b a=kS f.q b a++[aL k n m]:=by unfold kS gX;rw[Us g,UG D,D.1,U2];rfl
     rw[this]at au;obtain⟨_,E,_⟩|⟨aA,A,E⟩:=DL au
     .rw[E]at d;cases d
     .rw[E]at d;have bs:bG ab∈aA:=by simpa using d
      exact i.K b a ar aA l r z A ab bs
    .have:kS (gX f.q f.se j c (u++v) (aL k n m)) b a=kS f.q b a:=by simp only[kS,gX,Us g,Us D]
     rw[this]at au;exact i.K b a ar aP l r z au ab d
 .dsimp only;have aQ:∀b a Q,bH Q∈kR (gX f.q f.se j c (u++v) (aL k n m)) b a↔bH Q∈kR f.q b a:=by
   intro b a Q;simp only[kR,gX,Vw];split
   .rename_i g;rw[g.1,g.2,X];simp
   .split
    .rename_i g;rw[g.1];simp
    .rfl
  have bc:∀b a l r z,aL l r z∈kR (gX f.q f.se j c (u++v) (aL k n m)) b a->aL l r z∈kR f.q b a\/(b=c/\bY y c a/\l=k/\r=n/\z=m):=by
   intro b a l r z d;obtain h|h:=aM b a l r z (rL.1 d)
   .exact Ur (rL.2 h)
   .exact Up h
  have aR:m=T->y.ph c=0/\k=y.bB c/\¬am.Z c:=λg=>by subst g;have:=s.q j c k n a3;exact⟨this.1,this.2.1,this.2.2.1⟩
  have bt:m=F->y.ph c=0->k=y.bB c->am.Z c:=λg=>by subst g;exact s.p j c k n a3
  refine⟨?_,?_,s.j,?_,?_,?_,?_,s.l,?_,?_,?_,?_,?_,?_,?_,?_⟩
  .intro e C;simp only[aj]at C|-;have:=s.a e;grind
  .intro e H w M;simp only[aj]at w M;have:=s.d e H;grind
  .intro b a H w M ad;simp only[aj]at ad;have:=s.i b a H w M;grind
  .intro b a l r d H w;obtain d|⟨rfl,o,rfl,rfl,aB⟩:=bc b a l r F d
   .exact s.p b a l r d H w
   .have aO:=i.c b a (ax a o);exact(s.j b a (by omega) o (bt aB.symm (by omega) (by omega))).1
  .intro b a l r d;obtain d|⟨rfl,o,rfl,rfl,aB⟩:=bc b a l r T d
   .have h:=s.q b a l r d;refine⟨h.1,h.2.1,h.2.2.1,λo=>?_⟩;have:=h.2.2.2 o;simp only[aj];by_cases g:b=c
    .subst g;rw[af]at this;cases this
    .rw[Us g];exact this
   .have aO:=i.c b a (ax a o);have h:=aR aB.symm;refine⟨by omega,by omega,s.i b a h.1 o h.2.2 af,λ_=>?_⟩;simp only[aj,VR];exact aB.symm
  .intro e C;simp only[aj]at C|-;have:=s.g e;grind
  .intro e H w;simp only[aj]at w|-;have:=s.e e H;grind
  .intro b a O w M;simp only[aj]at w M|-;by_cases g:b=c
   .subst g;obtain t|t:=ag
    .have:=O.1;rw[x]at this;cases this;exact(t.1.2 O.2).elim
    .rw[UG rfl,t.2.2.2.2.1]at M;cases M
   .rw[Us g]at w M|-;exact s.n b a O w M
  .intro b a Q d;rw[aQ]at d;by_cases aS:a=j/\b=c
   .obtain⟨rfl,rfl⟩:=aS;obtain⟨A,E,U,V,ac,ae,Z,aT⟩|⟨A,E,U,V,ac,ae,Z⟩:=s.b b a Q d
    .left;have O:eV y a b:=⟨E,x⟩
     simp only[aj,Us a4];refine⟨A,E,U,V,ac,ae,λo=>(o.2 x).elim,?_⟩;intro ar aP aC;have bd:ci (kR (gX f.q f.se a b (u++v) (aL k n m)) a b)=[]:=by
      rw[C7,aq,UG ⟨rfl,rfl⟩];obtain t|t:=ag
      .exact(t.1.2 O.1).elim
      .exact t.2.2.2.2.2.1
     rw[aC,nC]at bd;have:=Wo.1 bd;simpa [ci]using this.2
    .exfalso;have be:kR f.q a b=u.filter (λp=>dN p||eF p)++aL k n m::v.filter (λp=>dN p||eF p):=by simp only[kR,X,U2,Vr,eF,Bool.or_true,VR]
     rw[be]at d;obtain d|d:=UP.1 d
     .exact bg Q (Vw.1 d).1
     .simp only[UZ]at d;obtain d|d:=d
      .cases d
      .obtain⟨bu,bv,bx⟩:=Xs d;have:=Z (u.filter (λp=>dN p||eF p)++aL k n m::bu) bv (by rw[be,bx];simp);rw[nC]at this;have:=(Wo.1 this).2;simp[ci]at this
   .by_cases aU:a=c
    .subst aU;obtain⟨A,E,U,V,ac,ae,Z,aT⟩|⟨A,E,U,V,ac,ae,Z⟩:=s.b b a Q d
     .exact(ai U).elim
     .right;have bz:b≠a:=by rintro rfl;exact A.2 A.1
      simp only[aj,Us bz,VR];refine⟨A,E,U,V,ac,λg=>(bk b A g).elim,?_⟩;intro ar aP aC;obtain⟨aV,aW⟩:=aK b A;have:kR (gX f.q f.se j a (u++v) (aL k n m)) a b=kR f.q a b++[aL k n m]:=by unfold kR gX;rw[Us (by grind),if_pos ⟨rfl,aV,aW⟩,U2];rfl
      rw[this]at aC;obtain⟨_,_,aX⟩|⟨aA,aX,_⟩:=DL aC
      .cases aX
      .exact Z ar aA aX
    .have bA:kR (gX f.q f.se j c (u++v) (aL k n m)) a b=kR f.q a b:=by simp only[kR,gX];rw[Us aS,Us (by grind)]
     rw[bA];obtain⟨A,E,U,V,ac,ae,Z,aT⟩|⟨A,E,U,V,ac,ae,Z⟩:=s.b b a Q d
     .left;simp only[aj,Us aU];refine⟨A,E,U,V,ac,ae,λo=>?_,aT⟩;by_cases aD:b=c
      .subst aD;have:=Z o;rw[af]at this;cases this
      .rw[Us aD];exact Z o
     .right;have aD:b≠c:=by rintro rfl;have:=A.1;rw[x]at this;cases this;exact aS ⟨rfl,rfl⟩
      simp only[aj,Us aU,Us aD];exact⟨A,E,U,V,ac,ae,Z⟩
  .intro b a;have R:∀K:List bV,K.countP dN=(K.filter dN).length:=λK=>by rw[Wi]
   have h:=congrFun (congrFun (xx dN (se:=f.se) X rfl) a) b;have D:∀K:List bV,(K.filter λp=>dN p||eF p).filter dN=K.filter dN:=λK=>by rw[List.filter_filter];congr 1;funext p;cases p<;>rfl
   rw[R];simp only[kR,D];have:=s.c b a;rw[R]at this;simp only[kR,D]at this;rw[h];exact this
  .intro b a H w M ad;simp only[aj]at H|-;by_cases g:b=c
   .subst g;rw[UG rfl]at H;have h:=aR H;exact(s.i b a h.1 w h.2.2 af M).elim
   .rw[Us g]at H|-;exact s.m b a H w M λQ d=>ad Q ((aQ a b Q).2 d)
  .intro b Y;simp only[aj]at Y|-;by_cases g:b=c
   .subst g;rw[UG rfl]at Y|-;obtain⟨D,_⟩|⟨_,an,aY,ab,aZ⟩:=bh
    .rw[Y]at D;cases D
    .refine⟨an,aY,ab,λe=>?_⟩;rw[aZ e];have h:=aR Y;constructor
     .rintro⟨aV,aW⟩;have o:=a7 e aV aW;exact⟨o,Ur (s.i b e h.1 o h.2.2 af)⟩
     .rintro⟨o,_⟩;exact aK e o
   .rw[Us g]at Y|-;obtain⟨bB,aY,ab,aZ⟩:=s.h b Y;refine⟨bB,aY,ab,λe=>?_⟩;rw[aZ e];simp only[aQ]
  .intro e;simp only[aj];have:=s.f e;grind
  .intro b a O w;simp only[aj]at w;by_cases g:b=c
   .subst g;rw[UG rfl]at w;obtain t|t:=ag
    .have:=O.1;rw[x]at this;cases this;exact(t.1.2 O.2).elim
    .exact(w t.2.2.1).elim
   .rw[Us g]at w;exact s.o b a O w
 .rw[bl];dsimp only;refine⟨?_,aa.c,?_,?_,?_,?_,aa.f,aa.d⟩
  .intro e C;simp only[aj]at C;have:=aa.a e;grind
  .intro e a H w M ad bM;simp only[aj]at H|-;have:=aa.h e a;grind
  .intro e C;have:=aa.g e;grind
  .intro e a l r d;have h:=aa.b e a l r d;simp only[aj];have:=az a;grind
  .intro e a d;have h:=aa.e e a d;exact⟨h.1,h.2.1,UM h.2.2 (az a)⟩
 .rw[ba];dsimp only;refine⟨?_,?_,?_,ah.d⟩
  .intro e H w M ad;by_cases g:e=c
   .subst g;simp[aj]at ad
   .simp only[aj,Us g]at w ad;obtain⟨a0,bC,bD,W⟩:=ah.c e H w M ad;refine⟨a0,by simp only[aj,Us g];exact bC,bD,?_⟩;obtain W|W|W:=W
    .exact Ur W
    .exact Up (Ur ⟨W.1,by simp only[aj,Us g];exact W.2.1,W.2.2.1,UM W.2.2.2 (az a0)⟩)
    .right;right;have:a0≠c:=by rintro rfl;exact ai W.2.1
     simp only[aj,Us g,Us this];exact W
  .intro e C;have h:=ah.b e C;have:e≠c:=by rintro rfl;rw[x]at h;grind
   simp only[aj,Us this];exact h
  .intro e ak aE;have h:=ah.a e ak aE;have R:e≠c:=by rintro rfl;rw[x]at h;grind
   have D:ak≠c:=by rintro rfl;exact ai h.2.2.2.2.1
   simp only[aj,Us R,Us D];exact h
 .rw[ba];refine⟨aw.b,aw.d,?_,?_⟩
  .intro e C;have h:=aw.a e C;have G:=ah.b e C;have:e≠c:=by rintro rfl;rw[x]at G;grind
   simp only[aj,Us this];exact h
  .intro e ak aE;have h:=aw.c e ak aE;have G:=ah.a e ak aE;have R:e≠c:=by rintro rfl;rw[x]at G;grind
   have D:ak≠c:=by rintro rfl;exact ai G.2.2.2.2.1
   simp only[aj,Us R,Us D];exact h
open Classical in
def C1{ak:Gr}{j:St}{i:Gh}{au:Gs}(bj:cL ak j i au){d c Y:Nat}{aI aJ:List bV}(av:j.q d c=aI++bG Y::aJ)(bK:Y<j.bE c)(aD:Nat->Nat)(a5:(j.cg c=T/\aD=aj j.ip c (j.ip c+1))\/(j.cg c=F/\aD=j.ip)):
 cL ak {j with se:=am j.se c d 1,ip:=aD,q:=gG (am j.q d c (aI++aJ)) c d (aL (j.bE c) (j.eU c) (j.cg c))}
  {fr:=λa b=>i.fr a b\/((i.fr d a\/i.fr c a)/\(i.fr d b\/i.fr c b)),bB:=λg=>if i.fr d g then i.bB c else i.bB g,j4:=λg=>if i.fr d g then i.j4 c else i.j4 g,ph:=λg=>if i.fr d g then i.ph c else i.ph g,W:=λg=>if i.fr d g then i.W c else i.W g,bQ:=aj i.bQ d (S c),gV:=λg=>if i.fr d g then i.gV c+1+i.gV g else i.gV g}
  {au with Z:=λg=>if i.fr d g then au.Z c else au.Z g,be:=λg=>if i.fr d g then ak.w d c else au.be g,ps:=λg=>au.ps g/\¬i.fr d g}:=by
 obtain⟨ap,bk,bl,aU,bL,bM,bN⟩:=C9 av;obtain⟨bm,k,z,af,aK,aM⟩:=bj;obtain⟨a6,bn,bo⟩:=k.l d c Y aU;have aV:j.se c d≠1:=λe=>by have:=bn e;omega
 obtain⟨bO,aN,a7,bP,bR,bS,bT⟩:=k.m d c ⟨a6,aV⟩;have bU:=bo aV;have aW:=(k.C d c _ aU).1;have a8:=ak.iK _ _ aW;have aX:d≠c:=by rintro rfl;exact ak.jN _ aW
 have bp:=(k.C d c _ aU).2;have bq:=k.n c;have br:j.aw c=T:=by
  cases e:j.aw c
  .have:=k.o c e;omega
  .rfl
 have t:=k.d;have K:=k.g;have ae:=k.q;have aa:∀a b,i.fr a b->(i.fr d a↔i.fr d b):=λa b e=>⟨λf=>ae _ _ _ f e,λf=>ae _ _ _ f (K _ _ e)⟩
 have a9:∀a b,i.fr a b->(i.fr c a↔i.fr c b):=λa b e=>⟨λf=>ae _ _ _ f e,λf=>ae _ _ _ f (K _ _ e)⟩
 have bW:∀g,i.fr d g->¬i.fr c g:=λg a b=>a7 (ae _ _ _ a (K _ _ b));have A:∀g,i.fr d g->i.bB g=i.bB d/\i.ph g=2/\j.bE g<=i.bB d/\j.bE g<i.bB c/\j.cg g=F:=λg w=>by
  have aw:=k.c d g w;have:=k.n g;refine⟨aw.1.symm,by omega,by omega,by omega,?_⟩;cases e:j.cg g
  .rfl
  .have:=z.a g e;omega
 have aq:∀g,i.fr c g->i.bB g=i.bB c/\i.j4 g=i.j4 c/\i.ph g=i.ph c/\i.W g=i.W c:=λg w=>by have aw:=k.c c g w;exact⟨aw.1.symm,aw.2.1.symm,aw.2.2.1.symm,aw.2.2.2.symm⟩
 have ba:=a7;have aO:∀g,i.fr d g->i.bQ g=N->g=d:=λg w e=>(k.r d g aN e w).symm;have aY:∀a b,i.bQ a=S b->i.fr a b:=λa b e=>(k.b a b (k.a a b e)).1;have aZ:i.bQ c≠S d:=λe=>ba (K _ _ (aY _ _ e));have H:∀a b,aj i.bQ d (S c) a=S b↔(i.bQ a=S b\/(a=d/\b=c)):=λa b=>by simp only[aj];grind
 have al:∀f h,bY i f h->i.fr f h:=λf h e=>K _ _ (aY _ _ e.1);have bs:∀f h,eV i f h->i.fr f h:=λf h e=>aY _ _ e.1;have ax:∀f h,eV i f h->¬i.fr d f/\¬i.fr d h:=λf h e=>by have:=(k.h f h e).1;have bt:=aa f h (bs f h e);have bX:=A f;grind
 have bZ:j.se c d=0:=by have:=k.E c d;have:=k.D c d;have:=K c d;grind
 have ay:∀a b,am j.se c d 1 a b=1↔(j.se a b=1\/(a=c/\b=d)):=λa b=>by simp only[am];grind
 have az:∀a b,am j.se c d 1 a b=0↔(j.se a b=0/\¬(a=c/\b=d)):=λa b=>by simp only[am];grind
 have bu:∀a b,am j.se c d 1 a b=2↔j.se a b=2:=λa b=>by simp only[am];grind
 have ar:∀a b,ji (am j.se c d 1) a b↔(ji j.se a b\/(a=c/\b=d)\/(a=d/\b=c)):=λa b=>by simp only[ji,ay];grind
 have bb:∀a b,mz (am j.se c d 1) a b->mz j.se a b/\¬i.fr d a:=λa b e=>by
  have n:mz j.se a b/\¬(a=d/\b=c):=by unfold mz at *;rw[ay,ne_eq,ay]at e;grind
  refine⟨n.1,λm=>n.2 ?_⟩;have u:=k.m a b n.1;have:=aO a m u.2.1;subst this;have s:=(k.e a b (by have:=n.1.1;omega)).1;have:=ak.wd a b a c s aW (by omega);refine⟨rfl,?_⟩;obtain f|f:=this
  .exact f.2
  .exact(aX f.1).elim
 have bv:∀Y,bG Y∉ap:=λY l=>by have bt:=k.p d c;have:=qL (show ap.countP dA=0 by omega) _ l;simp[dA]at this
 have bc:∀Y,bG Y∉kS j.q c d:=λY l=>aV (k.l c d Y l).1;have bw:ci (kS j.q c d)=[]:=by apply Vp.2;rintro⟨Y,v,G⟩ l;have:=(k.f c d Y v G ((jE _).1 l)).1;rw[aN]at this;cases this
 have bx:ci (kS j.q d c)=[]:=by apply Vp.2;rintro⟨Y,v,G⟩ l;exact aZ (k.f d c Y v G ((jE _).1 l)).1
 have bz:kS (gG (am j.q d c (aI++aJ)) c d (aL (j.bE c) (j.eU c) (j.cg c)))=am (am (kS j.q) d c ap) c d (kS j.q c d++[aL (j.bE c) (j.eU c) (j.cg c)]):=by rw[xz rfl,bk];congr 1;simp[am,aX.symm]
 have bA:kR (gG (am j.q d c (aI++aJ)) c d (aL (j.bE c) (j.eU c) (j.cg c)))=am (kR j.q) c d (kR j.q c d++[aL (j.bE c) (j.eU c) (j.cg c)]):=by rw[zX rfl,sJ av rfl]
 have bC:=k.v c;refine⟨qN (pY bm av) a8 br,?_,?_,?_,?_,?_⟩
 .rw[bz];have aP:∀a b,ci (am (am (kS j.q) d c ap) c d (kS j.q c d++[aL (j.bE c) (j.eU c) (j.cg c)]) a b)=if a=c/\b=d then [(j.bE c,j.eU c,j.cg c)]else ci (kS j.q a b):=by
   intro a b;simp only[am];split
   .rw[nC,bw];rfl
   .split
    .rename_i e;rw[e.1,e.2,bl]
    .rfl
  have aE:∀a b p v G,aL p v G∈am (am (kS j.q) d c ap) c d (kS j.q c d++[aL (j.bE c) (j.eU c) (j.cg c)]) a b->(a=c/\b=d/\p=j.bE c/\v=j.eU c/\G=j.cg c)\/aL p v G∈kS j.q a b:=by
   intro a b p v G l;rw[<-jE,aP]at l;split at l
   .rename_i e;simp at l;grind
   .exact Up ((jE _).1 l)
  have aQ:∀a b p,bG p∈am (am (kS j.q) d c ap) c d (kS j.q c d++[aL (j.bE c) (j.eU c) (j.cg c)]) a b↔bG p∈kS j.q a b/\¬(a=d/\b=c):=by
   intro a b p;simp only[am];split
   .rename_i e;simp[e.1,e.2,aX.symm]
   .split
    .rename_i e;have:=bv p;grind
    .grind
  have aA:∀a b,(aj i.bQ d (S c) a=S b/\aj i.bQ d (S c) b=S a)->eV i a b:=λa b e=>by rw[H,H]at e;unfold eV;grind
  have O:∀a b,(aj i.bQ d (S c) b=S a/\aj i.bQ d (S c) a≠S b)->bY i a b\/(a=c/\b=d):=λa b e=>by rw[ne_eq,H,H]at e;unfold bY;grind
  refine⟨?_,?_,?_,?_,?_,?_,?_,?_,?_,?_,?_,?_,?_,?_,?_,?_,?_,?_,?_,?_,?_,?_,?_,?_,?_,?_,?_,?_,?_,?_,?_⟩
  .intro a b bD l;simp only[am]at l;have:=k.C a b bD;grind
  .intro a b;simp only[am];have:=k.e a b;grind
  .intro g w;have u:=k.o g w;have:¬i.fr d g:=λe=>by have:=k.j g d u.2.1 (K _ _ e);subst this;dsimp only at w;rw[bp]at w;cases w
   have:g≠d:=by rintro rfl;exact this (t _)
   simp only[aj];grind
  .intro a;exact Ur (t a)
  .intro a b e;have:=K a b;dsimp only at e|-;grind
  .intro a b ag n m;dsimp only at n m|-;have o:=aa a b;have D:=a9 a b;have ab:=aa b ag;have ac:=a9 b ag;have ah:=ae a b ag;grind
  .intro a b e;dsimp only at e|-;have o:=aa a b;have D:=k.c a b;have ab:=aq a;have ac:=aq b;grind
  .intro a b n m;dsimp only at n m;have o:=k.j a b;have D:=aq a;grind
  .intro g;have:=A g;have:=k.n g;dsimp only;grind
  .intro g n m;dsimp only at n m|-;have:=A g;have:=k.v g;grind
  .intro a b e;rw[bu]at e;exact Ur (k.D a b e)
  .intro a b;simp only[am];have:=k.E a b;grind
  .intro a b e;rw[ar]at e;dsimp only;rw[H,H];have:=k.b a b;have:=t d;have:=t c;grind
  .intro a b e;rw[H]at e;rw[ar];have:=k.a a b;grind
  .intro a b e;obtain⟨n,m⟩:=bb a b e;have u:=k.m a b n;have o:=A b;have D:=aq a;have ab:=ae a c b;have ac:=K c a;have E:a≠d:=by rintro rfl;exact m (t _)
   refine⟨?_,?_,?_,?_,?_,?_,?_⟩
   .dsimp only;rw[Us m];exact u.1
   .simp only[aj,Us E];exact u.2.1
   .dsimp only;grind
   .dsimp only;rw[aQ,Us m];exact⟨u.2.2.2.1,λe=>E e.1⟩
   .dsimp only;rw[Us m];exact u.2.2.2.2.1
   .dsimp only;rw[Us m];exact u.2.2.2.2.2.1
   .dsimp only;rw[Us m];exact u.2.2.2.2.2.2
  .intro a b p l;rw[aQ]at l;have u:=k.l a b p l.1;have E:¬(a=c/\b=d):=by rintro⟨rfl,rfl⟩;exact bc _ l.1
   have n:am j.se c d 1 b a=j.se b a:=by simp only[am];grind
   have m:am j.se c d 1 a b=j.se a b:=by simp only[am];grind
   dsimp only;rw[n];refine⟨by rw[m];exact u.1,λe=>?_,λe=>?_⟩
   .have s:=u.2.1 e;have ad:=ax a b s.1;refine⟨⟨(H _ _).2 (Ur s.1.1),(H _ _).2 (Ur s.1.2)⟩,?_⟩;rw[Us ad.1];exact s.2
   .have s:=u.2.2 e;have ad:=(bb a b ⟨by rw[m];exact u.1,by rw[n];exact e⟩).2;rw[Us ad];exact s
  .intro a b;simp only[am];split
   .rw[U0];have:=k.p c d;simpa [dA]using this
   .split
    .have:=k.p d c;omega
    .exact k.p a b
  .intro a b e;have Q:=aA a b e;have u:=k.h a b Q;have ad:=ax a b Q;have E:¬(a=c/\b=d):=by rintro⟨rfl,rfl⟩;exact ad.2 (t _)
   have aR:¬(b=d/\a=c):=λe=>E ⟨e.2,e.1⟩;have b0:¬(b=c/\a=d):=by rintro⟨rfl,rfl⟩;exact ad.1 (t _)
   dsimp only;rw[aP,Us E,Us ad.1,Us ad.1,Us ad.2,Us ad.2];simp only[aQ];refine⟨u.1,u.2.1,?_⟩;obtain s|s|s:=u.2.2
   .exact Ur ⟨s.1,s.2.1,λp l=>s.2.2 p l.1⟩
   .exact Up (Ur ⟨s.1,s.2.1,λp l=>s.2.2 p l.1⟩)
   .exact Up (Up ⟨s.1,s.2.1,s.2.2,by grind⟩)
  .intro a b f h n m x;have bd:=aA a b n;have bf:=aA f h m;have ad:=ax a b bd;have s:=ax f h bf;refine k.s a b f h bd bf ?_;have:=ae a c f;have:=K c a;dsimp only at x;grind
  .intro f h e;rw[aP,aP];obtain C|⟨rfl,rfl⟩:=O f h e
   .have u:=k.y f h C;have E:¬(f=c/\h=d):=by rintro⟨rfl,rfl⟩;have:=C.1;rw[aN]at this;cases this
    have aR:¬(h=c/\f=d):=by rintro⟨rfl,rfl⟩;exact aZ C.1
    rw[Us E,Us aR];exact u
   .rw[Us (by grind),if_pos ⟨rfl,rfl⟩];refine⟨bx,?_⟩;simp only[sI];exact⟨by omega,VU⟩
  .intro f h p v G l;dsimp only;rw[H];obtain⟨rfl,rfl,rfl,rfl,rfl⟩|l:=aE f h p v G l
   .rw[UG (t _),UG (t _)];refine⟨Up ⟨rfl,rfl⟩,bq,λe=>bC e (by omega)⟩
   .have u:=k.f f h p v G l;have:=A h;refine⟨Ur u.1,?_,?_⟩
    .grind
    .grind
  .intro a b n m x;have E:a≠d/\i.bQ a=N:=by simp only[aj]at n;grind
   have aR:b≠d/\i.bQ b=N:=by simp only[aj]at m;grind
   refine k.r a b E.2 aR.2 ?_;have:=aO a;have:=aO b;have:=ae a c b;have:=K c a;dsimp only at x;grind
  .intro g e;dsimp only at e|-;have u:=k.i g;have s:=aO g;simp only[aj];grind
  .intro f h e;dsimp only;obtain C|⟨rfl,rfl⟩:=O f h e
   .have u:=k.G f h C;have:=aa f h (al f h C);grind
   .rw[Us ba,UG (t _)];omega
  .intro g e;obtain⟨a,b,R,U,y,an⟩:=k.w g e;exact⟨a,b,R,(ar _ _).2 (Ur U),y,Ur an⟩
  .intro f h p v G l;obtain⟨rfl,rfl,rfl,rfl,rfl⟩|l:=aE f h p v G l
   .obtain⟨a,b,R,U,y,an⟩:=k.w f (by omega);exact⟨a,b,R,(ar _ _).2 (Ur U),y,Up ⟨Ur (t _),Up an⟩⟩
   .obtain⟨a,b,R,U,y,an⟩:=k.A f h p v G l;exact⟨a,b,R,(ar _ _).2 (Ur U),y,Ur an⟩
  .intro g e;dsimp only at e|-;by_cases w:i.fr d g
   .obtain⟨a,b,R,U,y,an⟩:=k.M c (by omega);rw[UG w];exact⟨a,b,R,(ar _ _).2 (Ur U),y,Up ⟨Ur w,Up an⟩⟩
   .rw[Us w]at e|-;obtain⟨a,b,R,U,y,an⟩:=k.M g e;exact⟨a,b,R,(ar _ _).2 (Ur U),y,Ur an⟩
  .intro a g b n m x V;dsimp only at n m V|-;have o:=k.u a g b;have D:=k.u c g b;have ab:=k.u d g b (by omega);have ac:=k.u c c d;have ah:=ak.ws d c;have aB:=aq a;have aF:=aa a g;have a0:=t c;have b1:=K c d;grind
  .intro g e;dsimp only;by_cases w:i.fr d g
   .obtain⟨aC,R,U,y⟩:=k.x c (ak.lt _ _ a8);rw[UG w];exact⟨aC,R,U,λf ai=>⟨Up ⟨Ur w,Up (y f ai).1⟩,(y f ai).2⟩⟩
   .obtain⟨aC,R,U,y⟩:=k.x g e;rw[Us w];exact⟨aC,R,U,λf ai=>⟨Ur (y f ai).1,(y f ai).2⟩⟩
  .intro a b e;rw[ay]at e;obtain e|⟨rfl,rfl⟩:=e
   .exact k.H a b e
   .exact(k.H _ _ a6).symm
  .intro a b bE bF p v G a1 aG l;have:bG aG∈am (am (kS j.q) d c ap) c d (kS j.q c d++[aL (j.bE c) (j.eU c) (j.cg c)]) a b:=by rw[a1];simp[l]
   rw[aQ]at this;have E:¬(a=c/\b=d):=by rintro⟨rfl,rfl⟩;exact bc _ this.1
   simp only[am,Us E,Us this.2]at a1;exact k.K a b bE bF p v G a1 aG l
 .rw[bA];have O:∀a b,(aj i.bQ d (S c) b=S a/\aj i.bQ d (S c) a≠S b)↔(bY i a b\/(a=c/\b=d)):=λa b=>by rw[ne_eq,H,H];unfold bY;grind
  have aA:∀a b,(aj i.bQ d (S c) a=S b/\aj i.bQ d (S c) b=S a)->eV i a b:=λa b e=>by rw[H,H]at e;unfold eV;grind
  have aE:∀a b p v G,aL p v G∈am (kR j.q) c d (kR j.q c d++[aL (j.bE c) (j.eU c) (j.cg c)]) a b->(a=c/\b=d/\p=j.bE c/\G=j.cg c)\/aL p v G∈kR j.q a b:=by
   intro a b p v G l;simp only[am]at l;split at l
   .rename_i e;simp at l;grind
   .exact Up l
  have aS:∀a b r,bH r∈am (kR j.q) c d (kR j.q c d++[aL (j.bE c) (j.eU c) (j.cg c)]) a b↔bH r∈kR j.q a b:=by
   intro a b r;simp only[am];split
   .rename_i e;rw[e.1,e.2];simp
   .rfl
  have bg:¬bY i c d:=λe=>by have:=e.1;rw[aN]at this;cases this
  refine⟨?_,?_,?_,?_,?_,?_,?_,?_,?_,?_,?_,?_,?_,?_,z.f,?_⟩
  .intro g e;have:=z.a g e;have:=A g;dsimp only at e|-;grind
  .intro g n m x;have:=z.d g;have:=A g;dsimp only at n m x|-;grind
  .intro f h n m x;obtain C|⟨rfl,rfl⟩:=(O f h).1 m
   .have:=z.j f h;have:=aa f h (al f h C);dsimp only at n x|-;grind
   .dsimp only at n x|-;have o:=z.l f h;have D:=t h;have ab:=K f h;have ac:=ak.ws f h;grind
  .intro f h n m x V;obtain C|⟨rfl,rfl⟩:=(O f h).1 m
   .have:=z.i f h;have:=aa f h (al f h C);dsimp only at n x V|-;grind
   .dsimp only at n x V|-;have D:=t h;grind
  .intro f h p v l n m;dsimp only at n m|-;obtain⟨rfl,rfl,rfl,r⟩|l:=aE f h p v F l
   .have D:=t h;have:=z.d f;grind
   .have:=z.p f h p v l;have:=k.f f h p v F (rL.1 l);have:=A h;grind
  .intro f h p v l;obtain⟨rfl,rfl,rfl,r⟩|l:=aE f h p v T l
   .have:=z.a f r.symm;dsimp only;rw[UG (t _),UG (t _),UG (t _)];exact⟨this.1,this.2.1,this.2.2,λ_=>r.symm⟩
   .have u:=z.q f h p v l;have s:¬i.fr d h:=λe=>by have:=A h e;omega
    refine⟨by dsimp only;rw[Us s];exact u.1,by dsimp only;rw[Us s];exact u.2.1,by dsimp only;rw[Us s];exact u.2.2.1,λe=>?_⟩;obtain C|⟨rfl,rfl⟩:=(O f h).1 e
    .exact u.2.2.2 C
    .exact(s (t _)).elim
  .intro g e;have:=z.g g;dsimp only at e|-;obtain⟨o,rfl⟩|⟨o,rfl⟩:=a5
   .simp only[aj];grind
   .grind
  .intro a b n m x V;dsimp only at n m V|-;have:=z.l a b;have:=k.u d a b (by omega);grind
  .intro g n m;dsimp only at n m|-;have:=z.e g;have:=A g;have:=t d;simp only[aj];grind
  .intro a b n m x;have Q:=aA a b n;have ad:=ax a b Q;have:=z.n a b Q;dsimp only at m x|-;grind
  .intro f h r l;rw[aS]at l;obtain⟨o,D,ab,ac,ah,aB,aF,a0⟩|⟨o,D,ab,ac,ah,aB,aF⟩:=z.b f h r l
   .left;have s:¬i.fr d h:=λe=>by have:=A h e;omega
    have E:¬(h=c/\f=d):=by rintro⟨rfl,rfl⟩;exact aZ D
    refine⟨by dsimp only;rw[Us s];exact o,(H _ _).2 (Ur D),by dsimp only;rw[Us s];exact ab,ac,ah,by dsimp only;rw[Us s];exact aB,λe=>?_,?_⟩
    .obtain C|⟨rfl,rfl⟩:=(O f h).1 e
     .exact aF C
     .exact(s (t _)).elim
    .simp only[am,Us E];exact a0
   .right;have E:¬(h=c/\f=d):=by rintro⟨rfl,rfl⟩;exact bg o
    refine⟨(O h f).2 (Ur o),D,ab,ac,ah,λe=>?_,?_⟩
    .dsimp only at e|-;have:=A f;have:=aa h f (al h f o);grind
    .simp only[am,Us E];exact aF
  .intro a b;simp only[am];split
   .rw[U0];have:=z.c d c;simpa [dN]using this
   .exact z.c a b
  .intro f h n m x V;have aT:∀r,bH r∉kR j.q h f:=λr l=>V r ((aS h f r).2 l);dsimp only at n x|-;obtain C|⟨rfl,rfl⟩:=(O f h).1 m
   .have:=z.m f h n C;have:=aa f h (al f h C);have:=A f;grind
   .have:=z.a f n;have:=t h;grind
  .intro f e;dsimp only at e;obtain⟨aC,bh,aG,a2⟩:=z.h f e;have ai:¬i.fr d f:=λm=>by have:=A f m;rw[e]at this;simp at this
   have bi:∀h,bY i f h->¬i.fr d h:=λh C m=>ai ((aa f h (al f h C)).2 m);by_cases a3:f=c
   .subst a3;have Q:aD=aj j.ip f (j.ip f+1):=by grind
    refine⟨d::aC,?_,?_,λh=>?_⟩
    .refine Xm.2 ⟨λl=>bg ((a2 d).1 l).1,bh⟩
    .simp[Q,aj,aG]
    .rw[UZ,a2];simp only[aS];have o:=O f h;have D:=bi h;have ab:=t d;have ac:=z.a f e;have ah:bY {fr:=λa b=>i.fr a b\/((i.fr d a\/i.fr f a)/\(i.fr d b\/i.fr f b)),bB:=λg=>if i.fr d g then i.bB f else i.bB g,j4:=λg=>if i.fr d g then i.j4 f else i.j4 g,ph:=λg=>if i.fr d g then i.ph f else i.ph g,W:=λg=>if i.fr d g then i.W f else i.W g,bQ:=aj i.bQ d (S f),gV:=λg=>if i.fr d g then i.gV f+1+i.gV g else i.gV g} f h↔(bY i f h\/(f=f/\h=d)):=o;rw[ah];constructor
     .rintro (rfl|⟨X,ao⟩)
      .refine⟨Up ⟨rfl,rfl⟩,Ur ?_⟩;rw[UG ab];exact ac.2.2
      .refine⟨Ur X,?_⟩;rw[Us (D X)];exact ao
     .rintro⟨X|⟨_,rfl⟩,ao⟩
      .rw[Us (D X)]at ao;exact Up ⟨X,ao⟩
      .exact Ur rfl
   .have Q:aD f=j.ip f:=by
     obtain⟨_,rfl⟩|⟨_,rfl⟩:=a5
     .simp only[aj,Us a3]
     .rfl
    refine⟨aC,bh,by rw[aG];exact Q.symm,λh=>?_⟩;rw[a2];simp only[aS];have o:=O f h;have D:=bi h;constructor
    .rintro⟨X,ao⟩;refine⟨o.2 (Ur X),?_⟩;rw[Us (D X)];exact ao
    .rintro⟨X,ao⟩;obtain X|⟨X,_⟩:=o.1 X
     .rw[Us (D X)]at ao;exact⟨X,ao⟩
     .exact(a3 X).elim
  .intro a b n m;have Q:=aA a b n;have ad:=ax a b Q;have:=z.o a b Q;dsimp only at m|-;grind
 .rw[tX rfl,tY av rfl];have b2:=(af.a d (A d (t d)).2.2.2.2).1;refine⟨af.a,?_,?_,af.g,?_,?_,?_,af.d⟩
  .intro h f ai;dsimp only at ai|-;have o:=af.c h f ai;refine⟨o.1,?_,λg bI bJ=>o.2.2 g bI ((az _ _).1 bJ).1⟩;rw[az,ay,ay];grind
  .intro h f n m x V aT;dsimp only at aT;rw[az]at aT;exact af.h h f n m x V aT.1
  .intro h f p v l;have o:=af.b h f p v l;dsimp only;obtain o|o:=o
   .exact Ur o
   .refine Up ⟨o.1,o.2.1,Ur o.2.2.1,o.2.2.2.1,o.2.2.2.2.1,?_⟩;rw[ne_eq,az];exact λe=>o.2.2.2.2.2 e.1
  .intro h f l;have o:=af.e h f l;have D:j.cg h=T:=by
    cases e:j.cg h
    .have:=(af.a h e).1;rw[o.1]at this;cases this
    .rfl
   have M:¬i.fr d h:=λm=>by have:=A h m;rw[D]at this;simp at this
   have ab:=A f;have ac:=aq h;have ah:=ae h c f;have aB:=K c h;dsimp only;grind
  .intro h f l;have o:=af.f h f l;dsimp only;refine⟨o.1,Ur o.2.1,?_⟩;rw[ne_eq,az];exact λe=>o.2.2 e.1
 .rw[lV rfl,kZ av rfl];have O:∀a b,(aj i.bQ d (S c) b=S a/\aj i.bQ d (S c) a≠S b)↔(bY i a b\/(a=c/\b=d)):=λa b=>by rw[ne_eq,H,H];unfold bY;grind
  refine⟨?_,?_,?_,?_⟩
  .intro h n m x V;dsimp only at n m x V|-;have M:¬i.fr d h:=λe=>by have:=A h e;rw[UG e]at m;omega
   rw[Us M]at n m x;obtain⟨aH,R,U,y⟩:=aK.c h n m x V;refine⟨aH,R,U,?_⟩;obtain y|y|y:=y
   .exact Ur ⟨y,M⟩
   .refine Up (Ur ?_);rw[az,Us M];have ab:=A aH;have ac:=aq h;have ah:=ae h c aH;have aB:=K c h;have aF:=t d;have a0:=t c;grind
   .refine Up (Up ⟨(O h aH).2 (Ur y.1),?_,y.2.2⟩);have:=aa h aH (al _ _ y.1);rw[Us λe=>M (this.2 e)];exact y.2.1
  .intro g w;have r:=aK.b g w;have M:¬i.fr d g:=λe=>by have:=A g e;omega
   have E:g≠d:=by rintro rfl;exact M (t _)
   dsimp only;rw[Us M,Us M,Us M,dW _ _ E];exact r
  .intro h ag a4;have r:=aK.a h ag a4;have M:¬i.fr d h:=λe=>by have:=A h e;omega
   have Q:¬i.fr d ag:=λe=>M ((aa h ag (al _ _ r.2.2.2.1)).2 e);have E:h≠d:=by rintro rfl;exact M (t _)
   dsimp only;rw[Us M,Us Q,Us Q,dW _ _ E];exact⟨r.1,r.2.1,r.2.2.1,(O h ag).2 (Ur r.2.2.2.1),r.2.2.2.2⟩
  .intro g w a b n m;have r:=aK.d g w;dsimp only at n|-;have o:=r a b;have D:=r d c;have ab:=r c d;have ac:=K d g;have ah:=K c g;have aB:=K c d;grind
 .rw[lV rfl,kZ av rfl];have O:∀a b,(aj i.bQ d (S c) b=S a/\aj i.bQ d (S c) a≠S b)↔(bY i a b\/(a=c/\b=d)):=λa b=>by rw[ne_eq,H,H];unfold bY;grind
  refine⟨?_,?_,?_,?_⟩
  .intro g w;have:=aM.b g w.1;dsimp only;rw[Us w.2];exact this
  .intro g f n m x V;dsimp only at n m x|-;obtain C|⟨rfl,rfl⟩:=(O g f).1 V
   .have o:=aa g f (al g f C);have D:=aM.d g f;have ab:=t d;have ac:g≠d->i.bQ g≠N:=λE=>by rw[dW _ _ E]at x;exact x
    grind
   .exact λe=>e.2 (t _)
  .intro g w;have r:=aM.a g w;have M:¬i.fr d g:=λe=>by have:=A g e;omega
   dsimp only;rw[Us M];refine⟨r.1,λe=>r.2.1 e.1,λf n m=>?_⟩;obtain C|⟨rfl,rfl⟩:=(O g f).1 m
   .exact λe=>r.2.2 f n C e.1
   .exact λe=>e.2 (t _)
  .intro h ag a4;have r:=aM.c h ag a4;have M:¬i.fr d h:=λe=>by have:=A h e;omega
   dsimp only;rw[Us M];exact⟨r.1,λe=>r.2.1 e.1,r.2.2⟩
open Classical in
def I0{V:Gr}{n:St}{j:Gh}{al:Gs}(bd:cL V n j al){e h:Nat}(bf:al.tk e)(ar:V.fg e h)(bE:n.se e h=0)(aR:n.se h e=1)(bg:V.w e h=j.W e)(a0:¬j.fr e h)(bF:j.bB e<=n.bE h):
 cL V {n with se:=am n.se e h 1,q:=gG n.q e h (bG (n.bE e))}
  {fr:=λa b=>j.fr a b\/((j.fr e a\/j.fr h a)/\(j.fr e b\/j.fr h b)),bB:=λd=>if j.fr e d\/j.fr h d then j.bB e+1 else j.bB d,j4:=λd=>if j.fr e d\/j.fr h d then V.w e h else j.j4 d,ph:=λd=>if j.fr e d\/j.fr h d then 0 else j.ph d,W:=λd=>if j.fr e d\/j.fr h d then 0 else j.W d,bQ:=aj (aj j.bQ e (S h)) h (S e),gV:=j.gV}
  {al with Z:=λd=>al.Z d/\¬(j.fr e d\/j.fr h d),be:=λd=>if j.fr e d\/j.fr h d then 0 else al.be d,tk:=λd=>d≠e/\al.tk d,ps:=λd=>al.ps d/\¬(j.fr e d\/j.fr h d)}:=by
 obtain⟨bh,l,D,X,an,aJ⟩:=bd;obtain⟨a1,bH,a2,bI,bJ,a3⟩:=an.b e bf;have bi:=l.U ar (by omega) bg a0;obtain⟨bK,a4,bL,bj,bM,bN,bk⟩:=l.m h e ⟨aR,by omega⟩;have bl:j.bB h=j.bB e:=by omega
 have bO:n.bE e=j.bB e:=by omega
 have bP:n.bE h=j.bB e:=by omega
 have bm:=(l.e h e (by omega)).2;have a5:=V.iK _ _ ar;have bn:e≠h:=by rintro rfl;exact V.jN _ ar
 have bo:=V.ws e h;have aK:=l.d;have ac:=l.g;have au:=l.q;have m:∃x:Nat->Prop,∀d,x d↔(j.fr e d\/j.fr h d):=⟨_,λd=>Iff.rfl⟩
 obtain⟨x,m⟩:=m;have bR:=funext λd=>propext (m d).symm;have Y:=(m e).2 (Ur (aK e));have Q:=(m h).2 (Up (aK h));have R:∀a b,j.fr a b->(x a↔x b):=λa b c=>by rw[m,m];exact⟨λf=>f.elim (λf=>Ur (au _ _ _ f c)) λf=>Up (au _ _ _ f c),λf=>f.elim (λf=>Ur (au _ _ _ f (ac _ _ c))) λf=>Up (au _ _ _ f (ac _ _ c))⟩
 have E:∀d,x d->j.bB d=j.bB e/\j.ph d≠0/\n.bE d<=j.bB e/\n.cg d=F:=λd t=>by
  have s:j.bB d=j.bB e/\j.ph d≠0:=by
   obtain c|c:=(m d).1 t
   .have:=l.c e d c;omega
   .have:=l.c h d c;omega
  have:=l.n d;refine⟨s.1,s.2,by omega,?_⟩;cases c:n.cg d
  .rfl
  .have:=D.a d c;omega
 have aM:∀d,x d->j.bQ d=N->d=e\/d=h:=λd t c=>by
  obtain i|i:=(m d).1 t
  .exact Ur (l.r e d a2 c i).symm
  .exact Up (l.r h d a4 c i).symm
 have aN:∀d,x d->j.ph d=1->j.bQ d=N->d=e:=λd t k c=>by
  obtain rfl|rfl:=aM d t c
  .rfl
  .omega
 have a6:∀a b,j.bQ a=S b->j.fr a b:=λa b c=>(l.b a b (l.a a b c)).1;have af:∀a b,aj (aj j.bQ e (S h)) h (S e) a=S b↔(j.bQ a=S b\/(a=e/\b=h)\/(a=h/\b=e)):=λa b=>by simp only[aj];grind
 have az:∀a,aj (aj j.bQ e (S h)) h (S e) a=N↔(j.bQ a=N/\a≠e/\a≠h):=λa=>by simp only[aj];grind
 have ao:∀f g,bY j f g->j.fr f g:=λf g c=>ac _ _ (a6 _ _ c.1);have bp:∀f g,eV j f g->j.fr f g:=λf g c=>a6 _ _ c.1;have aO:∀f g,eV j f g->¬x f/\¬x g:=λf g c=>by have:=(l.h f g c).1;have aR:=R f g (bp f g c);have bS:=E f;grind
 have M:∀a b,(aj (aj j.bQ e (S h)) h (S e) b=S a/\aj (aj j.bQ e (S h)) h (S e) a≠S b)↔bY j a b:=λa b=>by rw[ne_eq,af,af];unfold bY;grind
 have ai:∀a b,(aj (aj j.bQ e (S h)) h (S e) a=S b/\aj (aj j.bQ e (S h)) h (S e) b=S a)↔(eV j a b\/(a=e/\b=h)\/(a=h/\b=e)):=λa b=>by rw[af,af];unfold eV;grind
 have ad:∀a b,am n.se e h 1 a b=1↔(n.se a b=1\/(a=e/\b=h)):=λa b=>by simp only[am];grind
 have av:∀a b,am n.se e h 1 a b=0↔(n.se a b=0/\¬(a=e/\b=h)):=λa b=>by simp only[am];grind
 have bq:∀a b,am n.se e h 1 a b=2↔n.se a b=2:=λa b=>by simp only[am];grind
 have aw:∀a b,ji (am n.se e h 1) a b↔(ji n.se a b\/(a=h/\b=e)\/(a=e/\b=h)):=λa b=>by simp only[ji,ad];grind
 have a7:∀a b,mz (am n.se e h 1) a b->mz n.se a b/\¬x a:=λa b c=>by
  have k:mz n.se a b/\¬(a=h/\b=e):=by unfold mz at *;rw[ad,ne_eq,ad]at c;grind
  refine⟨k.1,λi=>k.2 ?_⟩;have u:=l.m a b k.1;obtain rfl|rfl:=aM a i u.2.1
  .omega
  .have v:=(l.e a b (by have:=k.1.1;omega)).1;have:=V.wd a b a e v a5 (by omega);refine⟨rfl,?_⟩;obtain f|f:=this
   .exact f.2
   .exact(bn f.1.symm).elim
 have a8:∀y,bG y∉kS n.q e h:=λy p=>by have:=(l.l e h y p).1;omega
 have a9:∀y w C,aL y w C∉kS n.q e h:=λy w C p=>by have aA:=(l.f e h y w C p).1;rw[a4]at aA;cases aA
 have br:∀y w C,aL y w C∉kS n.q h e:=λy w C p=>by have aA:=(l.f h e y w C p).1;rw[a2]at aA;cases aA
 have bs:ci (kS n.q e h)=[]:=by apply Vp.2;rintro⟨y,w,C⟩ p;exact a9 _ _ _ ((jE _).1 p)
 have bt:ci (kS n.q h e)=[]:=by apply Vp.2;rintro⟨y,w,C⟩ p;exact br _ _ _ ((jE _).1 p)
 have aS:∀a b,¬x a->((j.fr a b\/((j.fr e a\/j.fr h a)/\(j.fr e b\/j.fr h b)))↔j.fr a b):=λa b c=>by rw[m]at c;exact⟨λf=>f.elim id λf=>(c f.1).elim,Ur⟩
 refine⟨qN bh ar a1,?_,?_,?_,?_,?_⟩
 .rw[xz rfl];have aP:∀a b,ci (am (kS n.q) e h (kS n.q e h++[bG (n.bE e)]) a b)=ci (kS n.q a b):=by
   intro a b;simp only[am];split
   .rename_i c;rw[c.1,c.2,nC];simp[ci]
   .rfl
  have ba:∀a b y w C,aL y w C∈am (kS n.q) e h (kS n.q e h++[bG (n.bE e)]) a b↔aL y w C∈kS n.q a b:=by intro a b y w C;rw[<-jE,aP,jE]
  have aT:∀a b y,bG y∈am (kS n.q) e h (kS n.q e h++[bG (n.bE e)]) a b↔(bG y∈kS n.q a b\/(a=e/\b=h/\y=n.bE e)):=by
   intro a b y;simp only[am];split
   .rename_i c;rw[c.1,c.2];simp
   .rename_i c;grind
  refine⟨?_,?_,?_,?_,?_,?_,?_,?_,?_,?_,?_,?_,?_,?_,?_,?_,?_,?_,?_,?_,?_,?_,?_,?_,?_,?_,?_,?_,?_,?_,?_⟩
  .intro a b aU p;simp only[am]at p;have:=l.C a b aU;grind
  .intro a b;simp only[am];have:=l.e a b;grind
  .intro d t;dsimp only at t;have u:=l.o d t;have ap:¬x d:=λc=>by
    obtain c|c:=(m d).1 c
    .have:=l.j d e u.2.1 (ac _ _ c);subst this;rw[a1]at t;cases t
    .have:=l.j d h u.2.1 (ac _ _ c);subst this;rw[bm]at t;cases t
   have ak:d≠e:=by rintro rfl;exact ap Y
   have aB:d≠h:=by rintro rfl;exact ap Q
   simp only[<-m,Us ap,aj,Us ak,Us aB];exact u
  .intro a;exact Ur (aK a)
  .intro a b c;have:=ac a b;dsimp only at c|-;grind
  .intro a b U k i;dsimp only at k i|-;simp only[<-m]at k i|-;have r:=R a b;have ax:=R b U;have aC:=au a b U;grind
  .intro a b c;dsimp only at c|-;simp only[<-m]at c|-;have r:=R a b;have ag:=l.c a b;grind
  .intro a b k i;dsimp only at k i;simp only[<-m]at k i;have r:=l.j a b;grind
  .intro d;have:=E d;have:=l.n d;dsimp only;simp only[<-m];grind
  .intro d k i;dsimp only at k i|-;simp only[<-m]at k i|-;have:=E d;have:=l.v d;grind
  .intro a b c;rw[bq]at c;exact Ur (l.D a b c)
  .intro a b;simp only[am];have:=l.E a b;grind
  .intro a b c;rw[aw]at c;dsimp only;rw[af,af];simp only[<-m];have:=l.b a b;grind
  .intro a b c;rw[af]at c;rw[aw];have:=l.a a b;grind
  .intro a b c;obtain⟨k,i⟩:=a7 a b c;have u:=l.m a b k;have ak:a≠e:=by rintro rfl;exact i Y
   have aB:a≠h:=by rintro rfl;exact i Q
   dsimp only;rw[aT,aS a b i];simp only[<-m,Us i,aj,Us ak,Us aB];exact⟨u.1,u.2.1,u.2.2.1,Ur u.2.2.2.1,u.2.2.2.2⟩
  .intro a b K p;rw[aT]at p;dsimp only;simp only[<-m];obtain p|⟨rfl,rfl,rfl⟩:=p
   .have u:=l.l a b K p;by_cases c:a=h/\b=e
    .obtain⟨rfl,rfl⟩:=c;have v:=u.2.2 (by omega);refine⟨(ad _ _).2 (Ur u.1),λ_=>⟨(ai _ _).2 (Up (Up ⟨rfl,rfl⟩)),?_,by omega,by omega⟩,λc=>?_⟩
     .rw[UG Q];omega
     .exact(c ((ad _ _).2 (Up ⟨rfl,rfl⟩))).elim
    .have ak:¬(a=e/\b=h):=by rintro⟨rfl,rfl⟩;exact a8 _ p
     have k:am n.se e h 1 b a=n.se b a:=by simp only[am];grind
     have i:am n.se e h 1 a b=n.se a b:=by simp only[am];grind
     rw[k,i];refine⟨u.1,λc=>?_,λc=>?_⟩
     .have v:=u.2.1 c;have ah:=aO a b v.1;rw[Us ah.1];exact⟨(ai _ _).2 (Ur v.1),v.2⟩
     .have v:=u.2.2 c;have ah:=(a7 a b ⟨by rw[i];exact u.1,by rw[k];exact c⟩).2;rw[Us ah];exact v
   .refine⟨(ad _ _).2 (Up ⟨rfl,rfl⟩),λ_=>⟨(ai _ _).2 (Up (Ur ⟨rfl,rfl⟩)),?_,rfl,by omega⟩,λc=>?_⟩
    .rw[UG Y];omega
    .exact(c ((ad _ _).2 (Ur aR))).elim
  .intro a b;simp only[am];split
   .rw[U0];have:(kS n.q e h).countP dA=0:=V1.2 λaU p=>by cases aU<;>simp[dA];exact a8 _ p
    rw[this];simp[dA]
   .exact l.p a b
  .intro a b c;dsimp only;rw[aP];simp only[<-m,aT];obtain O|⟨rfl,rfl⟩|⟨rfl,rfl⟩:=(ai a b).1 c
   .have u:=l.h a b O;have ah:=aO a b O;have bT:¬(b=e/\a=h):=by rintro⟨rfl,rfl⟩;exact ah.1 Q
    rw[Us ah.1,Us ah.1,Us ah.2,Us ah.2];refine⟨u.1,u.2.1,?_⟩;obtain v|v|v:=u.2.2
    .exact Ur ⟨v.1,v.2.1,by grind⟩
    .exact Up (Ur ⟨v.1,v.2.1,by grind⟩)
    .exact Up (Up ⟨v.1,v.2.1,Ur v.2.2⟩)
   .rw[UG Y,UG Y,UG Q];refine⟨rfl,rfl,Up (Up ⟨by omega,bs,Ur ?_⟩)⟩;rw[bk];exact bj
   .rw[UG Q,UG Q,UG Y];refine⟨rfl,bo,Up (Up ⟨by omega,bt,Up ⟨rfl,rfl,rfl⟩⟩)⟩
  .intro a b f g k i o;dsimp only at o;simp only[<-m]at o;have r:=aO a b;have ag:=aO f g;have ax:=l.s a b f g;have aD:=R a f;obtain O|O|O:=(ai a b).1 k<;>obtain bb|bb|bb:=(ai f g).1 i<;>grind
  .intro f g c;rw[aP,aP];exact l.y f g ((M f g).1 c)
  .intro f g K w C p;rw[ba]at p;dsimp only;rw[af];simp only[<-m];have u:=l.f f g K w C p;have:=E g;refine⟨Ur u.1,?_,?_⟩<;>grind
  .intro a b k i o;rw[az]at k i;refine l.r a b k.1 i.1 ?_;dsimp only at o;simp only[<-m]at o;have:=aM a;grind
  .intro d c;dsimp only at c|-;rw[ne_eq,az];simp only[<-m]at c|-;have u:=l.i d;have v:=aM d;grind
  .intro f g c;exact l.G f g ((M f g).1 c)
  .intro d c;obtain⟨a,b,aa,ab,z,aE⟩:=l.w d c;exact⟨a,b,aa,(aw _ _).2 (Ur ab),z,Ur aE⟩
  .intro f g K w C p;rw[ba]at p;obtain⟨a,b,aa,ab,z,aE⟩:=l.A f g K w C p;exact⟨a,b,aa,(aw _ _).2 (Ur ab),z,Ur aE⟩
  .intro d c;dsimp only at c|-;by_cases t:x d
   .have ae:=(m d).1 t;rw[UG ae];exact⟨e,h,ar,(aw _ _).2 (Up (Up ⟨rfl,rfl⟩)),rfl,Up ⟨ae,Ur (aK _)⟩⟩
   .have ae:=λc=>t ((m d).2 c);rw[Us ae]at c|-;obtain⟨a,b,aa,ab,z,aE⟩:=l.M d c;exact⟨a,b,aa,(aw _ _).2 (Ur ab),z,Ur aE⟩
  .intro a d b k i o H;dsimp only at k i H|-;simp only[<-m]at k i H|-;have r:=l.u a d b;grind
  .intro d c;dsimp only;by_cases t:x d
   .have ae:=(m d).1 t;obtain⟨aF,aa,ab,z⟩:=l.x h (V.lt _ _ a5);obtain⟨bu,k,i,o⟩:=l.x e (V.lt _ _ ar);rw[UG ae];refine⟨bu++aF,Wb.2 ⟨k,aa,?_⟩,?_,λf G=>?_⟩
    .rintro f G g A rfl;exact a0 (au _ _ _ (o f G).1 (ac _ _ (z f A).1))
    .rw[Uu,i,ab,bl,Nat.pow_succ];omega
    .obtain G|G:=UP.1 G
     .exact⟨Up ⟨ae,Ur (o f G).1⟩,(o f G).2⟩
     .exact⟨Up ⟨ae,Up (z f G).1⟩,(z f G).2⟩
   .have ae:=λc=>t ((m d).2 c);obtain⟨aF,aa,ab,z⟩:=l.x d c;rw[Us ae];exact⟨aF,aa,ab,λf G=>⟨Ur (z f G).1,(z f G).2⟩⟩
  .intro a b c;rw[ad]at c;obtain c|⟨rfl,rfl⟩:=c
   .exact l.H a b c
   .exact Ur bi
  .intro a b bv bw y w C aG K;simp only[am]at aG;by_cases c:a=e/\b=h
   .rw[UG c]at aG;exfalso;have:aL y w C∈kS n.q e h++[bG (n.bE e)]:=by rw[aG];simp
    simp at this;exact a9 _ _ _ this
   .rw[Us c]at aG;exact l.K a b bv bw y w C aG K
 .rw[tW rfl];refine⟨?_,?_,?_,?_,?_,?_,D.g,?_,?_,?_,?_,D.c,?_,?_,D.f,?_⟩
  .intro d c;have:=D.a d c;have:=E d;dsimp only at c|-;simp only[<-m];grind
  .intro d k i o;have:=D.d d;have:=E d;dsimp only at k i o|-;simp only[<-m]at k i|-;grind
  .intro f g k i o;have aq:=(M f g).1 i;have:=D.j f g;have:=R f g (ao f g aq);dsimp only at k o|-;simp only[<-m]at k o|-;grind
  .intro f g k i o H;have aq:=(M f g).1 i;have:=D.i f g;have:=R f g (ao f g aq);dsimp only at k o H|-;simp only[<-m]at k o|-;grind
  .intro f g K w p k i;dsimp only at k i|-;simp only[<-m]at k i|-;have:=D.p f g K w p;have:=l.f f g K w F (rL.1 p);have:=E g;grind
  .intro f g K w p;have u:=D.q f g K w p;have v:¬x g:=λc=>by have:=E g c;omega
   dsimp only;simp only[<-m,Us v];exact⟨u.1,u.2.1,λc=>u.2.2.1 c.1,λc=>u.2.2.2 ((M f g).1 c)⟩
  .intro a b k i o H;dsimp only at k i H|-;simp only[<-m]at k i H|-;have:=D.l a b;grind
  .intro d k i;dsimp only at k i|-;simp only[<-m]at k i;have:=D.e d;have:=E d;simp only[aj];grind
  .intro a b k i o;dsimp only at i o|-;simp only[<-m]at i|-;have ap:¬x a:=λc=>by have:=E a c;rw[UG c]at i;omega
   have O:eV j a b:=by
    obtain O|⟨rfl,rfl⟩|⟨rfl,rfl⟩:=(ai a b).1 k
    .exact O
    .exact(ap Y).elim
    .exact(ap Q).elim
   rw[Us ap]at i|-;exact D.n a b O i o
  .intro f g s p;obtain⟨r,ag,ax,aD,aC,aV,aW,bx⟩|⟨r,ag,ax,aD,aC,aV,aW⟩:=D.b f g s p
   .left;have v:¬x g:=λc=>by have:=E g c;omega
    dsimp only;simp only[<-m,Us v];exact⟨r,(af _ _).2 (Ur ag),ax,aD,aC,aV,λc=>aW ((M f g).1 c),bx⟩
   .right;refine⟨(M g f).2 r,ag,ax,aD,aC,λc=>?_,aW⟩;dsimp only at c|-;simp only[<-m]at c|-;have:=E f;have:=R g f (ao g f r);grind
  .intro f g k i o H;have aq:=(M f g).1 i;dsimp only at k o|-;simp only[<-m]at o|-;rw[Us o.2];exact D.m f g k aq o.1 H
  .intro f c;dsimp only at c;obtain⟨aF,bz,bA,bC⟩:=D.h f c;have G:¬x f:=λi=>by have:=E f i;rw[c]at this;simp at this
   refine⟨aF,bz,bA,λg=>?_⟩;rw[bC];have r:=M f g;constructor
   .rintro⟨aX,aY⟩;refine⟨r.2 aX,aY.imp_left λaH aI=>aH aI.1⟩
   .rintro⟨aX,aY⟩;have bc:=r.1 aX;refine⟨bc,aY.imp_left λaH aI=>aH ⟨aI,λbD=>G ((R f g (ao _ _ bc)).2 ((m g).2 bD))⟩⟩
  .intro a b k i o;dsimp only at i o;simp only[<-m]at i o;obtain O|⟨rfl,rfl⟩|⟨rfl,rfl⟩:=(ai a b).1 k
   .rw[Us o.2]at i;exact D.o a b O i o.1
   .exact o.2 Y
   .exact o.2 Q
 .rw[tX rfl];have bU:=(X.a e (E e Y).2.2.2).1;have bV:=(X.a h (E h Q).2.2.2).1;refine⟨X.a,?_,?_,X.g,?_,?_,?_,X.d⟩
  .intro g f G;dsimp only at G|-;have r:=X.c g f G;refine⟨r.1,?_,λd aH aI=>r.2.2 d aH ((av _ _).1 aI).1⟩;rw[av,ad,ad];grind
  .intro g f k i o H aZ;dsimp only at aZ;rw[av]at aZ;exact X.h g f k i o H aZ.1
  .intro g f K w p;have r:=X.b g f K w p;dsimp only;obtain r|r:=r
   .exact Ur r
   .refine Up ⟨r.1,r.2.1,Ur r.2.2.1,r.2.2.2.1,r.2.2.2.2.1,?_⟩;rw[ne_eq,av];exact λc=>r.2.2.2.2.2 c.1
  .intro g f p;have r:=X.e g f p;have ag:n.cg g=T:=by
    cases c:n.cg g
    .have:=(X.a g c).1;rw[r.1]at this;cases this
    .rfl
   have A:¬x g:=λi=>by have:=E g i;rw[ag]at this;simp at this
   dsimp only;rw[aS g f A];simp only[<-m,Us A];exact r
  .intro g f p;have r:=X.f g f p;dsimp only;refine⟨r.1,Ur r.2.1,?_⟩;rw[ne_eq,av];exact λc=>r.2.2 c.1
 .rw[lV rfl];refine⟨?_,?_,?_,?_⟩
  .intro g k i o H;dsimp only at k i o H|-;simp only[<-m]at k i o;have A:¬x g:=λc=>by have:=E g c;rw[UG c]at i;omega
   rw[Us A]at k i o;obtain⟨aQ,aa,ab,z⟩:=an.c g k i o H;refine⟨aQ,aa,ab,?_⟩;rw[av,aS g aQ A];simp only[<-m,Us A];obtain z|z|z:=z
   .exact Ur ⟨z,A⟩
   .exact Up (Ur ⟨⟨z.1,λc=>A (c.1▸Y)⟩,z.2⟩)
   .refine Up (Up ⟨(M g aQ).2 z.1,?_,z.2.2⟩);have:=R g aQ (ao _ _ z.1);rw[Us λc=>A (this.2 c)];exact z.2.1
  .intro d t;have s:=an.b d t.2;have A:¬x d:=λc=>t.1 (aN d c s.2.1 s.2.2.1);have ak:d≠h:=by rintro rfl;exact A Q
   dsimp only;rw[az];simp only[<-m,Us A];exact⟨s.1,s.2.1,⟨s.2.2.1,t.1,ak⟩,s.2.2.2⟩
  .intro g U ay;have s:=an.a g U ay;have A:¬x g:=λc=>by have:=aN g c s.1 s.2.1;subst this;exact a3 U ay
   have O:¬x U:=λc=>A ((R g U (ao _ _ s.2.2.2.1)).2 c);have ak:g≠h:=by rintro rfl;exact A Q
   have aB:g≠e:=by rintro rfl;exact A Y
   dsimp only;rw[az];simp only[<-m,Us A,Us O];exact⟨s.1,⟨s.2.1,aB,ak⟩,s.2.2.1,(M g U).2 s.2.2.2.1,s.2.2.2.2⟩
  .intro d t a b k i;have s:=an.d d t;dsimp only at k|-;have r:=s a b;have ag:=s e h;have ax:=s h e;have aD:=ac e d;have aC:=ac h d;have aV:=ac h e;grind
 .rw[lV rfl];refine⟨?_,?_,?_,?_⟩
  .intro d t;have:=aJ.b d t.1;dsimp only;rw[Us t.2];exact this
  .intro d f k i o H;dsimp only at k i o|-;have aq:=(M d f).1 H;rw[ne_eq,az]at o;simp only[<-m]at k i|-;have r:=R d f (ao d f aq);have ag:=aJ.d d f;grind
  .intro d t;have s:=aJ.a d t.2;have v:=an.b d t.2;have A:¬x d:=λc=>t.1 (aN d c v.2.1 v.2.2.1);dsimp only;simp only[<-m,Us A];refine⟨s.1,λc=>s.2.1 c.1,λf k i c=>s.2.2 f k ((M d f).1 i) c.1⟩
  .intro g U ay;have s:=aJ.c g U ay;have v:=an.a g U ay;have A:¬x g:=λc=>by have:=aN g c v.1 v.2.1;subst this;exact a3 U ay
   dsimp only;simp only[<-m,Us A];exact⟨s.1,λc=>s.2.1 c.1,s.2.2⟩
def g0:Gh:= {fr:=λa b=>a=b,bB:=λ_=>0,j4:=λ_=>0,ph:=λ_=>2,W:=λ_=>0,bQ:=λ_=>N,gV:=λ_=>0}
def h0:Gs:= {Z:=λ_=>False,be:=λ_=>0,tg:=λ_=>False,tk:=λ_=>False,ps:=λ_=>False}
def Ji(q){f}(o:∀a,f.bE a=0)(z:∀a,f.cg a=F)(m:∀a c,f.se a c=0)(r:∀a,f.fh a=N)(A:∀a,f.ip a=0)(C:∀a,f.qK a=F)(i:∀a c,f.q a c=[])(s:∀a,f.bw a<=1001):cL q f g0 h0:=by
 have j:∀a c,kS f.q a c=[]:=λa c=>by simp[kS,i]
 have n:∀a c,kR f.q a c=[]:=λa c=>by simp[kR,i]
 have t:∀a c,kT f.q a c=[]:=λa c=>by simp[kT,i]
 have D:∀a c,kX f.q a c=[]:=λa c=>by simp[kX,i]
 have E:∀g e,¬bY g0 g e:=λg e b=>by have:=b.1;cases this
 have u:∀g e,¬eV g0 g e:=λg e b=>by have:=b.1;cases this
 have G:∀l,l∉([]:List bV):=λl=>by simp
 refine⟨?_,?_,?_,?_,?_,?_⟩;intro a c l d;rw[i]at d;cases d;refine⟨?_,?_,?_,?_,?_,?_,?_,?_,?_,?_,?_,?_,?_,?_,?_,?_,?_,?_,?_,?_,?_,?_,?_,?_,?_,?_,?_,?_,?_,?_,?_⟩;intro a c l d;rw[j]at d;cases d;intro a c d;exact(d (m a c)).elim;intro a _;exact⟨o a,rfl,rfl,rfl,rfl⟩;intro a;rfl;intro a c b;exact b.symm;intro a c g v w;exact Eq.trans v w;intro a c b;exact⟨rfl,rfl,rfl,rfl⟩;intro a c _ b;exact b;intro a;rw[o];exact UF _;intro a _ b;exact absurd b (by simp[g0]);grind;grind;intro a c b;have:=b.1;rw[m]at this;omega;intro a c b;cases b;intro a c b;have:=b.1;rw[m]at this;omega;intro a c h d;rw[j]at d;cases d;grind;simp_all;intro a c g e b;exact(u _ _ b).elim;simp_all;intro g e h k p d;rw[j]at d;cases d;intro a c _ _ b;exact b;intro a b;simp[g0]at b;simp_all;grind;intro g e h k p d;rw[j]at d;cases d;intro c b;simp[g0]at b;intro a x c _ _ _ _;exact Vl _;intro a y;exact⟨[a],by simp,by simp[g0],by simp[g0,y]⟩;grind;intro a c H K h k p d;rw[j]at d;simp at d;refine⟨?_,?_,?_,?_,?_,?_,?_,?_,?_,?_,?_,?_,?_,?_,?_,?_⟩;grind;intro a b;simp[g0]at b;grind;grind;intro g e h k d;rw[n]at d;cases d;intro g e h k d;rw[n]at d;cases d;grind;intro a c b;simp[g0]at b;intro a b;simp[g0]at b;simp_all;intro g e M d;rw[n]at d;cases d;grind;grind;grind;exact s;simp_all;refine⟨?_,?_,?_,?_,?_,?_,?_,?_⟩;intro e _;exact⟨r e,λb=>b⟩;grind;grind;grind;intro e c h k d;rw[t]at d;cases d;simp_all;simp_all;grind;refine⟨?_,?_,?_,?_⟩;grind;intro a b;cases b;simp_all;grind;refine⟨?_,?_,?_,?_⟩;intro x b;cases b;grind;intro a b;cases b;simp_all
def Af:∀(a:Nat)(b:List Nat),b.Nodup->(∀c∈b,c<a)->b.length<=a
 |0,b,_,d=>by
  cases b with
  |nil=>simp
  |cons h j=>exact absurd (d h (by simp)) (by omega)
 |a+1,b,e,d=>by
  have f:=Af a (b.erase a) (e.erase a) (λc g=>by
   have:=d c (List.mem_of_mem_erase g);have:c≠a:=λi=>by subst i;exact(List.Nodup.not_mem_erase e) g
   omega)
  rw[List.length_erase]at f;split at f<;>omega
def cL.h{a d c e}(f:cL a d c e){b}(g:b<a.n):2 ^ c.bB b<=a.n:=by obtain⟨h,i,j,k⟩:=f.a.x b g;rw[<-j];exact Af _ h i λl m=>(k l m).2
structure bT(d:Gr) where
 nb:Nat->Nat->Nat
 dg:Nat->Nat
 iU:∀a b,b<dg a->d.fg a (nb a b)
 jh:∀a b c,b<dg a->c<dg a->nb a b=nb a c->b=c
 pU:∀a e,d.fg a e->∃b,b<dg a/\nb a b=e
 CN:∀a b c,b<c->c<dg a->d.w a (nb a b)<=d.w a (nb a c)
def mD(b:ay)(c:Nat):List bV:=(b.aD.filter λa=>a.1==c).map λa=>cy a.2
structure NR(w:Gr)(u:bT w)(v:St)(k:Nat)(s:ay):Prop where
 l:v.aw k=T↔s.aP≠0
 b:v.bE k=s.aM
 g:v.eU k=s.cX
 f:v.cg k=T↔s.aP=1
 c:s.ai.length=u.dg k
 a:∀t,t<u.dg k->v.se k (u.nb k t)=s.c t
 h:∀t,t<u.dg k->s.p t=w.w k (u.nb k t)
 d:v.j6 k=s.cq.map (u.nb k)
 i:∀t,s.cq=S t->t<u.dg k
 o:v.j5 k=s.dj.map (u.nb k)
 n:∀t,s.dj=S t->t<u.dg k
 j:v.fh k=s.cB.map (u.nb k)
 r:∀t,s.cB=S t->t<u.dg k
 e:v.bw k=s.bw
 m:s.bI=(v.ip k:Int)
 q:v.qK k=s.iy
 p:1<=s.bw
structure gW(g:Gr)(d:bT g)(h:Nat->ay)(j:Nat->Nat->List bV)(f:St):Prop where
 a:∀c,NR g d f c (h c)
 q:∀c e,e<d.dg c->f.q c (d.nb c e)=j c (d.nb c e)++mD (h c) e
 b:∀c k i,bH i∈f.q c k->1<=i
def DR{a}(c:∀b,a=bH b->1<=b):cy a.a=a:=by cases a<;>simp[bV.a,cy];grind
def JD{c a b}(f:∀d,b=bH d->1<=d)(k):mD (c.d a b) k=mD c k++(if a=k then [b]else []):=by simp only[mD,ay.d,U2,Vm];by_cases e:a=k;simp[e,DR f];simp[e]
def JF{a:ay}{b c}(d:b<a.ai.length)(k):(a.e b c).c k=if k=b then c else a.c k:=by simp only[ay.c,ay.e,Vi];grind
def JI{a:ay}{b c}(k):(a.e b c).p k=a.p k:=by simp only[ay.p,ay.e,Vi];grind
def gW.c{i}{g:bT i}{k d o n' j e c}(l:gW i g (aj k d o) j e)(p:∀a,a≠d->c.aw a=e.aw a/\c.bE a=e.bE a/\c.eU a=e.eU a/\c.cg a=e.cg a/\c.se a=e.se a/\c.j6 a=e.j6 a/\c.j5 a=e.j5 a/\c.bw a=e.bw a/\c.fh a=e.fh a/\c.ip a=e.ip a/\c.qK a=e.qK a/\c.q a=e.q a)(q:NR i g c d n')(r:∀f,f<g.dg d->c.q d (g.nb d f)=j d (g.nb d f)++mD n' f)(s:∀d t m,bH m∈c.q d t->1<=m):gW i g (aj k d n') j c:=by refine⟨λa=>?_,λa f n=>?_,s⟩;by_cases h:a=d;subst h;rw[cS];exact q;have b:=l.a a;rw[dW _ _ h]at b|-;obtain⟨u,v,w,x,y,z,A,C,D,E,G,H⟩:=p a h;exact⟨by rw[u];exact b.l,by rw[v];exact b.b,by rw[w];exact b.g,by rw[x];exact b.f,b.c,by rw[y];exact b.a,b.h,by rw[z];exact b.d,b.i,by rw[A];exact b.o,b.n,by rw[D];exact b.j,b.r,by rw[C];exact b.e,by rw[E];exact b.m,by rw[G];exact b.q,b.p⟩;by_cases h:a=d;subst h;rw[cS];exact r f n;have b:=l.q a f n;rw[dW _ _ h]at b|-;grind
def gW.e{g}{d:bT g}{j b k l h}(e:gW g d (aj j b k) l h){f}(o:f<d.dg b){m}(p:∀i,m=bH i->1<=i):
 gW g d (aj j b (k.d f m)) l {h with q:=gG h.q b (d.nb b f) m}:=by
 have a:=e.a b;have r:=e.q b;rw[cS]at a r;refine e.c (λw s=>⟨rfl,rfl,rfl,rfl,rfl,rfl,rfl,rfl,rfl,rfl,rfl,?_⟩) ⟨a.l,a.b,a.g,a.f,a.c,a.a,a.h,a.d,a.i,a.o,a.n,a.j,a.r,a.e,a.m,a.q,a.p⟩ (λn t=>?_) ?_;funext x;simp[gG,am,s];simp only[gG,am];rw[JD p];by_cases u:f=n;grind;have:d.nb b n≠d.nb b f:=λv=>u (d.jh b _ _ o t v.symm);grind;intro y z i c;simp only[gG,am]at c;split at c;simp at c;obtain c|c:=c;exact e.b _ _ _ c;grind;exact e.b _ _ _ c
def gW.g{h}{c:bT h}{j b k l i}(f:gW h c (aj j b k) l i){d}(m:d<c.dg b)(n):
 gW h c (aj j b (k.e d n)) l {i with se:=am i.se b (c.nb b d) n}:=by
 have a:=f.a b;have o:=f.q b;rw[cS]at a o;refine f.c (λs q=>⟨rfl,rfl,rfl,rfl,?_,rfl,rfl,rfl,rfl,rfl,rfl,rfl⟩) ⟨a.l,a.b,a.g,a.f,by simp[ay.e,a.c],?_,?_,a.d,a.i,a.o,a.n,a.j,a.r,a.e,a.m,a.q,a.p⟩ o f.b;funext t;simp[am,q];intro e g;simp only[am];rw[JF (by rw[a.c];exact m)];by_cases p:e=d;grind;have:c.nb b e≠c.nb b d:=λr=>p (c.jh b _ _ g m r);simp[this,p,a.a e g];intro e g;rw[JI];exact a.h e g
def gW.d{g}{e:bT g}{k l h}(c:gW g e k l h){b d i m r}(v:g.fg b d)(s:l b d=i++r::m):
 ∃t,h.q b d=i++r::t/\gW g e k (am l b d (i++m)) {h with q:=am h.q b d (i++t)}:=by
 obtain⟨j,n,rfl⟩:=e.pU b d v;refine⟨m++mD (k b) j,?_,?_,?_,?_⟩;rw[c.q b j n,s];simp;intro f;have a:=c.a f;exact⟨a.l,a.b,a.g,a.f,a.c,a.a,a.h,a.d,a.i,a.o,a.n,a.j,a.r,a.e,a.m,a.q,a.p⟩;intro f w u;simp only[am];split;rename_i o;obtain⟨rfl,o⟩:=o;have:=e.jh f _ _ u n o;grind;exact c.q f w u;intro f y x p;simp only[am]at p;split at p;refine c.b b (e.nb b j) x ?_;rw[c.q b j n,s];grind;exact c.b _ _ _ p
def mV{c}(a:Nat->c)(b):aj a b (a b)=a:=by funext d;simp only[aj];split;grind;rfl
def Dl:∀(g:List (Nat×Nat))(a b:Nat),ay.kG g a=S b->a<=b/\∃c,g[b-a]?=S c/\c.2=0/\∀d,d<b-a->∀c,g[d]?=S c->c.2≠0
 |[],a,b,e=>by simp[ay.kG]at e
 |c::i,a,b,e=>by
  simp only[ay.kG]at e;split at e;rename_i h;simp at e;subst e;exact⟨UF _,c,by simp,h,λd j=>by omega⟩;rename_i h;obtain⟨p,k,l,m,n⟩:=Dl i (a+1) b e;refine⟨by omega,k,?_,m,?_⟩;rw[show b-a=(b-(a+1))+1 by omega,UH];exact l;intro d j o f;cases d with
  |zero=>simp at f;subst f;exact h
  |succ d=>rw[UH]at f;exact n d (by omega) o f
def Dj:∀(f:List (Nat×Nat))(e:Nat),ay.kG f e=N->∀(a:Nat)(c:Nat×Nat),f[a]?=S c->c.2≠0
 |[],e,d,a,c,b=>by simp at b
 |i::g,e,d,a,c,b=>by
  simp only[ay.kG]at d;split at d;cases d;rename_i h;cases a with
  |zero=>simp at b;subst b;exact h
  |succ a=>rw[UH]at b;exact Dj g (e+1) d a c b
def NR.u{d}{c:bT d}{g a h}(i:NR d c g a h){b}(n:h.u=S b):b<c.dg a/\g.se a (c.nb a b)=0/\∀e,d.fg a e->g.se a e=0->d.w a (c.nb a b)<=d.w a e:=by
 obtain⟨_,s,j,o,p⟩:=Dl _ _ _ n;simp only[XI]at j p;have k:b<c.dg a:=by rw[<-i.c];exact(Ul.1 j).1
 refine⟨k,by rw[i.a b k];simp[ay.c,j,o],λe q l=>?_⟩;obtain⟨f,m,rfl⟩:=c.pU a e q;rw[i.a f m]at l;by_cases t:f<b;have r:f<h.ai.length:=by grind
 simp[ay.c,Um r]at l;grind;by_cases u:b=f;grind;exact c.CN a b f (by omega) m
def NR.s{c}{g:bT c}{h a d}(i:NR c g h a d)(l:d.u=N):∀b,c.fg a b->h.se a b≠0:=λb m e=>by
 obtain⟨f,j,rfl⟩:=g.pU a b m;rw[i.a f j]at e;have k:f<d.ai.length:=by rw[i.c];exact j
 have:=Dj _ _ l f _ (Um k);simp[ay.c,Um k]at e;exact this e
def jf(a:Gr)(e:bT a)(f:Nat->ay)(g:Nat->Nat->List bV):Prop:=∃d h b,gW a e f g d/\cL a d h b/\(∀c,¬b.tk c)/\(∀c,¬b.tg c)
def cL.j{f b e g}(c:cL f b e g){a}(h:b.cg a=T):∃i,b.j6 a=S i:=by have d:=c.b.a a h;have j:=c.b.e a d.1 d.2.1;have k:=c.a.i a d.1;cases l:e.bQ a;grind;grind
def As{d}{k:bT d}{l b e n c q f}(g:gW d k (aj l b e) n c)(i:cL d c q f)(o:c.cg b=T)(u:¬f.tg b):
 ∃r p,gW d k (aj l b e.q) n r/\cL d r q p/\p.tk=f.tk/\p.tg=f.tg:=by
 have a:=g.a b;rw[cS]at a;unfold ay.q;split;rename_i s;obtain⟨D,t⟩:=i.j o;have j:=a.d;rw[t]at j;cases h:e.cq with
 |none=>rw[h]at j;cases j
 |some v=>
  rw[h]at j;have w:c.fh b=N:=by rw[a.j,s.2];rfl
  have x:c.ip b=0:=by have:=a.m;rw[s.1]at this;omega
  refine⟨_,_,?_,(I4 i o w u x t),rfl,rfl⟩;have y:gW d k (aj l b {e with aP:=2}) n {c with cg:=aj c.cg b F}:=by refine g.c (λE z=>⟨rfl,rfl,rfl,by simp[aj,z],rfl,rfl,rfl,rfl,rfl,rfl,rfl,rfl⟩) ⟨?_,a.b,a.g,?_,a.c,a.a,a.h,a.d,a.i,a.o,a.n,a.j,a.r,a.e,a.m,a.q,a.p⟩ (λA C=>?_) g.b;simp[(vr i o)];simp[aj];have:=g.q b A C;rw[cS]at this;exact this
  have G:=y.e (a.i v h) (m:=bH e.bw) (λH h=>by cases h;exact a.p);rw[a.e];grind
 exact⟨c,f,g,i,rfl,rfl⟩
def Av{e}{g:bT e}{o b c p f s j}(h:gW e g (aj o b c) p f)(k:cL e f s j)(q:j.tg b):
 ∃l i,gW e g (aj o b c.l) p l/\cL e l s i/\i.tk=j.tk/\i.tg=λt=>t≠b/\j.tg t:=by
 have a:=h.a b;rw[cS]at a;have w:f.cg b=T:=by cases d:f.cg b;exact((k.c.a b d).2 q).elim;rfl
 have u:c.cB=N:=by
  have:=a.j;rw[(k.c.g b q)]at this;cases d:c.cB with
  |none=>rfl
  |some n=>rw[d]at this;cases this
 unfold ay.l;split;rename_i r;have d:({c with cB:=N}:ay)=c:=by cases c;simp at u|-;exact u.symm
 rw[d];obtain⟨l,i,x,y,z,A⟩:=As h (Jb k (a.s r)) w λd=>d.1 rfl;exact⟨l,i,x,y,z,A⟩;rename_i n r;obtain⟨v,C,D⟩:=a.u r;refine⟨_,_,?_,(Ja k q (g.iU b n v) C D),rfl,rfl⟩;have E:gW e g (aj o b {c with cB:=S n}) p {f with fh:=aj f.fh b (S (g.nb b n))}:=by refine h.c (λM G=>⟨rfl,rfl,rfl,rfl,rfl,rfl,rfl,rfl,by simp[aj,G],rfl,rfl,rfl⟩) ⟨a.l,a.b,a.g,a.f,a.c,a.a,a.h,a.d,a.i,a.o,a.n,?_,?_,a.e,a.m,a.q,a.p⟩ (λH K=>?_) h.b;simp[aj];grind;have:=h.q b H K;rw[cS]at this;exact this
 rw[a.b,a.g];exact(E.e v (m:=cW c.aM c.cX) λO d=>by cases d)
def DI{g}{d:bT g}{k b l m c}(e:gW g d (aj k b l) m c){f w}(r:f<d.dg b)(o:1<=w):
 ∃h i,((w<c.bw b/\h=w/\i=S (d.nb b f))\/(¬w<c.bw b/\h=c.bw b/\i=c.j5 b))/\gW g d (aj k b (l.n f w)) m {c with bw:=aj c.bw b h,j5:=aj c.j5 b i}:=by
 have a:=e.a b;rw[cS]at a;unfold ay.n;split;rename_i j;refine⟨w,S (d.nb b f),Ur ⟨by rw[a.e];exact j,rfl,rfl⟩,?_⟩;refine e.c (λs n=>⟨rfl,rfl,rfl,rfl,rfl,rfl,by simp[aj,n],by simp[aj,n],rfl,rfl,rfl,rfl⟩) ⟨a.l,a.b,a.g,a.f,a.c,a.a,a.h,a.d,a.i,by simp[aj],?_,a.j,a.r,by simp[aj],a.m,a.q,o⟩ (λp q=>?_) e.b;grind;have:=e.q b p q;rw[cS]at this;exact this;rename_i j;refine⟨c.bw b,c.j5 b,Up ⟨by rw[a.e];exact j,rfl,rfl⟩,?_⟩;rw[mV,mV];exact e
def IE{f}{d:bT f}{e g}(u:jf f d e g){a c}(h:c<d.dg a){i l}(v:g (d.nb a c) a=i++dG::l):
 jf f d (aj e a ((e a).A c)) (am g (d.nb a c) a (i++l)):=by
 obtain⟨j,x,X,n,m,y,o⟩:=u;have p:=d.iU a c h;obtain⟨z,r,k⟩:=n.d (f.iK _ _ p) v;have A:dG∈kT j.q (d.nb a c) a:=by simp only[kT,r];simp[dm]
 have b:=n.a a;have C:gW f d (aj e a {e a with cB:=N}) (am g (d.nb a c) a (i++l)) {j with fh:=aj j.fh a N,q:=am j.q (d.nb a c) a (i++z)}:=by rw[<-mV e a]at k;refine k.c (λY D=>⟨rfl,rfl,rfl,rfl,rfl,rfl,rfl,rfl,by simp[aj,D],rfl,rfl,rfl⟩) ⟨b.l,b.b,b.g,b.f,b.c,b.a,b.h,b.d,b.i,b.o,b.n,by simp[aj],(λs E=>by cases E),b.e,b.m,b.q,b.p⟩ (λs G=>?_) k.b;have:=k.q a s G;rw[cS]at this;exact this
 obtain⟨H,K,t,M⟩:=DI C h (w:=(e a).p c) (by rw[b.h c h];exact(f.w1 _ _ p).1);rw[b.h c h]at t;obtain⟨O,Q,R,U,V,W⟩:=As M (IV m r H K t) (pZ m (m.c.e a (d.nb a c) A).1) (o a);exact⟨O,x,Q,R,U,by rw[V];exact y,by rw[W];exact o⟩
def DJ{e}{c:bT e}{k a l m d}(f:gW e c (aj k a l) m d){b}(g:b<c.dg a):
 ∃h,((d.se a (c.nb a b)=0/\h=am d.se a (c.nb a b) 2)\/(d.se a (c.nb a b)≠0/\h=d.se))/\gW e c (aj k a (l.f b)) m {d with se:=h}:=by
 have i:=f.a a;rw[cS]at i;unfold ay.f;split;rename_i j;exact⟨_,Ur ⟨by rw[i.a b g];exact j,rfl⟩,f.g g 2⟩;rename_i j;exact⟨_,Up ⟨by rw[i.a b g];exact j,rfl⟩,f⟩
def DK{d}{f:bT d}{g b h i e}(c:gW d f (aj g b h) i e):gW d f (aj g b {h with cB:=N}) i {e with fh:=aj e.fh b N}:=by have a:=c.a b;rw[cS]at a;refine c.c (λn k=>⟨rfl,rfl,rfl,rfl,rfl,rfl,rfl,rfl,by simp[aj,k],rfl,rfl,rfl⟩) ⟨a.l,a.b,a.g,a.f,a.c,a.a,a.h,a.d,a.i,a.o,a.n,by simp[aj],(λj l=>by cases l),a.e,a.m,a.q,a.p⟩ (λj m=>?_) c.b;have:=c.q b j m;rw[cS]at this;exact this
def IK{d}{b:bT d}{e f}(k:jf d b e f){a c}(g:c<b.dg a){h i}(l:f (b.nb a c) a=h++dK::i):
 jf d b (aj e a (((e a).f c).l)) (am f (b.nb a c) a (h++i)):=by
 obtain⟨z,m,A,n,o,p,C⟩:=k;obtain⟨D,q,j⟩:=n.d (d.iK _ _ (b.iU a c g)) l;rw[<-mV e a]at j;obtain⟨r,s,t⟩:=DJ j g;obtain⟨u,v,w,x,y,E⟩:=Av (DK t) (I2 o q r s) (Ur rfl);refine⟨u,m,v,w,x,by rw[y];exact p,λG H=>?_⟩;grind
def IM{k}{d:bT k}{b n}(O:jf k d b n){a e h i}(j:e<d.dg a){x y}(Q:n (d.nb a e) a=x++cW h i::y)(z:(b a).aP≠0)(f:((b a).r e h i).2=T):
 jf k d (aj b a ((b a).r e h i).1) (am n (d.nb a e) a (x++y)):=by
 obtain⟨l,o,A,C,p,q,D⟩:=O;obtain⟨ad,r,s⟩:=C.d (k.iK _ _ (d.iU a e j)) Q;rw[<-mV b a]at s;have g:=C.a a;have E:=g.l.2 z;have R:(b a).b=b a:=by simp[ay.b,z]
 unfold ay.r at f|-;rw[R]at f|-;by_cases U:(b a).aM<h;grind;rw[Us U]at f|-;have t:h<=l.bE a:=by rw[g.b];omega
 by_cases m:i≠(b a).cX;rw[UG m]at f|-;have V:=I7 p r E t (by rw[g.g];exact m);exact⟨_,o,A,s.e j (λW c=>by cases c),V,q,D⟩;rw[Us m]at f|-;have G:i=l.eU a:=by rw[g.g];exact Wa.1 m
 obtain⟨H,K,M⟩:=DJ s j;by_cases u:(b a).cB=S e;rw[UG u]at f|-;have v:l.fh a=S (d.nb a e):=by rw[g.j,u];rfl
 obtain⟨X,Y,Z,aa,ab,ae⟩:=Av (DK M) (I9 p r t G v H K) (Ur rfl);refine⟨X,o,Y,Z,aa,by rw[ab];exact q,λaf ag=>?_⟩;grind;rw[Us u]at f|-;have v:l.fh a≠S (d.nb a e):=λc=>by
  rw[g.j]at c;cases w:(b a).cB with
  |none=>rw[w]at c;cases c
  |some ac=>
   rw[w]at c;simp at c;have:=d.jh a _ _ (g.r ac w) j c;grind
 exact⟨_,o,A,M.e j (λW c=>by cases c),(I8 p r E t G v H K),q,D⟩
def cL.q{f g h d}(i:cL f g h d)(j):cL f g h {d with tk:=λa=>a≠j/\d.tk a}:=by obtain⟨k,l,m,n,b,c⟩:=i;exact⟨k,l,m,n,⟨b.c,λa e=>b.b a e.2,b.a,b.d⟩,⟨c.b,c.d,λa e=>c.a a e.2,c.c⟩⟩
def DH{d}{b:bT d}{o a f p e g h}(q:gW d b (aj o a f) p e)(r:cL d e g h){c}(i:c<b.dg a)(s:h.tk a)(t:e.se a (b.nb a c)=0)(u:d.w a (b.nb a c)=g.W a)(v:¬g.fr a (b.nb a c))(w:g.bB a<=e.bE (b.nb a c)):
 ∃x z l,gW d b (aj o a ((f.d c (bG f.aM)).e c 1)) p x/\cL d x z l/\(l.tk=λy=>y≠a/\h.tk y)/\l.tg=h.tg:=by
 have j:=q.a a;rw[cS]at j;have n:=(q.e i (m:=bG f.aM) λA k=>by cases k).g i 1;rw[<-j.b]at n;by_cases k:e.se (b.nb a c) a=1;exact⟨_,_,_,by rw[<-j.b];exact n,(I0 r s (b.iU a c i) t k u v w),rfl,rfl⟩;exact⟨_,_,_,by rw[<-j.b];exact n,(IW r s (b.iU a c i) t k u v w),rfl,rfl⟩
def Au{h}{q:bT h}{r a d s t u j}(m:gW h q (aj r a d) s t)(e:cL h t u j)(k:j.tk a)(n:1<=u.bB a):
 (∃b,d.dj=S b)/\∃v A o,gW h q (aj r a d.s) s v/\cL h v A o/\(o.tk=λw=>w≠a/\j.tk w)/\o.tg=j.tg:=by
 have i:=m.a a;rw[cS]at i;obtain⟨D,E,G,C,x,H⟩:=e.d.b a k;have K:=e.n.a a k;obtain⟨M,y,O,c⟩:=e.d.c a n C (by omega) (x n).2;have f:=i.o;rw[y]at f;cases g:d.dj with
 |none=>rw[g]at f;cases f
 |some b=>
  refine⟨⟨b,rfl⟩,?_⟩;rw[g]at f;simp at f;subst f;have l:=i.n b g;unfold ay.s;simp only[g];obtain c|c|c:=c;grind;have p:d.c b≠1:=by rw[<-i.a b l];omega
  rw[Us p];exact DH m e l k c.1 (by have:=(x n).1;omega) c.2.2.1 c.2.2.2;have z:=(e.a.a _ _ c.1.1).2;have p:d.c b=1:=by rw[<-i.a b l];exact z
  rw[UG p];exact⟨_,_,_,m.e l (λQ g=>by cases g),(I6 e k y z),rfl,rfl⟩
def zJ{d}{h:bT d}{e l}(v:jf d h e l)(u):jf d h (aj e u (e u).b) l:=by
 unfold ay.b;by_cases m:(e u).aP=0;rw[UG m];obtain⟨f,D,Y,j,i,Z,w⟩:=v;have b:=j.a u;have n:f.aw u=F:=by cases g:f.aw u;rfl;exact(b.l.1 g m).elim
 have x:f.cg u=F:=by cases g:f.cg u;rfl;have:=b.f.1 g;omega
 obtain⟨E,y,aa,ab,ac⟩:=i.a.o u n;have z:∀c,f.se u c=0:=λc=>by apply UC;intro g;have:=(i.a.e u c g).2;grind
 have k:gW d h (aj e u {e u with aM:=0,aP:=2,bI:=0}) l {f with aw:=aj f.aw u T}:=by rw[<-mV e u]at j;refine j.c (λG o=>⟨by simp[aj,o],rfl,rfl,rfl,rfl,rfl,rfl,rfl,rfl,rfl,rfl,rfl⟩) ⟨by simp[aj],E,b.g,by simp[x],b.c,b.a,b.h,b.d,b.i,b.o,b.n,b.j,b.r,b.e,by simp[(i.b.g u x)],b.q,b.p⟩ (λp q=>?_) j.b;have:=j.q u p q;rw[cS]at this;exact this
 have a:=k.a u;rw[cS]at a;split;rename_i r;have H:∀c,¬d.fg u c:=λc s=>a.s r c s (z c);refine⟨_,_,_,?_,(IZ ((C3 i n 0 λc _=>Vl _).q u) (u:=u) y H),?_,w⟩;refine k.c (λG o=>⟨rfl,rfl,rfl,rfl,rfl,rfl,rfl,rfl,rfl,rfl,by simp[aj,o],rfl⟩) ⟨a.l,a.b,a.g,a.f,a.c,a.a,a.h,a.d,a.i,a.o,a.n,a.j,a.r,a.e,a.m,by simp[aj],a.p⟩ (λp q=>?_) k.b;have:=k.q u p q;rw[cS]at this;exact this;grind;rename_i t r;obtain⟨A,K,M⟩:=a.u r;have O:¬D.fr u (h.nb u t):=λg=>by have:=i.a.j u _ y g;have C:=h.iU u t A;rw[<-this]at C;exact d.jN _ C
 obtain⟨Q,R,U,V,W,ad,X⟩:=DH k (C3 i n (d.w u (h.nb u t)) λc s=>M c s (z c)) A (Ur rfl) K (by simp[aj]) O (by dsimp only;omega);refine⟨Q,R,U,V,W,?_,by rw[X];exact w⟩;grind;rw[Us m,mV];exact v
def cL.i{c d g h}(b:cL c d g h)(a):d.ip a<=c.n:=by cases e:d.cg a;rw[b.b.g a e];exact Vl _;obtain⟨i,j,k,l⟩:=b.b.h a e;rw[<-k];refine Af _ i j λf m=>?_;exact c.lt _ _ (b.a.e f a (by have:=(b.a.a _ _ (((l f).1 m).1.1)).1;omega)).1
def Az{a}(b: -2<=a)(c:a<2 ^ 60):wrap64 a=a:=by unfold wrap64;omega
def IF{p}{f:bT p}{b s}(X:p.n<2 ^ 30)(D:jf p f b s){a d l}(n:d<f.dg a){y z}(E:s (f.nb a d) a=y++bG l::z)(G:(b a).aP≠0)(q:((b a).m d l).2=T):
 jf p f (aj b a ((b a).m d l).1) (am s (f.nb a d) a (y++z)):=by
 obtain⟨o,Y,Z,A,g,t,u⟩:=D;obtain⟨aa,r,v⟩:=A.d (p.iK _ _ (f.iU a d n)) E;rw[<-mV b a]at v;have e:=A.a a;have H:(b a).b=b a:=by simp[ay.b,G]
 unfold ay.m at q|-;rw[H]at q|-;by_cases w:l<(b a).aM;rw[UG w]at q|-;have C:l<o.bE a:=by rw[e.b];exact w
 have i:=(v.g n 1).e n (m:=aL (b a).aM (b a).cX ((b a).aP==1)) (λK j=>by cases j);have c:=i.a a;rw[cS]at c;have ab:=g.i a;unfold ay.j;cases k:o.cg a;have x:((b a).aP==1)=F:=by cases j:((b a).aP==1);rfl;rw[e.f.2 (by simpa using j)]at k;cases k
 have h:=C1 g r C o.ip (Up ⟨k,rfl⟩);rw[e.b,e.g,k]at h;rw[x]at i|-;exact⟨_,_,_,i,h,t,u⟩;have x:((b a).aP==1)=T:=by simpa using e.f.1 k
 have h:=C1 g r C _ (Ur ⟨k,rfl⟩);rw[e.b,e.g,k]at h;rw[x]at i|-;refine⟨_,_,_,?_,h,t,u⟩;have M:((b a).e d 1).bI=(o.ip a:Int):=e.m;refine i.c (λac O=>⟨rfl,rfl,rfl,rfl,rfl,rfl,rfl,rfl,rfl,by simp[aj,O],rfl,rfl⟩) ⟨c.l,c.b,c.g,c.f,c.c,c.a,c.h,c.d,c.i,c.o,c.n,c.j,c.r,c.e,?_,c.q,c.p⟩ (λQ R=>?_) i.b;simp only[aj,VR];rw[M,Az (by omega) (by omega)];simp;have:=i.q a Q R;rw[cS]at this;exact this;rw[Us w]at q|-;by_cases U:(b a).c d=0;grind;rw[Us U]at q|-;have V:bG l∈kS o.q (f.nb a d) a:=by simp only[kS,r];simp[dA]
 have W:o.se a (f.nb a d)=1:=by apply UC;intro j;have h:=e.a d n;have ad:=g.a.E a (f.nb a d);exact(g.a.m _ _ ⟨(g.a.l _ _ _ V).1,j⟩).2.2.1 (g.a.g _ _ (g.a.D a (f.nb a d) (by omega)))
 have h:=IX g r W;rw[e.b,<-e.h d n]at h;exact⟨_,_,_,v.e n (λK j=>by cases j),h,t,u⟩
def cL.o{m b g n}(d:cL m b g n){a c e h o}(i:b.q c a=h++bH e::o)(p:ci h=[])(q:b.j6 a≠S c):b.cg a=T/\1<=b.ip a:=by
 have j:bH e∈kR b.q c a:=by simp only[kR,i];simp[dN]
 obtain⟨r,k,s,y,z,A,l,t⟩|C:=d.b.b a c e j;obtain⟨u,v,D,E⟩:=d.g i p r k s t;have f:bY g a c:=⟨k,λw=>q (by rw[d.b.e a v u];exact w)⟩
 refine⟨(l f),?_⟩;obtain⟨G,H,K,x⟩:=d.b.h a (l f);have:=List.length_pos_of_mem ((x c).2 ⟨f,Up ⟨e,j⟩⟩);omega;grind
def IL{m}{d:bT m}{c t}(au:m.n<2 ^ 30)(V:jf m d c t){a e w}(v:e<d.dg a){o x}(W:t (d.nb a e) a=o++bH w::x)(p:ci o=[])(h:((c a).i e w).2=T):
 jf m d (aj c a ((c a).i e w).1) (am t (d.nb a e) a (o++x)):=by
 obtain⟨f,R,av,y,i,z,r⟩:=V;have X:=d.iU a e v;obtain⟨Y,k,g⟩:=y.d (m.iK _ _ X) W;rw[<-mV c a]at g;have b:=y.a a;have Z:1<=w:=y.b _ _ _ (by rw[k];simp);unfold ay.i at h|-;by_cases A:(c a).cq=S e;rw[UG A]at h|-;have l:f.j6 a=S (d.nb a e):=by rw[b.d,A];rfl
 by_cases U:(c a).aP=1;grind;rw[Us U]at h|-;have n:f.cg a=F:=by cases j:f.cg a;rfl;exact(U (b.f.1 j)).elim
 by_cases C:(c a).bw<w;rw[UG C]at h|-;have D:f.bw a<w:=by rw[b.e];exact C
 have u:=i.f k p l n;have E:=C2 i k p l n D;have aa:1<=R.bB a:=by obtain u|u:=u;omega;exact(i.a.i a u.2.2.2.2.1).1
 obtain⟨_,G,ab,H,ac,ad,aw,ae⟩:=Au g E (Ur rfl) aa;refine⟨G,ab,H,ac,ad,?_,by rw[ae];exact r⟩;grind;rw[Us C]at h|-;by_cases K:w=1001/\(c a).bw=1001;rw[UG K]at h|-;obtain⟨rfl,af⟩:=K;have E:=I1 i k p l n (by rw[b.e];exact af);refine⟨_,_,_,?_,E,z,r⟩;refine g.c (λag M=>⟨rfl,rfl,rfl,rfl,rfl,rfl,rfl,rfl,rfl,rfl,by simp[aj,M],rfl⟩) ⟨b.l,b.b,b.g,b.f,b.c,b.a,b.h,b.d,b.i,b.o,b.n,b.j,b.r,b.e,b.m,by simp[aj],b.p⟩ (λs O=>?_) g.b;have:=g.q a s O;rw[cS]at this;exact this;rw[Us K]at h|-;exact⟨_,_,_,g,zS i k l n,z,r⟩;rw[Us A]at h|-;have l:f.j6 a≠S (d.nb a e):=λj=>by
  rw[b.d]at j;cases Q:(c a).cq with
  |none=>rw[Q]at j;cases j
  |some s=>
   rw[Q]at j;simp at j;have:=d.jh a _ _ (b.i s Q) v j;grind
 obtain⟨n,ax⟩:=i.o k p l;have az:=i.i a;have ah:gW m d (aj c a {c a with bI:=wrap64 ((c a).bI-1)}) (am t (d.nb a e) a (o++x)) {f with ip:=aj f.ip a (f.ip a-1),q:=am f.q (d.nb a e) a (o++Y)}:=by refine g.c (λag M=>⟨rfl,rfl,rfl,rfl,rfl,rfl,rfl,rfl,rfl,by simp[aj,M],rfl,rfl⟩) ⟨b.l,b.b,b.g,b.f,b.c,b.a,b.h,b.d,b.i,b.o,b.n,b.j,b.r,b.e,?_,b.q,b.p⟩ (λs O=>?_) g.b;simp only[aj,VR];rw[b.m,Az (by omega) (by omega)];omega;have:=g.q a s O;rw[cS]at this;exact this
 obtain⟨ai,ak,D,al⟩:=DI ah v (w:=w) Z;have an:=I3 i k p l ai ak D;obtain⟨G,H,ao,ap,aq,ar⟩:=As al an n (r a);exact⟨G,R,H,ao,ap,by rw[aq];exact z,by rw[ar];exact r⟩
def CO{d}{b:bT d}{e g}(n:jf d b e g){a c}(h:c<b.dg a){i j}(o:g (b.nb a c) a=i++dO::j):
 (∃p,(e a).dj=S p)/\jf d b (aj e a (e a).s) (am g (b.nb a c) a (i++j)):=by
 obtain⟨q,r,M,s,f,O,t⟩:=n;have u:=b.iU a c h;obtain⟨Q,k,l⟩:=s.d (d.iK _ _ u) o;rw[<-mV e a]at l;have v:dO∈kX q.q (b.nb a c) a:=by simp only[kX,k];simp[jO]
 have w:=(f.d.a _ _ v).2.2.2.1;have x:=I5 f k;have y:1<=r.bB a:=by apply UC;intro R;have z:=(f.a.b _ _ (f.a.a _ _ w.1)).1;have:=f.a.j a _ (by omega) z;have m:=b.iU a c h;rw[<-this]at m;exact d.jN _ m
 obtain⟨A,C,D,E,G,H,U,K⟩:=Au l x (Ur rfl) y;refine⟨A,C,D,E,G,H,?_,by rw[K];exact t⟩;grind
def iV(b:ay)(c k d:Nat):List Nat:=(List.range' d k).filter λa=>decide (a≠c/\b.c a=1)
def xE(d e f g):∀(c b:Nat)(a:ay),0<=a.bI->a.bI+c<2 ^ 60->
 a.o d e f g c b= {a with aD:=a.aD++(iV a d c b).map λl=>(l,(aL e f g).a),bI:=if g then a.bI+(iV a d c b).length else a.bI}
 |0,b,a,j,m=>by simp[ay.o,iV]
 |c+1,b,a,j,m=>by
  rw[ay.o];by_cases h:b≠d/\a.c b=1;rw[UG h];have i:iV a d (c+1) b=b::iV a d c (b+1):=by simp only[iV,List.range'_succ,Vr,U4 h,VR]
  cases g;have:=xE d e f F c (b+1) (a.j b e f F) j (by show a.bI+c<_;omega);rw[this,i];have k:iV (a.j b e f F) d c (b+1)=iV a d c (b+1):=rfl;rw[k];simp[ay.j,ay.d];have n:wrap64 (a.bI+1)=a.bI+1:=Az (by omega) (by omega);have o:(a.j b e f T).bI=a.bI+1:=by simp[ay.j,n]
  have:=xE d e f T c (b+1) (a.j b e f T) (by omega) (by omega);rw[this,i,o];have k:iV (a.j b e f T) d c (b+1)=iV a d c (b+1):=rfl;rw[k];simp[ay.j,ay.d];omega;rw[Us h];have i:iV a d (c+1) b=iV a d c (b+1):=by simp only[iV,List.range'_succ,Vr,U7 h];rfl
  rw[xE d e f g c (b+1) a j (by omega),i]
def C4:∀(b:List Nat)(a:Nat),b.Nodup->b.filter (λg=>g==a)=if a∈b then [a]else []
 |[],a,_=>by simp
 |d::h,a,i=>by have e:=Xm.1 i;have f:=C4 h a e.2;by_cases c:d=a;subst c;simp[f,e.1];have j:¬a=d:=λk=>c k.symm;simp[c,j,f]
def Dp(a b k c):(iV a b k c).Nodup:=List.Pairwise.filter _ (List.nodup_range')
def ud(b c k a):a∈iV b c k 0↔a<k/\a≠c/\b.c a=1:=by simp[iV,List.mem_range']
def JC(e)(b:List Nat)(g:b.Nodup)(c)(h:∀f,c=bH f->1<=f)(d a):mD {e with aD:=e.aD++b.map λa=>(a,c.a),bI:=d} a=mD e a++(if a∈b then [c]else []):=by
 simp only[mD,U2,Vm];have:(b.map λa=>(a,c.a)).filter (λd=>d.1==a)=(b.filter λd=>d==a).map (λa=>(a,c.a)):=by rw[List.filter_map];rfl
 rw[this,C4 b a g];split<;>simp[DR h]
def IH{s}{b:bT s}{d y}(aI:s.n<2 ^ 30)(ad:∀ae,b.dg ae<2 ^ 30)(af:jf s b d y){a c g k e}(z:c<b.dg a){m D}(ag:y (b.nb a c) a=m++aL g k e::D)(ah:ci m=[])(ai:∀g,bG g∈m->(d a).c c=0)(ak:∀n,bH n∈m->(d a).aP=1):
 jf s b (aj d a ((d a).y c g k e)) (am y (b.nb a c) a (m++D)):=by
 obtain⟨h,al,aJ,v,o,R,aK⟩:=af;have E:=b.iU a c z;obtain⟨an,U,G⟩:=v.d (s.iK _ _ E) ag;rw[<-mV d a]at G;have i:=v.a a;have V:aL g k e∈kS h.q (b.nb a c) a:=by simp only[kS,U];simp[eF]
 have W:=o.a.a _ _ ((o.a.f _ _ _ _ _ V).1);have ao:=(o.a.e a (b.nb a c) (by have:=W.1;omega)).2;have ap:a≠b.nb a c:=λf=>by rw[<-f]at E;exact s.jN _ E
 have aq:h.cg a=F:=by cases f:h.cg a;rfl;have:=(o.b.a a f).2.1;exact(o.a.O this V).elim
 have ar:∀g,bG g∉m:=λau H=>by have j:=ai au H;have p:=W.1;rw[i.a c z]at p;omega
 have av:∀n,bH n∉m:=λn H=>by have j:=i.f.2 (ak n H);grind
 have aw:∃K:List Nat,K.Nodup/\K.length=(iV (d a) c (b.dg a) 0).length/\∀t,t∈K↔(t≠b.nb a c/\h.se a t=1):=by refine⟨(iV (d a) c (b.dg a) 0).map (b.nb a),?_,by simp,λt=>?_⟩;refine Wm.2 ?_;refine List.Pairwise.imp_of_mem ?_ (Dp (d a) c (b.dg a) 0);intro X M j p O ax;exact O (b.jh a X M ((ud _ _ _ _).1 j).1 ((ud _ _ _ _).1 p).1 ax);rw[Vb];constructor;rintro⟨A,C,rfl⟩;have j:=(ud _ _ _ _).1 C;exact⟨λf=>j.2.1 (b.jh a _ _ j.1 z f),by rw[i.a A j.1];exact j.2.2⟩;rintro⟨j,p⟩;obtain⟨A,C,rfl⟩:=b.pU a t (o.a.e a t (by omega)).1;refine⟨A,(ud _ _ _ _).2 ⟨C,λf=>j (by rw[f]),?_⟩,rfl⟩;rw[<-i.a A C];exact p
 have Y:=IY o U ah ar av (if e then (iV (d a) c (b.dg a) 0).length else 0) (by cases e;simp;exact Up ⟨rfl,aw⟩)
 have az:(d a).bI=0:=by rw[i.m,(o.b.g a aq)];rfl
 have Z:=xE c g k e (b.dg a) 0 {d a with aM:=g,cX:=k,aP:=if e then 1 else 2,cq:=S c,dj:=N,bw:=1001} (by show 0<=(d a).bI;omega) (by show (d a).bI+_<_;have:=ad a;omega);have aA:iV {d a with aM:=g,cX:=k,aP:=if e then 1 else 2,cq:=S c,dj:=N,bw:=1001} c (b.dg a) 0=iV (d a) c (b.dg a) 0:=rfl;rw[aA]at Z;have aa:gW s b (aj d a (({d a with aM:=g,cX:=k,aP:=if e then 1 else 2,cq:=S c,dj:=N,bw:=1001}:ay).o c g k e (b.dg a) 0)) (am y (b.nb a c) a (m++D)) {h with bE:=aj h.bE a g,eU:=aj h.eU a k,j6:=aj h.j6 a (S (b.nb a c)),j5:=aj h.j5 a N,bw:=aj h.bw a 1001,cg:=aj h.cg a e,ip:=aj h.ip a (if e then (iV (d a) c (b.dg a) 0).length else 0),q:=gX h.q h.se (b.nb a c) a (m++an) (aL g k e)}:=by rw[Z];refine G.c (λt r=>⟨rfl,by simp[aj,r],by simp[aj,r],by simp[aj,r],rfl,by simp[aj,r],by simp[aj,r],by simp[aj,r],rfl,by simp[aj,r],rfl,?_⟩) ⟨?_,by simp[aj],by simp[aj],?_,i.c,i.a,i.h,by simp[aj],?_,by simp[aj],(λl f=>by cases f),i.j,i.r,by simp[aj],?_,i.q,by simp⟩ (λl w=>?_) ?_;funext M;simp only[gX,am];simp[r];simp only[ao];cases e<;>simp;simp only[aj];cases e<;>simp;grind;simp only[aj,VR];rw[az];cases e<;>simp;have j:=G.q a l w;rw[cS]at j;have ab:¬(a=b.nb a c/\b.nb a l=a):=λf=>ap f.1;simp only[am,Us ab]at j;simp only[gX,am,Us ab];have p:=JC {d a with aM:=g,cX:=k,aP:=if e then 1 else 2,cq:=S c,dj:=N,bw:=1001} (iV (d a) c (b.dg a) 0) (Dp _ _ _ _) (aL g k e) (λn f=>by cases f) (if e then (d a).bI+(iV (d a) c (b.dg a) 0).length else (d a).bI) l;have O:mD {d a with aM:=g,cX:=k,aP:=if e then 1 else 2,cq:=S c,dj:=N,bw:=1001} l=mD (d a) l:=rfl;rw[O]at p;rw[p,<-UJ,<-j];by_cases f:l∈iV (d a) c (b.dg a) 0;have ac:=(ud _ _ _ _).1 f;have Q:b.nb a l≠b.nb a c:=λx=>ac.2.1 (b.jh a _ _ w z x);rw[UG f,UG ⟨VU,Q,by rw[i.a l w];exact ac.2.2⟩];rw[Us f,Us];simp;rintro⟨_,Q,aB⟩;exact f ((ud _ _ _ _).2 ⟨w,λx=>Q (by rw[x]),by rw[<-i.a l w];exact aB⟩);intro X M n u;simp only[gX]at u;split at u;refine v.b (b.nb a c) a n ?_;grind;split at u;simp at u;exact v.b _ _ _ u;exact v.b _ _ _ u
 unfold ay.y;rw[i.c];cases e;refine⟨_,_,_,aa,Y.2.2,R,λx aC=>?_⟩;grind;obtain⟨aD,aE,aF,aG,aH,aN⟩:=Av aa Y.2.2 (Ur ⟨rfl,rfl⟩);refine⟨aD,al,aE,aF,aG,by rw[aH];exact R,λx aC=>?_⟩;grind
def vy(a:ay):a.b.aP≠0:=by unfold ay.b;split;split;simp;simp[ay.d,ay.e];assumption
def uh{n:ay}(a:n.aP≠0):n.b=n:=by simp[ay.b,a]
def DU(a:ay):a.b.b=a.b:=uh (vy a)
def zR(a:ay)(b c):a.b.m b c=a.m b c:=by unfold ay.m;rw[DU]
def Ax(a:ay)(b c d):a.b.r b c d=a.r b c d:=by unfold ay.r;rw[DU]
def xF{d}(b)(a:Nat)(e c:d):aj (aj b a e) a c=aj b a c:=by funext f;simp only[aj];split<;>rfl
def zI{n:ay}{b c}(a:(n.a b c).2=F):(n.a b c).1=n.b/\((n.b).a b c).2=F:=by
 cases c with
 |bG e=>
  simp only[ay.a,zR];refine⟨?_,a⟩;simp only[ay.a,ay.m]at a|-;split;grind;rename_i d;rw[Us d]at a;split;rfl;grind
 |aL e h j=>simp[ay.a]at a
 |cW e h=>
  simp only[ay.a,Ax];refine⟨?_,a⟩;simp only[ay.a,ay.r]at a|-;split;rfl;rename_i d;rw[Us d]at a;split;grind;rename_i i;rw[Us i]at a;split;grind;grind
 |dG=>simp[ay.a]at a
 |dK=>simp[ay.a]at a
 |bH k=>
  simp only[ay.a,ay.i]at a;by_cases f:n.cq=S b;by_cases g:n.aP=1;rw[(uh (n:=n) (by omega))];simp[ay.a,ay.i,f,g];rw[UG f,Us g]at a;split at a;cases a;split at a<;>cases a;grind
 |dO=>simp[ay.a]at a
def IJ{l}{h:bT l}{c n}(o:l.n<2 ^ 30)(u:∀v,h.dg v<2 ^ 30)(d:jf l h c n){b i m}(e:i<h.dg b){j s}(f:n (h.nb b i) b=j++m::s)(p:∀w∈j,((c b).a i w).2=F)(x:(c b).aP=0->j=[])(q:((c b).a i m).2=T):
 jf l h (aj c b ((c b).a i m).1) (am n (h.nb b i) b (j++s)):=by
 have t:ci j=[]:=by apply Vp.2;rintro⟨r,E,y⟩ g;have:=p _ ((jE _).1 g);simp[ay.a]at this
 cases m with
 |bG r=>
  have k:=IF o (zJ d b) e f (by rw[cS];exact vy _) (by rw[cS,zR];exact q);rw[cS,zR,xF]at k;exact k
 |aL r z y=>
  refine IH o u d e f t (λG g=>?_) λA g=>?_;have C:(c b).aP≠0:=λD=>by rw[x D]at g;cases g
  have a:=p _ g;simp only[ay.a,ay.m,uh C]at a;split at a;cases a;split at a;assumption;cases a;have a:=p _ g;simp only[ay.a,ay.i]at a;split at a;split at a;assumption;split at a;cases a;split at a<;>cases a;cases a
 |cW r z=>
  have k:=IM (zJ d b) e f (by rw[cS];exact vy _) (by rw[cS,Ax];exact q);rw[cS,Ax,xF]at k;exact k
 |dG=>exact IE d e f
 |dK=>exact IK d e f
 |bH A=>exact IL o d e f t q
 |dO=>exact(CO d e f).2
def kY(a n':ay):Prop:=n'.an=a.an/\(a.aP≠0->n'.aP≠0)
def kY.b(a):kY a a:=⟨rfl,id⟩
def kY.a{a b c}(d:kY a b)(k:kY b c):kY a c:=⟨k.1.trans d.1,λe=>k.2 (d.2 e)⟩
def Ao(a b c):kY a (a.d b c):=⟨rfl,id⟩
def DB(a b c):kY a (a.e b c):=⟨rfl,id⟩
def xC(a):kY a a.b:=by unfold ay.b;split;split;exact⟨rfl,λ_=>by simp⟩;exact⟨rfl,λ_=>by simp[ay.d,ay.e]⟩;exact kY.b a
def DC(a b c d e):kY a (a.j b c d e):=by unfold ay.j;split;exact⟨rfl,id⟩;exact⟨rfl,id⟩
def An(a):kY a a.q:=by unfold ay.q;split;split;exact⟨rfl,λ_=>by simp⟩;exact⟨rfl,λ_=>by simp[ay.d]⟩;exact kY.b a
def Ap(a):kY a a.l:=by unfold ay.l;split;exact kY.a ⟨rfl,id⟩ (An _);exact⟨rfl,id⟩
def DD(d e f g):∀c b a,kY a (a.o d e f g c b)
 |0,b,a=>kY.b a
 |c+1,b,a=>by unfold ay.o;refine kY.a ?_ (DD d e f g c (b+1) _);split;exact DC _ _ _ _ _;exact kY.b a
def Am(a b):kY a (a.f b):=by unfold ay.f;split;exact DB _ _ _;exact kY.b a
def Dz(a b c):kY a (a.n b c):=by unfold ay.n;split;exact⟨rfl,id⟩;exact kY.b a
def DA(a):kY a a.s:=by unfold ay.s;split;exact kY.b a;split;exact⟨rfl,id⟩;exact⟨rfl,id⟩
def rP(a c g):kY a (a.a c g).1:=by
 cases g with
 |bG d=>
  simp only[ay.a,ay.m];refine kY.a (xC a) ?_;split;exact kY.a (DB _ c 1) (DC _ _ _ _ _);split;exact kY.b _;exact Ao _ _ _
 |aL d f e=>
  have b:kY a ({a with aM:=d,cX:=f,aP:=if e then 1 else 2,cq:=S c,dj:=N,bw:=1001}:ay):=⟨rfl,λ_=>by cases e<;>simp⟩
  have h:=kY.a b (DD c d f e a.ai.length 0 _);cases e;exact h;exact kY.a h (Ap _)
 |cW d f=>
  simp only[ay.a,ay.r];refine kY.a (xC a) ?_;split;exact kY.b _;split;exact Ao _ _ _;split;exact kY.a (Am _ _) (Ap _);exact kY.a (Am _ _) (Ao _ _ _)
 |dG=>
  have b:kY a ({a with cB:=N}:ay):=⟨rfl,id⟩
  exact kY.a (kY.a b (Dz _ _ _)) (An _)
 |dK=>exact kY.a (Am _ _) (Ap _)
 |bH i=>
  simp only[ay.a,ay.i];split;split;exact kY.b _;split;exact DA _;split;exact⟨rfl,id⟩;exact kY.b _;have b:kY a ({a with bI:=wrap64 (a.bI-1)}:ay):=⟨rfl,id⟩
  exact kY.a (kY.a b (Dz _ _ _)) (An _)
 |dO=>exact DA _
def DT(a:ay)(b):({a with an:=b}:ay).b= {a.b with an:=b}:=by unfold ay.b;split;have c:({a with aM:=0,aP:=2,bI:=0,an:=b}:ay).u=({a with aM:=0,aP:=2,bI:=0}:ay).u:=rfl;rw[c];split<;>rfl;rfl
def II(a:ay)(d b c):(({a with an:=d}:ay).a b c).2=(a.a b c).2:=by
 cases c with
 |bG e=>
  simp only[ay.a,ay.m,DT];split;rfl;have f:({a.b with an:=d}:ay).c b=a.b.c b:=rfl;rw[f];split<;>rfl
 |aL e g h=>rfl
 |cW e g=>
  simp only[ay.a,ay.r,DT];split;rfl;split;rfl;split<;>rfl
 |dG=>rfl
 |dK=>rfl
 |bH i=>
  simp only[ay.a,ay.i];split;split;rfl;split;rfl;split<;>rfl;rfl
 |dO=>rfl
end Go.Proofs.YtlfijfodklhplaaGreat.Ghs
