import Derived.Test.YtlfijfodklhplaaGreatAl21b
set_option maxRecDepth 100000
set_option maxHeartbeats 8000000
set_option linter.all false
open Go.RowKit Go.Proofs.Tryz
open Go.Value renaming int->I,slice->L,pointer->P,bool->B
open Go.IntKind renaming i64->J
open Option renaming some->S,none->N
open Bool renaming true->T,false->F
namespace Go.Proofs.YtlfijfodklhplaaGreat
def FI{b:En}{c m}(e:∀a d,b.aO[a]?=S (S d)->b.aT+a<65536)(g:c<65536):∀a d,(b.a c m).aO[a]?=S (S d)->(b.a c m).aT+a<65536:=by unfold En.a;by_cases f:b.aT<=c;rw[UG f];split;intro a d h;grind;exact e;rw[Us f];exact e
def GU{c:En}{a d}(b:(c.j a).aO[0]?=S (S d)):a<c.aO.length/\c.aO[a]?=S (S d):=by
 unfold En.j at b;by_cases e:a<c.aO.length;rw[Ux (by rw[U5];omega),VC,Vn]at b;exact⟨e,b⟩;rw[U6 (by omega),VG]at b;cases a with
 |zero=>simp at b
 |succ a=>simp[List.replicate_succ]at b
def GV{a:En}{j}(c:a.aO.length=4):∃b,(a.j j).aO[0]?=S b:=by
 have d:0<(a.j j).aO.length:=by unfold En.j;simp only[Uu,U5,List.length_replicate];omega
 simp_all
def G3{a}(b:a[0]?=S N):En.dU a=[]:=by
 cases a with
 |nil=>rfl
 |cons c d=>simp at b;subst b;rfl
def Rr(h k f M)(b:Nat)(m u D)(bl:cV D h f M)(bQ:Lk k f)(bR:Cr 81 #[u] D (.tuple #[.agg (fc T (b:Int) (m.a:Int) (m.c:Int) (m.b:Int) m.d),.int J 0]) λU=>ae aa D U)(bS:b<65536)(bT:∀p a,k.aO[p]?=S (S a)->k.aT+p<65536)(bU:k.aT<=65536)(bV:(f.bD.length:Int)<5864061014000):
 Calls prog 132 #[P (S ⟨h,0,N⟩),u] D λa U=>∃q C bW y,a= .returned (L q (k.q b m).length C)/\RV U 76 4 q (k.q b m).length C (cH (k.q b m))/\(∀c,ag q c->D.heap.size<=c/\¬hJ h y c)/\cV U h bW y/\Lk (k.i b m) bW/\fR D U h M y:=by
 have bX:=@af _ bR;have ad:=@aC _ _ bl bQ;have aA:=@gA _ _ _ _ bS bT bU bV;clear bR bl bQ bS bT bU bV;go_enter func132,ntmps132;go_wp2_with fail;refine bX.mono ?_;rintro a w1 ⟨rfl,bY⟩;have bx:=@af _ bY;clear bX bY;go_wp2_with fail;obtain⟨aQ,bm⟩:=ah (w1.alloc (.cells #[B T,I J b,I J m.a,I J m.c,I J m.b,B m.d] 78));have bz:aq aQ w1.heap.size #[B T,I J b,I J m.a,I J m.c,I J m.b,B m.d] 78:=by rw[bm];exact aq.e _ _ _
 have bA:ae aa D aQ:=by rw[bm];exact bx.b _
 rw[<-bm];obtain⟨bn,bZ⟩:=ah w1.heap.size;rw[<-bZ]at bz|-;have bB(_:=()):aq aQ bn #[B T,I J b,I J m.a,I J m.c,I J m.b,B m.d] 78/\ae aa D aQ/\cV aQ h f M/\D.heap.size<=bn:=⟨bz,bA,ad.1.a bA λ_ _ a=>a,by have:=bx.size;omega⟩
 have cj:¬h=bn:=by have ai:=ad.1.cG.b;have ab:=bx.size;omega
 have cA:¬bn=h:=λk=>cj k.symm;clear bm bz bZ bA;go_loopw [7,8] (λck u wr=>∃(p:Nat)(av:Bool),p<=f.cw.length/\u= .int J p/\ck=B av/\(av=T↔∃a∈f.cw.take p,a.1=b)/\ae aa aQ wr) λ_ u _=>f.cw.length-(intOf u).toNat;case atStart=>exact⟨0,F,by omega,rfl,rfl,by simp,ae.a _ _⟩
 case round=>
  obtain⟨p,av,aw,rfl,rfl,b0,bo⟩:=hrel;have aj:=@aC _ _ b0 bo;have aB:=bB.2.2.1.a bo λ_ _ a=>a;have bp:=bB.1.c bo λk=>k;have aD:=aB.cG.a 4;simp[fJ]at aD;have aS:=bp.a 1;simp at aS;have ak:=aB.cG.b;have bC:=bp.b;have bq:=@aC _ _ aB bp;clear b0 bo bp;by_cases br:p<f.cw.length
  .as_aux_lemma=>
   obtain⟨a,aT⟩:∃a,f.cw[p]?=S a:=⟨_,Um br⟩
   obtain⟨c,R,b1,cB,b2⟩:=aB.r p a aT;rw[b1]at aD;have aE:=b2 0 _ rfl;have cC:(p:Int)<f.cw.length:=by omega
   have cD:(p:Int)<1000:=by have:=ad.2.l;omega
   have v(_:=()):f.cw.take (p+1)=f.cw.take p++[a]:=by rw[Vz,aT];rfl
   obtain⟨b3,cE⟩:=a;simp only[Vn]at aE;clear aB b1 b2 aT;have aR:=@af _ br;clear aw br;cases av;by_cases bE:b3=b
   .subst bE;go_wp2_with fail;go_quiet (fail);go_wp2;refine⟨⟨p+1,T,by have:=aR;omega,by go_num,by simp,?_,aj.2.drewN _⟩,by have:=aR;simp[intOf];omega⟩;rw[v];simp
   .have cl:¬(b3:Int)=b:=by omega
    have cm:=@af _ bE;clear bE;go_wp2_with fail;go_quiet (fail);go_wp2;refine⟨⟨p+1,F,by have:=aR;omega,by go_num,by simp[cl],?_,aj.2.drewN _⟩,by have:=aR;simp[intOf];omega⟩;rw[v];have o:=aj.1;constructor;intro bl;cases bl;rintro⟨r,ax,bs⟩;obtain ax|ax:=UP.1 ax;exact o.2 ⟨r,ax,bs⟩;simp at ax;subst ax;exact(cm () bs).elim
   .go_wp2_with fail;go_quiet (fail);go_wp2;refine⟨⟨p+1,T,by have:=aR;omega,by go_num,by simp,?_,aj.2.drewN _⟩,by have:=aR;simp[intOf];omega⟩;rw[v];obtain⟨r,ax,bs⟩:=aj.1.1 (by trivial);exact⟨λ_=>⟨r,List.mem_append_left _ ax,bs⟩,λ_=>rfl⟩
  .have cn:p=f.cw.length:=by omega
   subst cn;have v(_:=()):(av=T↔∃a∈f.cw,a.1=b):=by have:=aj.1;rwa [Vu]at this
   have ay:=aB.cG.a 3;simp[fJ]at ay;clear aB br aw;go_upto_region 14 with fail;go_cut [88] (λu ac=>∃bt:Bool,u=B bt/\(bt=T↔(f.bu<=b/\b<f.bu+4/\¬∃a∈f.cw,a.1=b))/\ae aa wr ac);case first=>
    have cF:(f.bu:Int)<=65536:=by have o:=aA.2.2.1;have ai:=ad.2.a;omega
    by_cases bv:f.bu<=b;have co:(f.bu:Int)<=b:=by omega
    by_cases bw:b<f.bu+4;have cp:(b:Int)<f.bu+4:=by omega
    cases av
    .have E(_:=()):(f.bu<=b/\b<f.bu+4/\¬∃a∈f.cw,a.1=b):=⟨bv,bw,λaT=>by have:=v.2 aT;cases this⟩
     clear bv bw;go_wp2_with fail;go_quiet (fail);go_wp2;go_meet;case rel=>exact⟨T,by simp,⟨λ_=>E,λ_=>rfl⟩,(ae.a aa wr).drewN _⟩
    .have E(_:=()):¬(f.bu<=b/\b<f.bu+4/\¬∃a∈f.cw,a.1=b):=λs=>s.2.2 (v.1 (by trivial));clear bv bw;go_wp2_with fail;go_quiet (fail);go_wp2;go_meet;case rel=>exact⟨F,by simp,⟨λs=>Bool.noConfusion s,λs=>(E () s).elim⟩,(ae.a aa wr).drewN _⟩
    .have cp:(f.bu:Int)+4<=(b:Int):=by omega
     have E(_:=()):¬(f.bu<=b/\b<f.bu+4/\¬∃a∈f.cw,a.1=b):=λs=>bw s.2.1;have cG:decide ((b:Int)<f.bu+4)=F:=by simp;omega
     have cI:decide (b<f.bu+4)=F:=by simp;omega
     cases av;all_goals
     go_wp2_with fail;go_quiet (fail);go_wp2;go_meet;case rel=>exact⟨F,by simp,⟨λs=>Bool.noConfusion s,λs=>(E () s).elim⟩,(ae.a aa wr).drewN _⟩
    .have co:(b:Int)<f.bu:=by omega
     have E(_:=()):¬(f.bu<=b/\b<f.bu+4/\¬∃a∈f.cw,a.1=b):=λs=>bv s.1;have cJ:decide ((f.bu:Int)<=b)=F:=by simp;omega
     have cK:decide (f.bu<=b)=F:=by simp;omega
     cases av;all_goals
     go_wp2_with fail;go_quiet (fail);go_wp2;go_meet;case rel=>exact⟨F,by simp,⟨λs=>Bool.noConfusion s,λs=>(E () s).elim⟩,(ae.a aa wr).drewN _⟩
   case rest=>
   obtain⟨bt,rfl,b4,az⟩:=hcut;have E:=@aC _ _ b4 az;clear b4 az ay aD aS ak bC;have b5(_:=()):(k.a b m).aO.length=4:=by have bF:=ad.2.c;unfold En.a;split;split;simpa using bF;exact bF;exact bF
   have z:=@cf _ _ _ (bq.1.a E.2 λ_ _ a=>a) (bq.2.c E.2 λk=>k) ((bB.2.1.c aj.2).c E.2);cases bt
   .have hcut:∃(V:Rf)(al:Rp),cV wc h V al/\Lk (k.a b m) V/\fR D wc h M al/\V.bD=f.bD:=⟨f,M,z.1,by rw[ad.2.A b m λs=>by have:=E.1.2 s;cases this];exact ad.2,fR.c h M z.2.2,rfl⟩
    clear z E bq aj v;obtain⟨V,al,aU,aF,aV,aW⟩:=hcut;have W:=@gA _ _ _ _ aU aF aV aW;clear aU aF aV aW;go_wp2_with fail;go_loopw [9] (λu wr=>∃(g:List Fr.cF)(q:Option Addr)(C:Nat)(e:Rf)(l:Rp),u=L q g.length C/\g.length<=4/\RV wr 76 4 q g.length C (cH g)/\(∀c,ag q c->D.heap.size<=c/\¬hJ h l c)/\En.dU (k.a b m).aO=g++En.dU ((k.a b m).j g.length).aO/\Lk ((k.a b m).j g.length) e/\cV wr h e l/\fR D wr h M l/\e.bD=f.bD) λu _=>4-uK u;case atStart=>exact⟨[],N,0,V,al,rfl,by simp,RV.d _ _ _,λc n=>(b8 c n).elim,by rw[VD,uX];rfl,by rw[VD,uX];exact W.2.1,W.1,W.2.2.1,W.2.2.2⟩
    case round=>
     obtain⟨g,q,C,e,l,rfl,aX,aY,aZ,a0,a1,aG,a2,a3⟩:=hrel;have d:=@zu _ _ _ _ _ _ _ _ aX aY aZ a0 a1 aG a2 a3;clear aX aY aZ a0 a1 aG a2 a3 W;have am:=b5;obtain⟨bG,A⟩:=GV (j:=g.length) am;cases bG with
     |none=>
      as_aux_lemma=>
      have v:=@af _ (If h e l wr d.2.2.2.2.2.1 (d.2.2.2.2.1.p A) (by have:=d.2.2.2.2.1.l;omega));have O(_:=()):g=k.q b m/\(k.a b m).j g.length=(k.a b m).g:=by have o:=d.2.2.2.1;rw[G3 A,VJ]at o;refine⟨o.symm,?_⟩;rw[<-o];rfl
      clear A am;go_wp2_with fail;refine Uq v ?_;rintro a w ⟨rfl,Q⟩;have bH:=@af _ Q;have ab:=d.2.2.2.2.2.1.a Q λ_ _ a=>a;have ay:=ab.cG.a 3;simp[fJ]at ay;have ak:=ab.cG.b;have t(_:=()):∀R,cV (w.alloc R) h e l/\ae aa wr (w.alloc R):=λR=>⟨ab.a ((ae.a aa w).b R) λ_ _ a=>a,Q.b R⟩
      clear v Q ab;go_upto_region 20 with fail;go_cut [118] λu ac=>u=B (decide (e.bu<65536))/\cV ac h e l/\ae aa wr ac;case first=>
       go_wp2;go_meet;case rel=>exact⟨by simp;omega,(t () _).1,(t () _).2⟩
      case rest=>
      obtain⟨rfl,an,az⟩:=hcut;have G:=@aC _ _ an az;have a4:=an.cG.a 3;simp[fJ]at a4;have bI:=an.cG.b;clear an az ay ak t bH;cases X:decide (e.bu<65536)
      .have ao(_:=()):e.e=e:=by unfold Rf.e;rw[Us (by simpa using X)]
       clear X;go_wp2;go_ret;refine⟨q,C,e,l,by rw[<-O.1];rfl,?_,d.2.2.1,G.1,?_,d.2.2.2.2.2.2.1.a (fR.c h l G.2)⟩;rw[<-O.1];exact d.2.1.a G.2 λ_ _ a=>a;have o:=d.2.2.2.2.1;rw[O.2]at o;have ai:=o.n;rw[ao]at ai;exact ai
      .have ao(_:=()):e.e= {e with bD:=e.bD++[⟨F,e.bu,Fr.dq⟩]}/\e.bu<65536:=⟨by unfold Rf.e;rw[UG (by simpa using X)],by simpa using X⟩
       have a5(_:=()):Cr 134 #[P (S ⟨h,0,N⟩),.agg #[B F,I J e.bu,I J 0,I J 0,I J 0,B F]] wc (.tuple #[]) λU=>∃y,cV U h {e with bD:=e.bD++[⟨F,e.bu,Fr.dq⟩]} y/\fR wc U h l y/\y.sa=l.sa/\y.sc=l.sc/\y.ka=l.ka/\y.kc=l.kc:=
        y7 h e l ⟨F,e.bu,Fr.dq⟩ ⟨ao.2,Up ⟨rfl,rfl⟩⟩ wc G.1 (by rw[d.2.2.2.2.2.2.2];have:=aA.2.2.2;omega)
       clear X;go_wp2_with fail;refine Uq a5 ?_;rintro a aH ⟨rfl,bJ,Y,a6,_⟩;have x:=@aC _ _ Y a6;clear Y a6 a5 a4 bI;go_wp2;go_ret;refine⟨q,C,e.e,bJ,by rw[<-O.1];rfl,?_,λc n=>⟨(d.2.2.1 c n).1,λa=>?_⟩,by rw[ao.1];exact x.1,?_,(d.2.2.2.2.2.2.1.a (fR.c h l G.2)).a x.2⟩;rw[<-O.1];exact(d.2.1.a G.2 λ_ _ a=>a).a x.2.b λc n a=>(d.2.2.1 c n).2 (Ur a);obtain r|r:=x.2.d c a;exact(d.2.2.1 c n).2 r;have o:=d.2.1.b c n;have ai:=G.2.size;omega;have o:=d.2.2.2.2.1;rw[O.2]at o;exact o.n
     |some i=>
      as_aux_lemma=>
      obtain⟨aI,a7⟩:=GU A;obtain⟨ap,ar,aJ,a8⟩:=d.2.2.2.2.1.u i A;have bK:=FI (m:=m) aA.2.1 aA.1 _ _ a7;have bL:e.bu=(k.a b m).aT+g.length:=(d.2.2.2.2.1.a).symm;have v(_:=()):_:=Ig h e l wr d.2.2.2.2.2.1 ap ar i aJ a8 (by have:=d.2.2.2.2.1.l;omega) (by omega);have Z(_:=()):Lk ((k.a b m).j (g++[i]).length) {e with cw:=ap++ar,bu:=e.bu+1}/\En.dU (k.a b m).aO=(g++[i])++En.dU ((k.a b m).j (g++[i]).length).aO/\g.length<4:=by refine⟨?_,B2 _ g i d.2.2.2.1 A aI,by omega⟩;have o:=d.2.2.2.2.1.r i A ap ar aJ;rw[yX _ _ aI]at o;rw[Uu,VH];exact o
      clear A aI a7 aJ a8 bK bL am;go_wp2_with fail;refine Uq v ?_;rintro a w ⟨rfl,aK,a9,aL⟩;have ba:=d.2.1.a aL.b λc n a=>(d.2.2.1 c n).2 (Ur a);have t:=@cf _ _ _ a9 aL ba;clear a9 aL v ba;go_upto_region 19 with fail;obtain⟨H,au⟩:=ah (w.alloc (.cells #[I J i.a,I J i.c,I J i.b,B i.d] 76));have K:aq H w.heap.size #[I J i.a,I J i.c,I J i.b,B i.d] 76:=by rw[au];exact aq.e _ _ _
      have aM:ae aa w H:=by rw[au];exact(ae.a aa w).b _
      rw[<-au];obtain⟨cq,bb⟩:=ah w.heap.size;rw[<-bb]at K|-;have aE:=K.a 0;have bc:=K.a 1;have bd:=K.a 2;have be:=K.a 3;simp at aE bc bd be;have bM:=K.b;have bf:=t.2.2.a aM λ_ _ a=>a;have aN:=@af _ aM;have cr:(g.length:Int)<4:=by have:=Z.2.2;omega
      clear au K bb aM;go_wp2_with (at_builtin;refine wO _ rfl (.tmp 110) (.tmp 112) 112 rfl 76 (.agg #[I J 0,I J 0,I J 0,B F]) 4 32 underlying112 wv rfl q g.length C rfl (cH g) (bf.c _) ⟨H.heap.size,0,N⟩ 1 1 (by omega) rfl (dy i) rfl (ke H (dy i) 76 _ rfl) (by simpa [cH]using wj [i]) (by omega) (by omega) ?_;intro aO bg aH Y bh bi);have bj:=((ae.a _ H).b _).c bi;have x(_:=()):RV aH 76 4 aO (g.length+1) bg (cH g++dy i)/\(∀c,ag aO c->ag q c\/H.heap.size<=c)/\ae (ag q) H aH:=⟨Y,λc n=>(bh c n).imp id (λk=>by rw[k];simp),bj⟩
      clear Y bh bi bj bf aE bc bd be bM;go_roundw;case rel=>
       have bN:=d.2.1.b;have cs:=t.2.1.b.size;have ct:=aN.size;have cu:=d.2.2.2.2.2.2.1.b.size;have bk:∀c,ag q c->¬hJ h aK c:=λc n a=>by obtain r|r:=t.2.1.d c a;exact(d.2.2.1 c n).2 r;have:=bN c n;omega
       refine⟨g++[i],aO,bg, {e with cw:=ap++ar,bu:=e.bu+1},aK,by simp,by have:=Z.2.2;simp;omega,?_,λc n=>?_,Z.2.1,Z.1,(t.1.a aN λ_ _ a=>a).a x.2.2 λp aw a=>bk p a aw,?_,d.2.2.2.2.2.2.2⟩;rw[wh,Uu];have:cH [i]=dy i:=by simp[cH]
       rw[this];exact x.1;obtain r|r:=x.2.1 c n;exact⟨(d.2.2.1 c r).1,bk c r⟩;refine⟨by omega,λa=>?_⟩;have:=t.1.b c a;omega;have aP:=(d.2.2.2.2.2.2.1.a t.2.1).a (fR.c h aK aN);refine⟨aP.e,aP.f,aP.b.g x.2.2 λp aw a=>?_⟩;have:=(d.2.2.1 p a).1;omega
      case measure=>simp[uK];have:=Z.2.2;omega
   .have b6:Lk (k.a b m) (f.i b m):=by have s:=E.1.1 (by trivial);exact ad.2.y b m s.1 s.2.1 s.2.2
    have b7:=@af _ b6;have aD:=z.1.cG.a 4;simp[fJ]at aD;have b9:=z.1.cG.d 4;have ak:=z.1.cG.b;have bC:=z.2.1.b;have ca:=z.1.nI;have bO:=z.1.f;have aS:=z.2.1.a 1;have cb:=z.2.1.a 2;have cc:=z.2.1.a 3;have cd:=z.2.1.a 4;have ce:=z.2.1.a 5;simp at aS cb cc cd ce;have am:=ad.2.l;clear b6;go_upto_region 15 with fail;go_cut [] (λac=>∃(V:Rf)(al:Rp),cV ac h V al/\Lk (k.a b m) V/\fR D ac h M al/\V.bD=f.bD);case first=>
     go_region_law (refine Cm rfl (.tmp 93) (.tmp 99) 148 rfl 283 (.agg #[I J 0,I J 0,I J 0,I J 0,B F]) 5 40 underlying148 Br rfl M.ka f.cw.length M.kc rfl (fB f.cw) (ca.drew.c _) ⟨wc.heap.size,0,N⟩ 1 1 (by omega) rfl (qr (b,m)) rfl (ke wc.drew (qr (b,m)) 283 _ (by simp)) (by simpa [fB]using Bq [(b,m)]) (by omega) (by omega) ?_;intro cg ch ci aG cv cx;have Q:ae (ag M.ka) wc ci:=(((ae.a _ wc).drew).b _).c cx;have cL:=(Q.f h 4 ak bO).trans aD;have cM:=(Q.h h 4 ak bO).trans b9);all_goals
      have bP:=z.1.u (w1:=ci) (f.cw++[(b,m)]) cg ch (by rw[Uu,Bo];simpa [fB]using aG) (λcy cz=>(cv cy cz).imp id λk=>by rw[k];simp) Q;have aF:(f.cw++[(b,m)]).length=f.cw.length+1:=by simp
      rw[aF]at bP;go_wp2_with fail;go_meet;case rel=>exact⟨f.i b m, {M with ka:=cg,kc:=ch},bP.1,b7,(fR.c h M z.2.2).a bP.2,rfl⟩
    case rest=>
    clear z E bq aj v b7 aD b9 ak bC ca bO aS cb cc cd ce am;obtain⟨V,al,aU,aF,aV,aW⟩:=hcut;have W:=@gA _ _ _ _ aU aF aV aW;clear aU aF aV aW;go_wp2_with fail;go_loopw [9] (λu wr=>∃(g:List Fr.cF)(q:Option Addr)(C:Nat)(e:Rf)(l:Rp),u=L q g.length C/\g.length<=4/\RV wr 76 4 q g.length C (cH g)/\(∀c,ag q c->D.heap.size<=c/\¬hJ h l c)/\En.dU (k.a b m).aO=g++En.dU ((k.a b m).j g.length).aO/\Lk ((k.a b m).j g.length) e/\cV wr h e l/\fR D wr h M l/\e.bD=f.bD) λu _=>4-uK u;case atStart=>exact⟨[],N,0,V,al,rfl,by simp,RV.d _ _ _,λc n=>(b8 c n).elim,by rw[VD,uX];rfl,by rw[VD,uX];exact W.2.1,W.1,W.2.2.1,W.2.2.2⟩
    case round=>
     obtain⟨g,q,C,e,l,rfl,aX,aY,aZ,a0,a1,aG,a2,a3⟩:=hrel;have d:=@zu _ _ _ _ _ _ _ _ aX aY aZ a0 a1 aG a2 a3;clear aX aY aZ a0 a1 aG a2 a3 W;have am:=b5;obtain⟨bG,A⟩:=GV (j:=g.length) am;cases bG with
     |none=>
      as_aux_lemma=>
      have v:=@af _ (If h e l wr d.2.2.2.2.2.1 (d.2.2.2.2.1.p A) (by have:=d.2.2.2.2.1.l;omega));have O(_:=()):g=k.q b m/\(k.a b m).j g.length=(k.a b m).g:=by have o:=d.2.2.2.1;rw[G3 A,VJ]at o;refine⟨o.symm,?_⟩;rw[<-o];rfl
      clear A am;go_wp2_with fail;refine Uq v ?_;rintro a w ⟨rfl,Q⟩;have bH:=@af _ Q;have ab:=d.2.2.2.2.2.1.a Q λ_ _ a=>a;have ay:=ab.cG.a 3;simp[fJ]at ay;have ak:=ab.cG.b;have t(_:=()):∀R,cV (w.alloc R) h e l/\ae aa wr (w.alloc R):=λR=>⟨ab.a ((ae.a aa w).b R) λ_ _ a=>a,Q.b R⟩
      clear v Q ab;go_upto_region 20 with fail;go_cut [118] λu ac=>u=B (decide (e.bu<65536))/\cV ac h e l/\ae aa wr ac;case first=>
       go_wp2;go_meet;case rel=>exact⟨by simp;omega,(t () _).1,(t () _).2⟩
      case rest=>
      obtain⟨rfl,an,az⟩:=hcut;have G:=@aC _ _ an az;have a4:=an.cG.a 3;simp[fJ]at a4;have bI:=an.cG.b;clear an az ay ak t bH;cases X:decide (e.bu<65536)
      .have ao(_:=()):e.e=e:=by unfold Rf.e;rw[Us (by simpa using X)]
       clear X;go_wp2;go_ret;refine⟨q,C,e,l,by rw[<-O.1];rfl,?_,d.2.2.1,G.1,?_,d.2.2.2.2.2.2.1.a (fR.c h l G.2)⟩;rw[<-O.1];exact d.2.1.a G.2 λ_ _ a=>a;have o:=d.2.2.2.2.1;rw[O.2]at o;have ai:=o.n;rw[ao]at ai;exact ai
      .have ao(_:=()):e.e= {e with bD:=e.bD++[⟨F,e.bu,Fr.dq⟩]}/\e.bu<65536:=⟨by unfold Rf.e;rw[UG (by simpa using X)],by simpa using X⟩
       have a5(_:=()):Cr 134 #[P (S ⟨h,0,N⟩),.agg #[B F,I J e.bu,I J 0,I J 0,I J 0,B F]] wc (.tuple #[]) λU=>∃y,cV U h {e with bD:=e.bD++[⟨F,e.bu,Fr.dq⟩]} y/\fR wc U h l y/\y.sa=l.sa/\y.sc=l.sc/\y.ka=l.ka/\y.kc=l.kc:=
        y7 h e l ⟨F,e.bu,Fr.dq⟩ ⟨ao.2,Up ⟨rfl,rfl⟩⟩ wc G.1 (by rw[d.2.2.2.2.2.2.2];have:=aA.2.2.2;omega)
       clear X;go_wp2_with fail;refine Uq a5 ?_;rintro a aH ⟨rfl,bJ,Y,a6,_⟩;have x:=@aC _ _ Y a6;clear Y a6 a5 a4 bI;go_wp2;go_ret;refine⟨q,C,e.e,bJ,by rw[<-O.1];rfl,?_,λc n=>⟨(d.2.2.1 c n).1,λa=>?_⟩,by rw[ao.1];exact x.1,?_,(d.2.2.2.2.2.2.1.a (fR.c h l G.2)).a x.2⟩;rw[<-O.1];exact(d.2.1.a G.2 λ_ _ a=>a).a x.2.b λc n a=>(d.2.2.1 c n).2 (Ur a);obtain r|r:=x.2.d c a;exact(d.2.2.1 c n).2 r;have o:=d.2.1.b c n;have ai:=G.2.size;omega;have o:=d.2.2.2.2.1;rw[O.2]at o;exact o.n
     |some i=>
      as_aux_lemma=>
      obtain⟨aI,a7⟩:=GU A;obtain⟨ap,ar,aJ,a8⟩:=d.2.2.2.2.1.u i A;have bK:=FI (m:=m) aA.2.1 aA.1 _ _ a7;have bL:e.bu=(k.a b m).aT+g.length:=(d.2.2.2.2.1.a).symm;have v(_:=()):_:=Ig h e l wr d.2.2.2.2.2.1 ap ar i aJ a8 (by have:=d.2.2.2.2.1.l;omega) (by omega);have Z(_:=()):Lk ((k.a b m).j (g++[i]).length) {e with cw:=ap++ar,bu:=e.bu+1}/\En.dU (k.a b m).aO=(g++[i])++En.dU ((k.a b m).j (g++[i]).length).aO/\g.length<4:=by refine⟨?_,B2 _ g i d.2.2.2.1 A aI,by omega⟩;have o:=d.2.2.2.2.1.r i A ap ar aJ;rw[yX _ _ aI]at o;rw[Uu,VH];exact o
      clear A aI a7 aJ a8 bK bL am;go_wp2_with fail;refine Uq v ?_;rintro a w ⟨rfl,aK,a9,aL⟩;have ba:=d.2.1.a aL.b λc n a=>(d.2.2.1 c n).2 (Ur a);have t:=@cf _ _ _ a9 aL ba;clear a9 aL v ba;go_upto_region 19 with fail;obtain⟨H,au⟩:=ah (w.alloc (.cells #[I J i.a,I J i.c,I J i.b,B i.d] 76));have K:aq H w.heap.size #[I J i.a,I J i.c,I J i.b,B i.d] 76:=by rw[au];exact aq.e _ _ _
      have aM:ae aa w H:=by rw[au];exact(ae.a aa w).b _
      rw[<-au];obtain⟨cq,bb⟩:=ah w.heap.size;rw[<-bb]at K|-;have aE:=K.a 0;have bc:=K.a 1;have bd:=K.a 2;have be:=K.a 3;simp at aE bc bd be;have bM:=K.b;have bf:=t.2.2.a aM λ_ _ a=>a;have aN:=@af _ aM;have cr:(g.length:Int)<4:=by have:=Z.2.2;omega
      clear au K bb aM;go_wp2_with (at_builtin;refine wO _ rfl (.tmp 110) (.tmp 112) 112 rfl 76 (.agg #[I J 0,I J 0,I J 0,B F]) 4 32 underlying112 wv rfl q g.length C rfl (cH g) (bf.c _) ⟨H.heap.size,0,N⟩ 1 1 (by omega) rfl (dy i) rfl (ke H (dy i) 76 _ rfl) (by simpa [cH]using wj [i]) (by omega) (by omega) ?_;intro aO bg aH Y bh bi);have bj:=((ae.a _ H).b _).c bi;have x(_:=()):RV aH 76 4 aO (g.length+1) bg (cH g++dy i)/\(∀c,ag aO c->ag q c\/H.heap.size<=c)/\ae (ag q) H aH:=⟨Y,λc n=>(bh c n).imp id (λk=>by rw[k];simp),bj⟩
      clear Y bh bi bj bf aE bc bd be bM;go_roundw;case rel=>
       have bN:=d.2.1.b;have cs:=t.2.1.b.size;have ct:=aN.size;have cu:=d.2.2.2.2.2.2.1.b.size;have bk:∀c,ag q c->¬hJ h aK c:=λc n a=>by obtain r|r:=t.2.1.d c a;exact(d.2.2.1 c n).2 r;have:=bN c n;omega
       refine⟨g++[i],aO,bg, {e with cw:=ap++ar,bu:=e.bu+1},aK,by simp,by have:=Z.2.2;simp;omega,?_,λc n=>?_,Z.2.1,Z.1,(t.1.a aN λ_ _ a=>a).a x.2.2 λp aw a=>bk p a aw,?_,d.2.2.2.2.2.2.2⟩;rw[wh,Uu];have:cH [i]=dy i:=by simp[cH]
       rw[this];exact x.1;obtain r|r:=x.2.1 c n;exact⟨(d.2.2.1 c r).1,bk c r⟩;refine⟨by omega,λa=>?_⟩;have:=t.1.b c a;omega;have aP:=(d.2.2.2.2.2.2.1.a t.2.1).a (fR.c h aK aN);refine⟨aP.e,aP.f,aP.b.g x.2.2 λp aw a=>?_⟩;have:=(d.2.2.1 p a).1;omega
      case measure=>simp[uK];have:=Z.2.2;omega
end Go.Proofs.YtlfijfodklhplaaGreat
