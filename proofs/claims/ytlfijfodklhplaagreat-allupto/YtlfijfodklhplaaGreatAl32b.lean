import Derived.Test.YtlfijfodklhplaaGreatAl29
set_option maxRecDepth 100000
set_option maxHeartbeats 4000000
set_option linter.all false
open Go.RowKit Go.Proofs.Tryz
open Go.Value renaming int->I,slice->L,pointer->P,bool->B
open Go.IntKind renaming i64->J
open Option renaming some->S,none->N
open Bool renaming true->T,false->F
namespace Go.Proofs.YtlfijfodklhplaaGreat
def BK{a:Dn}{b:Nat}{c}(d:a.aE[b]?=S c):a.a.c[b]?=S c.n:=by simp[AN.c,Dn.a,Ds.a,d]
def Gg(a:AN)(b e)(g:a.c[b]?=S e):a.b b (λ_=>e)=a:=by
 unfold AN.b;have c:a.bd.modify b (λd=> {d with n:=e})=a.bd:=by
  apply Vc;intro f;rw[VE];cases h:a.bd[f]? with
  |none=>rfl
  |some d=>
   by_cases c:b=f;subst c;have:a.c[b]?=S d.n:=by simp[AN.c,h]
   rw[g]at this;simp;cases d;simp only at this;cases this;rfl;simp[c]
 rw[c]
def Pe(b:AN)(a c)(g:b.c[a]?=S c)(d e)(h:d c=e c):b.b a d=b.b a e:=by
 have i:=Gg b a c g;have f:(b.b a λ_=>c).b a d=(b.b a λ_=>c).b a e:=by rw[wm,wm,h]
 rw[i]at f;exact f
def Pn.q{c a}(g:bP c a)(h:gI a.a){d b}(e:a.aE[d]?=S b)(f:b.n.aD=[])(i:a.aE.length<=100)(j:b.n.ai.length<=100):Pn c a a.b a.c b.sa [] a.a d c b.n:=by
 refine⟨rfl,rfl,by rw[Uz,e];rfl,a,⟨g,?_,h,?_,?_,j⟩,dR.h _ _,λm k=>by cases k⟩;have l:({b.n with aD:=[]}:ay)=b.n:=by rw[<-f]
 rw[l,f];show a.a=a.a.b d λ_=>b.n;rw[Gg _ _ _ (BK e)];have:=(Ul.1 e).1;simpa [Dn.a]using this;simpa [Dn.a]using i
def Pn.n{h i m n o p b a e c n'}(q:Pn h i m n o p b a e n')(j:b.c[a]?=S c)(d)(k:d c=n'):∃f,bP e f/\f.a=(b.b a d).m a/\dR h e i f:=by
 obtain⟨_,_,_,r,l,s,_⟩:=q;refine⟨r,l.iN,?_,s⟩;rw[l.b];unfold AN.m;have t:(b.b a d).O a=n'.aD:=by
  have g:(b.b a d).c[a]?=S n':=by rw[uR,VE,j];simp[k]
  unfold AN.O;unfold AN.c at g;rw[Uz]at g;obtain⟨w,u,v⟩:=UD.1 g;rw[u];dsimp only;rw[v]
 rw[t,wm,Pe b a c j (λ_=> {n' with aD:=[]}) (λc=> {d c with aD:=[]}) (by dsimp only;rw[k])]
def Gl{b}(e:gI b){a c f}(j:b.e a c=S f)(k):gI ((b.a a c k).d a c):=by rw[yh j];refine BE a f.1 _ λl q m g n d=>?_;obtain⟨h,i,rfl⟩:=km m;split at d;obtain⟨o,p,rfl⟩:=km d;split;rfl;exact e _ h i g o p;exact e l h i g n d
def Ij(c:AN)(a b):c.v a (b+1)=(c.v a b).A a b:=by unfold AN.v;rw[Wt,V5];rfl
def Hv(a:AN)(c):∀b,(a.v c b).h=a.h
 |0=>rfl
 |b+1=>by rw[Ij];unfold AN.A;rw[Sv,Hv a c b]
def My{N:Dn}{i:Nat}{l}(a:N.a.h[i]?=S l):∃b,N.aE[i]?=S b/\l=b.ss.map (·.t):=by
 unfold AN.h Dn.a at a;rw[Uz,Uz]at a;cases c:N.aE[i]? with
 |none=>rw[c]at a;cases a
 |some b=>
  rw[c]at a;simp[Ds.a]at a;exact⟨b,rfl,a.symm⟩
def Mz{a:Dn}{b:Nat}{c}(d:a.aE[b]?=S c):a.a.h[b]?=S (c.ss.map (·.t)):=by unfold AN.h Dn.a;rw[Uz,Uz,d];simp[Ds.a]
def E9{b:Dn}{c d e a}(f:b.aE[c]?=S e)(g:e.ss[d]?=S a):b.a.e c d=S (a.t,a.e):=by unfold AN.e Dn.a;simp[f,Ds.a,g]
def MJ{i d}(m:bP i d)(u:gI d.a){f b c a}(g:d.aE[f]?=S c)(h:c.ss[b]?=S a):
 Cr 88 #[P (S ⟨a.b,0,N⟩)] i (.tuple #[]) λk=>∃j n o,bP k j/\j.aE[f]?=S n/\n.ss[b]?=S o/\j.a=d.a.a f b En.o/\dR i k d j/\(o.r.bD.length:Int)<1000000:=by
 obtain⟨q,s⟩:=m.eC f c g b a h;have v:=u f c.a (by simp[Dn.a,g]) b (a.t,a.e) (by simp[Ds.a,h]);have t:a.r.bD=[]:=by rw[<-s.b];exact v
 refine(Ha a.b a.r a.p i q (by rw[t];simp)).mono ?_;rintro D k ⟨rfl,l,w,x⟩;obtain⟨y,z⟩:=m.j g h a.e.o (a.r.c a.r.dI) l w s.w x;have A:=(Ul.1 g).1;have C:=(Ul.1 h).1;refine⟨rfl,_, {c with ss:=c.ss.set b {a with e:=a.e.o,r:=a.r.c a.r.dI,p:=l}}, {a with e:=a.e.o,r:=a.r.c a.r.dI,p:=l},y,UQ A,UQ C,xZ g h _ _ _ _ rfl,z,?_⟩;have:=q.g;show (((a.r.c a.r.dI).bD.length:Nat):Int)<1000000;unfold Rf.c;dsimp only;rw[t,VG,uF,U5,UK];omega
def MK(a k b)(c:bP b a)(d:k<0\/(a.aE.length:Int)<=k):
 Cr 97 #[P (S ⟨a.b,0,N⟩),.int J k] b (.int J 6) λg=>ae aa b g:=by
 have h:=c.e;have i:=c.dk.b;obtain⟨l,e⟩:=ah a.b;obtain⟨j,f⟩:=ah a.aE.length;rw[<-e,<-f]at h;rw[<-e]at i|-;rw[<-f]at d;clear c e f;by_cases m:k<0
 .clear d;go_enter func97,ntmps97;go_wp2;go_ret;exact⟨rfl,ae.a _ _⟩
 .have n:(j:Int)<=k:=by omega
  clear d;go_enter func97,ntmps97;go_wp2;go_ret;exact⟨rfl,ae.a _ _⟩
def ML(N)(i:Nat)(f m)(r:bP m N)(s:N.aE[i]?=S f)(M:gI N.a)(ap:N.aE.length<=100)(aq:f.ss.length<=100):
 Cr 97 #[P (S ⟨N.b,0,none⟩),.int J i] m (.int J 0) λO=>∃C,bP O C/\C.a=N.a.y i/\dR m O N C:=by
 have ar:=(Ul.1 s).1;have au:=r.e;have av:=r.dk.b;obtain⟨d,g⟩:=ah f.ss.length;have t(_:=()):N.a.y i=N.a.v i d/\(d:Int)<=100/\(i:Int)<100/\N.a.h[i]?=S (f.ss.map (·.t))/\d=f.ss.length:=by
  refine⟨?_,by omega,by omega,Mz s,g⟩;unfold AN.y;have:N.a.bd[i]?=S f.a:=by simp[Dn.a,s]
  rw[this];dsimp only;rw[g];simp[Ds.a]
 obtain⟨aL,u⟩:=ah N.b;obtain⟨aw,Q⟩:=ah N.aE.length;obtain⟨aM,D⟩:=ah N.c;have o:=@aC _ _ u D;rw[<-u,<-Q,<-D]at au;rw[<-u]at av|-;have aN:(i:Int)<aw:=by omega
 have ax:(i:Int)<1000:=by omega
 have R:=@aC _ _ r M;clear r s M ap aq ar g u Q D;go_enter func97,ntmps97;go_upto_if 16 with fail;go_cut [] λay=>m=ay;case first=>
  go_wp2;go_meet;case rel=>rfl
 case rest=>
 subst hcut;go_wp2_with fail;go_loopw [5] (λE wr=>∃(a:Nat)(b:Dn),a<=d/\E= .int J a/\bP wr b/\b.a=N.a.v i a/\dR m wr N b/\gI b.a) λE _=>d-(intOf E).toNat;case atStart=>exact⟨0,N,Vl _,rfl,R.1,rfl,dR.h _ _,R.2⟩
 case round=>
  obtain⟨a,b,U,rfl,e,v,h,G⟩:=hrel;obtain⟨w,j,g⟩:=My (N:=b) (i:=i) (l:=f.ss.map (·.t)) (by rw[v,Hv];exact t.2.2.2.1);have p:w.ss.length=d:=by have:=Vj List.length g;rw[UX,UX]at this;rw[t.2.2.2.2];exact this.symm
  have x:=e.e;have V:=e.dk.b;have W:=e.d;have y:=e.b j 3 _ rfl;rw[p]at y;have H:(i:Int)<b.aE.length:=by have:=(Ul.1 j).1;omega
  rw[h.b,h.d,<-o.1,<-o.2]at x;rw[h.b,<-o.1]at V;rw[h.d,<-o.2]at W y;have c:=@nh _ _ _ _ _ _ e v h G j p;have az:(a:Int)<1000:=by have:=t.2.1;omega
  by_cases z:a<d
  .obtain⟨X,K⟩:∃X,w.ss[a]?=S X:=⟨_,Um (by omega)⟩
   obtain⟨Y,Z⟩:∃Y,w.n.ai[a]?=S Y:=⟨_,Um (by rw[e.gL i w j,p];exact z)⟩
   obtain⟨aO,aP,aa,aQ,aA,aB,ab⟩:=e.f j K Z;have ac:=ab 3 _ rfl;simp only[Dd.a]at ac;rw[aa]at y;have aR:(a:Int)<d:=by omega
   have A:=@aC _ _ K z;obtain⟨aD,q⟩:=ah b.aE.length;rw[<-q]at x H;clear e v h G j g p U z K Z aa aA aB ab q;go_wp2_with fail;refine Uq (MJ c.1 c.2.2.2.1 c.2.2.2.2.1 A.1) ?_;rintro aE aF ⟨rfl,aG,aH,aI,ad,ae,af,ag,ai,aj⟩;have k:=@nh _ _ _ _ _ _ ad ae af ag ai aj;clear ad ae af ag ai aj ac y x V W H;go_wp2_with fail;refine Uq (by have:=Bj aG i a aH aI aF k.1 k.2.1 k.2.2.1 ax az k.2.2.2.2.2;rw[k.2.2.2.2.1.b,c.2.2.1.b,<-o.1]at this;exact this) ?_;rintro aE ak ⟨rfl,n,al,am,an⟩;have aJ(_:=()):bP ak n/\n.a=N.a.v i (a+1)/\dR m ak N n/\gI n.a:=by
    have ao:n.a=b.a.A i a:=by rw[am,k.2.2.2.1];rfl
    refine⟨al,by rw[ao,Ij,c.2.1],(c.2.2.1.a k.2.2.2.2.1).a an,?_⟩;rw[ao];exact Gl c.2.2.2.1 (E9 c.2.2.2.2.1 A.1) _
   clear al am an;go_wp2;exact⟨⟨a+1,n,by have:=A.2;omega,by go_num,aJ⟩,by have:=A.2;simp[intOf];omega⟩
  .have aK:a=d:=by omega
   subst aK;obtain⟨aD,q⟩:=ah b.aE.length;rw[<-q]at x H;clear e v h G j g p U z q;go_wp2;go_ret;exact⟨rfl,b,c.1,by rw[c.2.1,t.1],c.2.2.1⟩
noncomputable def Dn.g(a:Dn)(z:Nat)(c:List Dk)(b:Option Addr)(d:Nat):Dn:=
 {a with aV:=c,ba:=b,bc:=d,cE:=a.e z (ag b) (3,0,0)}
def bP.p{j w1 g}(b:bP j g)(i)(r:∀x∈i,x∈g.aV)(y:(i.map (·.g)).Nodup)(a' c')(t:RV w1 229 4 a' i.length c' (fI i))(u:∀f,ag a' f->ag g.ba f\/j.heap.size<=f)(v:ae (ag g.ba) j w1):
 bP (w1.setCell ⟨g.b,2,N⟩ (L a' i.length c')) (g.g j.heap.size i a' c')/\dR j (w1.setCell ⟨g.b,2,N⟩ (L a' i.length c')) g (g.g j.heap.size i a' c'):=by
 have w:ae (ap g.b) w1 (w1.setCell ⟨g.b,2,N⟩ (L a' i.length c')):=(ae.a (ap g.b) w1).e (p:=⟨g.b,2,N⟩) (λ_=>rfl) _;have k:=(v.d λ_ _ h=>Ur h).c (w.d λ_ _ h=>Up h);have no:∀ {c:Nat} {s l m:Nat},g.cE c=(s,l,m)->s≠3->s≠1->¬(ag g.ba c\/c=g.b):=λh z o a=>by obtain a|a:=a;rw[b.t3 _ a]at h;cases h;exact z rfl;rw[a,b.t1]at h;cases h;exact o rfl
 have n:∀ {c:Nat},c<j.heap.size->(g.g j.heap.size i a' c').cE c=g.cE c:=λd=>oQ d;refine⟨{dk:=?_,jq:=b.jq.a k (λc d=>no (b.t5 c d) (by omega) (by omega)),jL:=b.jL.a k (λc d=>no (uV d b.t2) (by omega) (by omega)),iG:=?_,iH:=λf a e=>(b.iH f a e).a k (λc d=>no (b.t6 f a e c d) (by omega) (by omega)),gL:=b.gL,jd:=λf a e=>(b.jd f a e).a k (λc d=>no (b.t7 f a e c d) (by omega) (by omega)),eC:=λf a e m l q=>⟨(b.eC f a e m l q).1.a k (λc d=>no (b.t8 f a e m l q c d) (by omega) (by omega)),(b.eC f a e m l q).2⟩,fD:=λa e=>⟨(b.fD a (r a e)).1.a k (no (b.t4 a (r a e)) (by omega) (by omega)),(b.fD a (r a e)).2⟩,kP:=y,t1:=(n b.dk.b).trans b.t1,t2:=(n b.d).trans b.t2,t3:=λc d=>?_,t4:=λa e=>(n (b.fD a (r a e)).1.b).trans (b.t4 a (r a e)),t5:=λc d=>(n (b.jq.b c d)).trans (b.t5 c d),t6:=λf a e c d=>(n ((b.iH f a e).b c d)).trans (b.t6 f a e c d),t7:=λf a e c d=>(n ((b.jd f a e).b c d)).trans (b.t7 f a e c d),t8:=λf a e m l q c d=>(n ((b.eC f a e m l q).1.b c d)).trans (b.t8 f a e m l q c d),jc:=λc d=>?_},rfl,rfl,rfl,k.d (λc _ h=>h.elim (λa=>gz (b.t3 c a) (by omega)) λa=>by rw[a];exact gz b.t1 (by omega)),λf h=>yv h⟩
 have o:=(b.dk.c v λa=>by have:=b.t3 _ a;rw[b.t1]at this;cases this).f 2 (L a' i.length c');have A:g.cells.setIfInBounds 2 (L a' i.length c')=(g.g j.heap.size i a' c').cells:=by unfold Dn.cells Dn.g;simp
 rw[A]at o;exact o;refine t.a w λc d h=>?_;rw[show c=g.b from h]at d;obtain a|a:=u _ d;have:=b.t3 _ a;rw[b.t1]at this;cases this;have:=b.dk.b;omega;obtain a|a:=u c d;exact(n (b.iG.b c a)).trans (b.t3 c a);exact yw a d;have o:=UM k.size d;have C:=t.b;refine(vV λa=>?_).trans (b.jc c o);have:=C c a;rw[VS]at d;omega
def bP.c{b a}(c:bP b a):b.cell? ⟨a.b,2,N⟩=S (L a.ba a.aV.length a.bc):=by have d:=c.dk.a 2;simpa [Dn.cells]using d
def te(a):(fI a).length=a.length*4:=vU yo a
def A8(a b):fI (a++b)=fI a++fI b:=by unfold fI;rw[Wy]
def Mg(a k):fI (a.take k)=(fI a).take (k*4):=by
 by_cases c:k<=a.length;have b:fI a=fI (a.take k)++fI (a.drop k):=by rw[<-A8,Vd]
 rw[b,WU];rw[te,UK];omega;rw[US (by omega),US (by rw[te];omega)]
def Mf(a k):fI (a.drop k)=(fI a).drop (k*4):=by
 by_cases c:k<=a.length;have b:fI a=fI (a.take k)++fI (a.drop k):=by rw[<-A8,Vd]
 rw[b,List.drop_left'];rw[te,UK];omega;rw[U6 (by omega),U6 (by rw[te];omega)];rfl
def EW(c):∀b∈fI c,b.oneCell'=T:=by intro b a;unfold fI at a;obtain⟨d,e,a⟩:=VW.1 a;simp only[nJ,UZ,U9,Wc]at a;obtain rfl|rfl|rfl|rfl:=a<;>rfl
def OQ(a:Dn)(z k b c):(a.g z (a.aV.eraseIdx k) b c).a=a.a.f k:=by unfold Dn.a Dn.g AN.f;dsimp only;rw[Vo,Vo,Vm,XR,List.map_drop]
def rc(e:Nat)(i c j)(k:Int)(d:World)(m:d.cell? ⟨e,2,N⟩=S (L i c j))(n:e<d.heap.size):
 Cr 141 #[P (S ⟨e,0,N⟩),.int J k] d (B (decide (0<=k/\k<(c:Int)))) λl=>d=l:=by
 obtain⟨f,a⟩:=ah (decide (0<=k/\k<(c:Int)));rw[<-a];by_cases g:0<=k;by_cases h:k<(c:Int)
 .have b:f=T:=by rw[a];simp[g,h]
  subst b;clear a;go_enter func141,ntmps141;go_wp2;go_ret;exact⟨rfl,rfl⟩
 .have b:f=F:=by rw[a];simp[h]
  subst b;clear a;go_enter func141,ntmps141;go_wp2;go_ret;exact⟨rfl,rfl⟩
 .have b:f=F:=by rw[a];simp[g]
  subst b;clear a;go_enter func141,ntmps141;go_wp2;go_ret;exact⟨rfl,rfl⟩
def Mj(a k b)(c:bP b a)(e:¬(0<=k/\k<(a.aV.length:Int))):
 Cr 94 #[P (S ⟨a.b,0,N⟩),.int J k] b (.int J 7) λd=>ae aa b d:=by
 have f(_:=()):Cr 141 #[P (S ⟨a.b,0,N⟩),I J k] b (B F) λd=>b=d:=by have:=rc a.b a.ba a.aV.length a.bc k b c.c c.dk.b;rw[U7 e]at this;exact this
 obtain⟨h,g⟩:=ah a.b;rw[<-g]at f|-;clear c e g;go_enter func94,ntmps94;go_wp2_with fail;refine Uq f ?_;rintro i j ⟨rfl,rfl⟩;go_wp2;go_ret;exact⟨rfl,ae.a _ _⟩
def EX(a k e)(h:bP e a)(V:k<a.aV.length)(W:a.aV.length<=300):
 Cr 94 #[P (S ⟨a.b,0,N⟩),.int J k] e (.int J 0) λr=>∃u,bP r u/\u.a=a.a.f k/\dR e r a u/\u.aV=a.aV.eraseIdx k/\ae (ap a.b) e r:=by
 have D(_:=()):Cr 141 #[P (S ⟨a.b,0,N⟩),I J k] e (B T) λr=>e=r:=by have:=rc a.b a.ba a.aV.length a.bc (k:Int) e h.c h.dk.b;rw[U4 ⟨by omega,by omega⟩]at this;exact this
 have j:=@cf _ _ _ h V W;have n:=h.c;have v:=h.dk.d 2;have l:=h.dk.b;have am:=h.iG.2.1;obtain⟨i,s,w,x⟩:=ja h.iG (by omega);rw[w]at n;have X(_:=()):a.ba=S ⟨i,s,N⟩/\i<e.heap.size/\i≠a.b:=⟨w,x.b,λb=>by have:=h.t3 i (by rw[w];exact eN _ _);rw[b,h.t1]at this;cases this⟩
 have an(_:=()):∀c d,(fI (a.aV.take k))[c]?=S d->e.cell? ((⟨i,s,N⟩:Addr).add c)=S d:=λc d m=>by rw[Va];have f:=(Ul.1 m).1;refine x.a c d ?_;rw[Mg]at m f;rw[UK]at f;rw[V2 (by omega)]at m;exact m
 obtain⟨p,Y⟩:=ah (k+1);have E:=@af _ Y;have ao(_:=()):∀c d,(fI (a.aV.drop p))[c]?=S d->e.cell? ((⟨i,s+p*4,N⟩:Addr).add c)=S d:=λc d m=>by rw[Va,UI];refine x.a (p*4+c) d ?_;rw[Mf,VC]at m;exact m
 have aD:IntKind.i64.wrap ((k:Int)+1)=(p:Int):=by rw[VM];omega
 have aE:(0:Int)<=(p:Int):=by omega
 have aq:(p:Int)<=a.aV.length:=by omega
 have ar:(k:Int)<=a.bc:=by omega
 have au:(k:Int)<a.aV.length:=by omega
 have Z:(a.aV.length:Int)<=a.bc:=by omega
 obtain⟨G,H⟩:=ah a.aV.length;obtain⟨y,K⟩:=ah a.bc;obtain⟨g,z⟩:=ah a.b;rw[<-H]at n aq au Z;rw[<-K]at n ar Z;rw[<-z]at n v l D|-;have o(_:=()):G=a.aV.length/\y=a.bc/\g=a.b/\G<=y:=⟨H,K,z,by omega⟩
 have aF:i≠g:=by rw[z];exact X.2.2
 clear h V W w x Y H K z am;go_enter func94,ntmps94;go_wp2_with fail;refine Uq D ?_;rintro aG w1 ⟨rfl,rfl⟩;clear D;go_upto_region 6 with (at_builtin;refine zp _ rfl (.tmp 12) (.tmp 18) 214 rfl 229 (.agg #[I J 0,I J 0,L N 0 0,B F]) 4 48 underlying214 yp rfl N 0 0 rfl [] (RV.d _ _ _) (S ⟨i,s,N⟩) k y rfl (fI (a.aV.take k)) (by rw[te,UK];have:=j;congr 1;omega) (λ_=>⟨_,rfl,an⟩) (EW _) (by have:=j;omega) (by have:=j;omega) ?_;intro A av ab M ac ad)
 simp only[Ve,VG]at M;have q:=ad.d λO _ b=>b8 O b;have Q:∀c,ag A c->c=e.heap.size:=λc f=>by obtain⟨b,_⟩|⟨b,_⟩:=ac;rw[b]at f;exact(b8 c f).elim;rw[b]at f;exact cM.1 f
 have t:=@cf _ _ _ q Q M;have aw(_:=()):∀c d,(fI (a.aV.drop p))[c]?=S d->ab.cell? ((⟨i,s+p*4,N⟩:Addr).add c)=S d:=λc d m=>by have:=ao () c d m;rw[Va]at this|-;exact(q.f i _ X.2.1 λb=>b).trans this
 replace n:=(q.f g 2 l λb=>b).trans n;replace v:=(q.h g 2 l λb=>b).trans v;have ax:=@af _ l;replace l:g<ab.heap.size:=Un l q.size;have ai:¬ag A g:=λb=>by have:=Q g b;have:=ax;omega
 clear M ac ad q Q;by_cases aH:y=p;all_goals
  go_wp2_with (at_builtin;refine zp _ rfl (.tmp 21) (.tmp 28) 214 rfl 229 (.agg #[I J 0,I J 0,L N 0 0,B F]) 4 48 underlying214 yp rfl A k av rfl (fI (a.aV.take k)) t.2.2 _ _ _ rfl (fI (a.aV.drop p)) (by rw[te,U5,<-o.1]) (λaI=>by first|exact⟨_,rfl,aw⟩|(exfalso;have:=o;have:=j;have:=E;omega)) (EW _) (by have:=j;have:=o;omega) (by have:=j;have:=o;omega) ?_;intro ay az R aA aB C;have aJ:=(C.f g 2 l ai).trans n;have aK:=(C.h g 2 l ai).trans v;have aL:g<R.heap.size:=Un l C.size);go_ret;refine⟨rfl,?_⟩;have aj:=(ae.a aa e).g (((t.1.d (ex':=ag A) λ_ _ b=>b.elim)).c C) (λO aM ak=>by have:=t.2.1 O ak;omega);have al:(a.aV.eraseIdx k).length=k+(G-p):=by have:=j;have:=o;have:=E;rw[VQ (by omega)];omega
  have U:=j.1.p (w1:=R) (a.aV.eraseIdx k) (λak aC=>Vx aC) (by have:=j.1.kP;exact List.Nodup.sublist (List.Sublist.map _ (List.eraseIdx_sublist _ _)) this) ay az (by rw[al,Vo,A8,<-E];exact aA) (λc f=>by right;obtain⟨b,_⟩|⟨b,_⟩:=aB;rw[b]at f;have:=t.2.1 c f;omega;rw[b]at f;rw[show c=_ from cM.1 f];exact t.1.size) (aj.d λ_ _ b=>b.elim)
  rw[al,<-o.2.2.1]at U;refine⟨_,U.1,OQ _ _ _ _ _,U.2,rfl,?_⟩;exact(aj.d λ_ _ b=>b.elim).c ((ae.a (ap g) R).e (p:=⟨g,2,N⟩) (λ_=>rfl) _)
def L4(a k b)(c:bP b a)(e:¬(0<=k/\k<(a.aV.length:Int))):
 Cr 95 #[P (S ⟨a.b,0,N⟩),.int J k] b (.int J 7) λd=>ae aa b d:=by
 have f(_:=()):Cr 141 #[P (S ⟨a.b,0,N⟩),I J k] b (B F) λd=>b=d:=by have:=rc a.b a.ba a.aV.length a.bc k b c.c c.dk.b;rw[U7 e]at this;exact this
 obtain⟨h,g⟩:=ah a.b;rw[<-g]at f|-;clear c e g;go_enter func95,ntmps95;go_wp2_with fail;refine Uq f ?_;rintro i j ⟨rfl,rfl⟩;go_wp2;go_ret;exact⟨rfl,ae.a _ _⟩
def bP.i{c d}(g:bP c d){k j}(l:d.aV[k]?=S j):∃a e,d.ba=S ⟨a,e,N⟩/\a<c.heap.size/\a≠d.b/\(∀h,c.frozen? ⟨a,h,N⟩=F)/\∀b f,(nJ j)[b]?=S f->c.cell? ⟨a,e+k*4+b,N⟩=S f:=by
 have q:=(Ul.1 l).1;obtain⟨a,e,m,i⟩:=ja g.iG (by omega);refine⟨a,e,m,i.b,λo=>?_,λh=>i.c h,λb f n=>?_⟩;have:=g.t3 a (by rw[m];exact eN _ _);rw[o,g.t1]at this;cases this;have p:b<4:=by have:=(Ul.1 n).1;rw[yo]at this;exact this
 have:=i.a (k*4+b) f (by rw[<-n];exact pD yo _ k _ l b p);rw[<-UI]at this;exact this
def L7(b)(k:Nat)(a d)(f:bP d b)(q:b.aV[k]?=S a)(ac:b.aV.length<=300)(ad:0<a.l.length)(ai:(a.l.length:Int)<1000):
 Cr 95 #[P (S ⟨b.b,0,N⟩),.int J k] d (.int J 0) λM=>∃g,bP M g/\g.a=b.a.q k/\dR d M b g:=by
 have aj:=(Ul.1 q).1;have r(_:=()):Cr 141 #[P (S ⟨b.b,0,N⟩),I J k] d (B T) λM=>d=M:=by have:=rc b.b b.ba b.aV.length b.bc (k:Int) d f.c f.dk.b;rw[U4 ⟨by omega,by omega⟩]at this;exact this
 have aF(_:=()):b.a.q k=b.a.j ⟨a.f,a.t,a.l,a.sp⟩:=by
  unfold AN.q;have:b.a.fu[k]?=S a.b:=by simp[Dn.a,q]
  rw[this];rfl
 have s:=@nh _ _ _ _ _ _ f aj ac q ad ai;have m:=f.c;have D:=f.dk.d 2;have n:=f.dk.b;by_cases ak:b.aV.length<300
 .obtain⟨al,am,an,aU,ao,aV,E⟩:=f.i q;have aG:=E 0 _ rfl;have aW:=E 1 _ rfl;have aH:=E 2 _ rfl;have aX:=E 3 _ rfl;rw[Vn]at aG;have O:=f.iG;rw[an]at m O;have aI:=(f.fD a (Uo q)).1;have aY:(k:Int)<b.aV.length:=by omega
  have ar:(b.aV.length:Int)<300:=by omega
  obtain⟨t,u⟩:=ah b.aV.length;obtain⟨j,v⟩:=ah b.b;rw[<-u]at m aY ar O;rw[<-v]at m D n r ao|-;have h(_:=()):t=b.aV.length/\j=b.b/\b.ba=S ⟨al,am,N⟩/\t<300:=⟨u,v,an,by omega⟩
  obtain⟨G,au⟩:=ah (d.alloc (.cells #[I J a.f,I J a.t,L (S ⟨a.g,0,N⟩) a.l.length a.c,B a.sp] 229));obtain⟨e,aJ⟩:=ah d.heap.size;have aK(_:=()):∀w H,(a.l.map bv)[w]?=S H->G.cell? ((⟨a.g,0,N⟩:Addr).add w)=S H:=λw H Q=>by
   rw[Va,Ve];have R:ae aa d G:=by rw[au];exact(ae.a aa d).b _
   exact(aI.a R λc=>c).c w H Q
  have x:=@aC _ _ au aJ;clear f q ac ad ai aj ak an aV E aI u v au aJ;go_enter func95,ntmps95;go_wp2_with fail;refine Uq r ?_;rintro aZ w1 ⟨rfl,rfl⟩;clear r;go_upto_region 7 with fail;rw[<-x.1,<-x.2];have R:ae aa d G:=by rw[x.1];exact(ae.a aa d).b _
  have K:aq G e #[I J a.f,I J a.t,L (S ⟨a.g,0,N⟩) a.l.length a.c,B a.sp] 229:=by rw[x.1,x.2];exact aq.e _ _ _
  have av:=K.a 2;have aL:=K.d 2;simp at av;have U:=K.b;have aw:=@aC _ _ R K;clear K R aG aW aH aX;go_upto_region 8 with (at_builtin;refine vd _ rfl (.tmp 26) (.tmp 28) 56 rfl 5 (I .u8 0) 1 1 underlying56 ng rfl rfl ⟨a.g,0,N⟩ a.l.length a.c s.2.2.2.2.1 rfl (a.l.map bv) (by simp) aK (by have:=s.2.2.2.2.2;omega) (by have:=s.2.2.2.2.2;omega) ?_;intro o V ax aM y;have ay:=(y.f e 2 U λc=>c).trans av;have az:=(y.h e 2 U λc=>c).trans aL;have a0:e<V.heap.size:=Un U y.size)
  obtain⟨i,W⟩:=ah G.heap.size;rw[<-W]at ax|-;obtain⟨l,X⟩:=ah (V.setCell ⟨e,2,N⟩ (L (S ⟨i,0,N⟩) a.l.length o));rw[<-X];have aA:ae (ap e) V l:=by rw[X];exact(ae.a (ap e) V).e (p:=⟨e,2,N⟩) (λ_=>rfl) _
  have a1:i≠e:=by rw[W];omega
  have z:=(ae.a aa d).g (((aw.1.c y).d (ex':=ap e) λ_ _ c=>c.elim).c aA) (λa2 ba c=>by have aH:a2=e:=c;have:=x.2;omega);have A:aq l e #[I J a.f,I J a.t,L (S ⟨i,0,N⟩) a.l.length o,B a.sp] 229:=by have a3:=(aw.2.c y λc=>c).f 2 (L (S ⟨i,0,N⟩) a.l.length o);rw[X];simpa using a3
  have aN:=ax.a aA λc=>a1 c;have C(_:=()):ae aa d l/\gp l i a.l o/\a.l.length<=o/\d.heap.size<=i:=⟨z,aN,aM,by rw[W];exact aw.1.size⟩
  have a4:=A.a 0;have a5:=A.a 1;have a6:=A.a 2;have a7:=A.a 3;simp at a4 a5 a6 a7;have bb:=A.b;have a8:=O.a z λ_ _ c=>c;replace m:=(z.f j 2 n λc=>c).trans m;replace D:=(z.h j 2 n λc=>c).trans D;replace n:j<l.heap.size:=Un n z.size;clear ax aM y ay az a0 W X aA z A aN av aL U O aU aK;go_cut [] (λaO=>∃g,bP aO g/\g.a=b.a.q k/\dR d aO b g);case first=>
   go_region_law (refine mj rfl (.tmp 35) (.tmp 37) 214 rfl 229 (.agg #[I J 0,I J 0,L N 0 0,B F]) 4 48 underlying214 yp rfl (S ⟨al,am,N⟩) t b.bc rfl (fI b.aV) (a8.drew.c _) ⟨l.heap.size,0,N⟩ 1 1 (by omega) rfl (nJ ⟨a.f,a.t,a.l,i,o,a.sp⟩) rfl (ke l.drew (nJ ⟨a.f,a.t,a.l,i,o,a.sp⟩) 229 _ (by simp[nJ])) (by intro H Q;simp only[nJ,UZ,U9,Wc]at Q;obtain rfl|rfl|rfl|rfl:=Q<;>rfl) (by have:=h.2.2.2;omega) (by have:=h.2.2.2;omega) ?_;intro aB aD Y aP aQ aR;have Z:ae (ag (S ⟨al,am,N⟩)) l Y:=(((ae.a _ l).drew).b _).c aR;have ay:=(Z.f j 2 n λc=>ao (cM.1 c).symm).trans m;have az:=(Z.h j 2 n λc=>ao (cM.1 c).symm).trans D);all_goals
    have aE(_:=()):∃g,bP (Y.setCell ⟨j,2,N⟩ (L aB (t+1) aD)) g/\g.a=b.a.q k/\dR d (Y.setCell ⟨j,2,N⟩ (L aB (t+1) aD)) b g:=by
     have a9:=s.1.a C.1;obtain⟨aS,aT⟩:=bP.n (w1:=Y) C.1 a9 ⟨a.f,a.t,a.l,i,o,a.sp⟩ C.2.1 C.2.2.1 (Ur ⟨s.1.jc i C.2.2.2,C.2.2.2⟩) aB aD (by rw[<-h.1];exact aP) (λw ab=>by rw[h.2.2.1];obtain⟨c,_⟩|⟨c,_⟩:=aQ;rw[c]at ab;exact Ur ab;rw[c]at ab;right;rw[show w=_ from cM.1 ab];simp) (by rw[h.2.2.1];exact Z)
     rw[<-h.1,<-h.2.1]at aS aT;refine⟨_,aS,?_,aT⟩;rw[aF];unfold AN.j;rw[UG (by have:=h.2.2.2;rw[h.1]at this;simpa [Dn.a]using this)];simp[Dn.a,Dn.f,Dk.b]
    clear aP aQ aR Z ay az;go_wp2_with fail;go_meet;case rel=>exact aE
  case rest=>
  have aE:=@af _ hcut;clear hcut;go_wp2;go_ret;exact⟨rfl,aE⟩
 .have ar:¬((b.aV.length:Int)<300):=by omega
  have h:=@af _ ak;obtain⟨t,u⟩:=ah b.aV.length;obtain⟨j,v⟩:=ah b.b;rw[<-u]at m ar;rw[<-v]at m D n r|-;clear f q ac ad ai aj ak u v;go_enter func95,ntmps95;go_wp2_with fail;refine Uq r ?_;rintro aZ w1 ⟨rfl,rfl⟩;clear r;go_wp2;go_ret;refine⟨rfl,b,s.1,?_,dR.h _ _⟩;rw[aF];unfold AN.j;rw[Us (by simpa [Dn.a]using h)]
end Go.Proofs.YtlfijfodklhplaaGreat
