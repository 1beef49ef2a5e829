import Derived.Test.YtlfijfodklhplaaGreatAl05
set_option maxRecDepth 100000
set_option maxHeartbeats 2000000
set_option linter.all false
open Go.RowKit Go.Proofs.Tryz
open Go.Value renaming int->I,slice->L,pointer->P,bool->B
open Go.IntKind renaming i64->J
open Option renaming some->S,none->N
open Bool renaming true->T,false->F
namespace Go.Proofs.YtlfijfodklhplaaGreat
abbrev fc(a:Bool)(b k c d:Int)(e:Bool):Array Value:= #[B a,I J b,I J k,I J c,I J d,B e]
structure BS(w0 c:World)(f g h i:Nat)(j:List Nat)(k:Nat):Prop where
 a:Rd c f g h i j k
 r:aq c w0.heap.size (fc F 0 0 0 0 F) 78
 b:ae (ap f) w0 c
 d:f<w0.heap.size
 e:g<w0.heap.size
def BS.c{w0 g w1 b c d e f k h}(a:BS w0 g b c d e f k)(j:Rd w1 b c d e f h)(i:ae (ap b) g w1):BS w0 w1 b c d e f h:=by have l:=a.d;exact⟨j,a.r.c i (by simp only[ap];omega),a.b.c i,a.d,a.e⟩
def BS.g{w0 a b c d e f k}(g:BS w0 a b c d e f k):w0.heap.size<a.heap.size:=g.r.b
def BS.i{w0 b c d e f g k}(a:BS w0 b c d e f g k)(h):BS w0 (b.alloc h) c d e f g k:=
 ⟨a.a.b _,a.r.g _,a.b.b _,a.d,a.e⟩
def BS.h{a c d e f g k}(b:Rd a c d e f g k):BS a (a.alloc (.cells (fc F 0 0 0 0 F) 78)) c d e f g k:=
 ⟨b.b _,aq.e _ _ _,(ae.a _ _).b _,b.g,b.c⟩
def BS.f{w0 b e f g h i k}(a:BS w0 b e f g h i k)(c)(l:w0.heap.size<c.block)(d):BS w0 (b.setCell c d) e f g h i k:=by have m:=a.d;have n:=a.e;have j:=(ae.a (ap c.block) b).e (λ_=>rfl) d;exact⟨a.a.d _ _ (by omega) (by omega),a.r.c j (by simp only[ap];omega),a.b.e (λo=>by omega) d,a.d,a.e⟩
abbrev oW(b:World)(a:Nat)(c:Bool)(d k e f:Int)(g:Bool):World:=
 (((((b.setCell ⟨a,0,N⟩ (B c)).setCell ⟨a,1,N⟩ (I J d)).setCell ⟨a,2,N⟩ (I J k)).setCell ⟨a,3,N⟩ (I J e)).setCell ⟨a,4,N⟩ (I J f)).setCell ⟨a,5,N⟩ (B g)
def aq.j{b:World}{a:Nat}{h:Bool}{i j l m:Int}{n:Bool}{t:TypeId}(o:aq b a (fc h i j l m n) t)(c:Bool)(d k e f:Int)(g:Bool):aq (oW b a c d k e f g) a (fc c d k e f g) t:=
 (((((o.f 0 _).f 1 _).f 2 _).f 3 _).f 4 _).f 5 _
def ae.i{c:Nat->Prop}{d e:World}(f:ae c d e)(a:Nat)(b:a<d.heap.size->c a)(g:Bool)(h k i j:Int)(l:Bool):ae c d (oW e a g h k i j l):=
 (((((f.e (p:=⟨a,0,N⟩) b _).e (p:=⟨a,1,N⟩) b _).e (p:=⟨a,2,N⟩) b _).e (p:=⟨a,3,N⟩) b _).e (p:=⟨a,4,N⟩) b _).e (p:=⟨a,5,N⟩) b _
def BS.j{w0 h i j l m n k}(g:BS w0 h i j l m n k)(a b c d e f):
 Rd (oW h w0.heap.size a b c d e f) i j l m n k/\ae (ap i) w0 (oW h w0.heap.size a b c d e f)/\aq (oW h w0.heap.size a b c d e f) w0.heap.size (fc a b c d e f) 78:=by
 have o:=g.d;have p:=g.e;exact⟨g.a.f ((ae.a (ap w0.heap.size) h).i _ (λ_=>rfl) a b c d e f) (by simp only[ap];omega) (by simp only[ap];omega),g.b.i _ (λg=>by omega) a b c d e f,g.r.j a b c d e f⟩
def La(b f g h a j)(n:Rd j b f g h a 0)(c d:Nat)(C:a[0]?=S 2)(D:a[1]?=S c)(E:a[2]?=S d):
 Cr 209 #[P (S ⟨b,0,N⟩)] j (.agg (fc F ((c:Int)*256+(d:Int)) 0 0 0 F)) λo=>Rd o b f g h a 3/\ae (ap b) j o:=by
 have k:=BS.h n;clear n;go_enter func209,ntmps209;go_wp2_with fail;refine(tA b f g h a 0 _ k.a 2 C).mono ?_;rintro p M ⟨rfl,q,r⟩;have l:=k.c q r;clear q r k;go_wp2_with fail;refine(qs _).mono ?_;rintro p O ⟨rfl,rfl⟩;go_wp2_with fail;refine(tI b f g h a 1 _ l.a c d D E).mono ?_;rintro p Q ⟨rfl,s,t⟩;have i:=l.c s t;clear s t l;have R:=i.g;have U:=λm=>i.r.a m;have V:=λm=>i.r.d m;go_wp2;obtain⟨G,H,K⟩:=i.j F ((c:Int)*256+(d:Int)) 0 0 0 F;have e:=K.g (.cells (fc F ((c:Int)*256+(d:Int)) 0 0 0 F) 78);have u:=e.a 0;have w:=e.a 1;have x:=e.a 2;have y:=e.a 3;have z:=e.a 4;have A:=e.a 5;simp at u w x y z A;exact UO (v:= .agg (fc F ((c:Int)*256+(d:Int)) 0 0 0 F)) (by simp[results,results209,go_sem,u,w,x,y,z,A]) rfl ⟨rfl,G.b _,H.b _⟩
def Ld(c n o p a r)(A:Rd r c n o p a 0)(i j:Nat)(Y:a[0]?=S 1)(Z:a[1]?=S i)(aa:a[2]?=S j)(d e b f g:Nat)(ab:a[3]?=S d)(ac:a[4]?=S e)(ad:a[5]?=S b)(af:a[6]?=S f)(ag:a[7]?=S g)(ah:b<=1)(C:bJ (d:Int) (e:Int) ((f:Int)*256+(g:Int)) (b==1)=T):
 Cr 209 #[P (S ⟨c,0,N⟩)] r (.agg (fc T ((i:Int)*256+(j:Int)) (d:Int) (e:Int) ((f:Int)*256+(g:Int)) (b==1))) λD=>Rd D c n o p a 8/\ae (ap c) r D:=by
 have s:=BS.h A;clear A;have ai:Hid (bJ (d:Int) (e:Int) ((f:Int)*256+(g:Int)) (b==1)=T):=C;clear C;go_enter func209,ntmps209;go_wp2_with fail;refine(tA c n o p a 0 _ s.a 1 Y).mono ?_;rintro t aC ⟨rfl,E,G⟩;have u:=s.c E G;clear E G s;go_wp2_with fail;refine(qs _).mono ?_;rintro t aD ⟨rfl,rfl⟩;go_wp2_with fail;refine(tI c n o p a 1 _ u.a i j Z aa).mono ?_;rintro t l ⟨rfl,H,K⟩;have w:=u.c H K;clear H K u;have q:=w.g;go_wp2_with fail;have x:=w.i (.cells (fc T ((i:Int)*256+(j:Int)) 0 0 0 F) 78);have M:=aq.e l (fc T ((i:Int)*256+(j:Int)) 0 0 0 F) 78;have aE:c≠l.heap.size:=by have:=w.a.g;omega
 refine(O5 c n o p a 3 _ x.a d e b f g ab ac ad af ag ah ai.out).mono ?_;rintro t aF ⟨rfl,O,y⟩;have h:=x.c O y;have k:=M.c y (by simp only[ap];omega);clear O y x M;have aj:=k.a 0;have ak:=k.a 1;have al:=k.a 2;have am:=k.a 3;have an:=k.a 4;have ao:=k.a 5;have aG:=λz=>k.d z;simp at aj ak al am an ao;have ar:=h.r.a 0;have au:=h.r.a 1;have av:=h.r.a 2;have aw:=h.r.a 3;have ax:=h.r.a 4;have ay:=h.r.a 5;have aH:=λz=>h.r.d z;simp at ar au av aw ax ay;go_wp2;have az:=(((h.f ⟨l.heap.size,2,N⟩ q (I J d)).f ⟨l.heap.size,3,N⟩ q (I J e)).f ⟨l.heap.size,4,N⟩ q (I J ((f:Int)*256+(g:Int)))).f ⟨l.heap.size,5,N⟩ q (B (b==1));obtain⟨aA,aB,m⟩:=az.j T ((i:Int)*256+(j:Int)) (d:Int) (e:Int) ((f:Int)*256+(g:Int)) (b==1);have Q:=m.a 0;have R:=m.a 1;have U:=m.a 2;have V:=m.a 3;have W:=m.a 4;have X:=m.a 5;simp at Q R U V W X;exact UO (v:= .agg (fc T ((i:Int)*256+(j:Int)) (d:Int) (e:Int) ((f:Int)*256+(g:Int)) (b==1))) (by simp[results,results209,go_sem,Q,R,U,V,W,X]) rfl ⟨rfl,aA,aB⟩
def zA(a:List Nat):Prop:=∃b c,a[1]?=S b/\a[2]?=S c/\(a[0]?=S 2\/(a[0]?=S 1/\D4 a 3))
def Lf(c e f g a q)(s:Rd q c e f g a 0)(t:¬zA a):
 Calls prog 209 #[P (S ⟨c,0,N⟩)] q λb C=>b= .panicked oT/\ae (ap c) q C:=by
 have j:=BS.h s;clear s;go_enter func209,ntmps209;go_wp2_with fail;by_cases h:a.length<=0;refine(uT c e f g a 0 _ j.a h).mono ?_;rintro b D ⟨rfl,n⟩;exact⟨rfl,rfl,j.b.c n⟩;obtain⟨k,r⟩:=oK a 0 (by omega);clear h;refine(tA c e f g a 0 _ j.a k r).mono ?_;rintro b D ⟨rfl,u,n⟩;have d:=j.c u n;clear u n j;by_cases v:k=1\/k=2;obtain rfl|rfl:=v
 .go_wp2_with fail;refine(qs _).mono ?_;rintro b w ⟨rfl,rfl⟩;go_wp2_with fail;by_cases h:a.length<=1+1;refine(zo c e f g a 1 _ d.a h).mono ?_;rintro b x ⟨rfl,i⟩;exact⟨rfl,rfl,d.b.c i⟩;obtain⟨l,o⟩:=oK a 1 (by omega);obtain⟨m,p⟩:=oK a 2 (by omega);clear h;refine(tI c e f g a 1 _ d.a l m o p).mono ?_;rintro b x ⟨rfl,y,i⟩;have z:=d.c y i;clear y i d;have H:=z.g;go_wp2_with fail;have A:=z.i (.cells (fc T ((l:Int)*256+(m:Int)) 0 0 0 F) 78);refine(O4 c e f g a 3 _ A.a λE=>t ⟨l,m,o,p,Up ⟨r,E⟩⟩).mono ?_;rintro b K ⟨rfl,G⟩;exact⟨rfl,rfl,A.b.c G⟩
 .go_wp2_with fail;refine(qs _).mono ?_;rintro b w ⟨rfl,rfl⟩;go_wp2_with fail;by_cases h:a.length<=1+1;refine(zo c e f g a 1 _ d.a h).mono ?_;rintro b x ⟨rfl,i⟩;exact⟨rfl,rfl,d.b.c i⟩;obtain⟨l,o⟩:=oK a 1 (by omega);obtain⟨m,p⟩:=oK a 2 (by omega);exact absurd ⟨l,m,o,p,Ur r⟩ t
 .have M:((k:Int)==1)=F:=Uy.2 (by omega);have O:((k:Int)==2)=F:=Uy.2 (by omega);clear v;go_wp2_with fail;refine(tt _).mono ?_;rintro b w ⟨rfl,rfl⟩;exact⟨rfl,rfl,d.b⟩
def jB(k a b:Int)(c:Bool):Bool:=k==0&&(a==0&&(b==0&&c==F))
def Fj(e k a b c d):
 Cr 176 #[.agg (fc T e k a b c)] d (B (bJ k a b c)) λf=>ae aa d f:=by
 go_enter func176,ntmps176;go_wp2_with fail;refine(uM k a b c _).mono ?_;rintro h i ⟨rfl,g⟩;go_wp2;go_ret;exact⟨rfl,((ae.a _ _).b _).c g⟩
def Fi(e k a b c d):
 Cr 176 #[.agg (fc F e k a b c)] d (B (jB k a b c)) λf=>ae aa d f:=by
 go_enter func176,ntmps176;go_wp2;all_goals
  go_ret;exact⟨pG (by simp_all [jB]),(ae.a _ _).b _⟩
def Nj(b a:Nat)(c:b<65536)(e:a<256):bits .xor .u16 (b:Int) ((a:Int)*256)=((b ^^^ (a*256):Nat):Int):=by
 have d:((a:Int)*256)=((a*256:Nat):Int):=by omega
 rw[d];exact u16_xor_nat b (a*256) c (by omega)
def L3(a:List Nat)(k)(b:k<a.length):Fr.cI (a.take (k+1))=Fr.lC 8 (Fr.cI (a.take k) ^^^ (a[k]*256)):=by rw[WY b,Fr.CH];rfl
def wN{b:List Nat}(c:∀a∈b,a<256)(k):∀a∈b.take k,a<256:=λa d=>c a (Wr d)
def yk(k l r a e)(m:fE e k l a)(C:a.length<140737488355328)(f:∀s∈a,s<256):
 Cr 179 #[L (S ⟨k,l,N⟩) a.length r] e (.int .u16 ((Fr.cI a:Nat):Int)) λt=>t=e:=by
 go_enter func179,ntmps179;go_wp2;go_loop [3,8] (λg h=>∃b:Nat,b<=a.length/\h= .int J b/\g=I .u16 ((Fr.cI (a.take b):Nat):Int)) λ_ h=>a.length-(intOf h).toNat;case atStart=>exact⟨0,Vl _,rfl,rfl⟩
 case round=>
  obtain⟨b,D,rfl,rfl⟩:=hrel;by_cases i:b<a.length
  .have u:=f _ (Vk i);have n:=Fr.n8 (a.take b) (wN f b);have v:=m b i;have w:Hid (Fr.cI (a.take (b+1))=Fr.lC 8 (Fr.cI (a.take b) ^^^ (a[b]*256))):=L3 a b i;have o:Hid (bits .xor .u16 ((Fr.cI (a.take b):Nat):Int) ((a[b]:Int)*256)=((Fr.cI (a.take b) ^^^ (a[b]*256):Nat):Int)):=Nj _ _ n u;have x:Fr.cI (a.take b) ^^^ (a[b]*256)<65536:=Fr.qH n (by omega);generalize Fr.cI (a.take b)=c at *;go_wp2_with fail;rw[o.out];clear o v m f;generalize c ^^^ (a[b]*256)=q at *;go_loop [3,17] (λg j=>∃d:Nat,d<=8/\j= .int J d/\g=I .u16 ((Fr.lC d q:Nat):Int)) λ_ j=>8-(intOf j).toNat;case atStart=>exact⟨0,Vl _,rfl,rfl⟩
   case round=>
    obtain⟨d,E,rfl,rfl⟩:=hrel;have y:=Fr.tO x d;by_cases G:d<8
    .have z:Hid (Fr.lC (d+1) q=Fr.kC (Fr.lC d q)):=rfl;generalize Fr.lC d q=p at *;go_wp2_with fail;refine(LJ p y _).mono ?_;rintro H K ⟨rfl,rfl⟩;go_wp2;go_round;case rel=>exact⟨d+1,by omega,by go_num,by rw[z.out]⟩
     case measure=>simp[intOf];omega
    .have A:d=8:=by omega
     subst A;go_wp2;go_round;case rel=>exact⟨b+1,by omega,by go_num,by rw[w.out]⟩
     case measure=>simp[intOf];omega
  .go_wp2;go_ret;exact⟨rn (by rw[US (by omega)]),rfl⟩
end Go.Proofs.YtlfijfodklhplaaGreat
namespace Go.Proofs.YtlfijfodklhplaaGreat.HI
structure Th where
 e:Int
 w:Int
def Th.cells(t:Th):List Value:=[I J t.e,I J t.w]
def iX(a:List Th):List Value:=a.flatMap Th.cells
def xN(t a):iX (t::a)=t.cells++iX a:=by simp[iX]
def AE(a):(iX a).length=a.length*2:=by
 induction a with
 |nil=>rfl
 |cons c d b=>rw[xN,Uu,b,Vg];simp[Th.cells];omega
def DY(a b):iX (a++b)=iX a++iX b:=by simp[iX]
def JW(c):∀a∈iX c,a.oneCell'=T:=by intro a d;obtain⟨e,_,b⟩:=VW.1 d;simp only[Th.cells,UZ,U9,Wc]at b;obtain rfl|rfl:=b<;>rfl
def JV(c):∀a d,c[a]?=S d->(iX c)[a*2]?=S (.int J d.e)/\(iX c)[a*2+1]?=S (.int J d.w):=by
 induction c with
 |nil=>intro a e b;simp at b
 |cons f d g=>
  intro a e b;rw[xN];cases a with
  |zero=>
   simp at b;subst b;exact⟨rfl,rfl⟩
  |succ a=>
   rw[UH]at b;have:=g a e b;have h:f.cells.length=2:=rfl;rw[Ut (by omega),Ut (by omega),h];rw[show (a+1)*2-2=a*2 by omega,show (a+1)*2+1-2=a*2+1 by omega];exact this
def JX(c):∀a b,((iX c).set (a*2) (.int J b.e)).set (a*2+1) (.int J b.w)=iX (c.set a b):=by
 induction c with
 |nil=>intro a b;simp[iX]
 |cons d g e=>
  intro a b;cases a with
  |zero=>simp[iX,Th.cells]
  |succ a=>
   rw[UB,xN,xN,<-e a b];have f:d.cells.length=2:=rfl;rw[Vy _ _ (by omega),Vy _ _ (by omega),f];rw[show (a+1)*2-2=a*2 by omega,show (a+1)*2+1-2=a*2+1 by omega]
abbrev jk(a:World)(b:Nat)(c:List Th)(d:Nat):Prop:=dL a b 304 2 (iX c) d
def uj{a b e c}(d:jk a b c e)(k t)(f:c[k]?=S t):
 a.cell? ⟨b,k*2,N⟩=S (.int J t.e)/\a.cell? ⟨b,k*2+1,N⟩=S (.int J t.w):=by
 obtain⟨g,h⟩:=JV c k t f;exact⟨d.c _ _ g,d.c _ _ h⟩
def qc(b:World)(a k:Nat)(t:Th):World:=(b.setCell ⟨a,k*2,N⟩ (I J t.e)).setCell ⟨a,k*2+1,N⟩ (I J t.w)
def xM{c b d a}(f:jk c b a d)(k)(h:k<a.length)(t):jk (qc c b k t) b (a.set k t) d:=by have i:=AE a;have g:=dL.e f (k*2) (by omega) (I J t.e);have e:=dL.e g (k*2+1) (by rw[UA];omega) (I J t.w);rw[JX]at e;exact e
def xJ(b a k t):ae (ap a) b (qc b a k t):=
 ((ae.a (ap a) b).e (p:=⟨a,k*2,N⟩) (λ_=>rfl) _).e (p:=⟨a,k*2+1,N⟩) (λ_=>rfl) _
def DV(c a d b):Cr 250 #[L c a d] b (.int J a) λe=>b=e:=by go_enter func250,ntmps250;go_wp2;go_ret;simp
def vz(i c j:Nat)(d)(a b:Nat)(e f)(k:d[a]?=S e)(l:d[b]?=S f)(g)(h:jk g i d j)(o:(a:Int)<c)(p:(b:Int)<c):
 Cr 251 #[L (S ⟨i,0,N⟩) c j,.int J a,.int J b] g (B (decide (e.w<f.w))) λm=>∃n,m=g.drewN n:=by
 have q:=(uj h a e k).2;have r:=(uj h b f l).2;clear h k l;go_enter func251,ntmps251;go_wp2_with fail;go_quiet (fail);go_wp2;go_ret;exact⟨rfl,nq,rfl⟩
def xK(c k j:Nat)(g)(a b:Nat)(d e)(l:g[a]?=S d)(m:g[b]?=S e)(f)(h:jk f c g j)(q:(a:Int)<k)(r:(b:Int)<k)(s:a≠b):
 Cr 252 #[L (S ⟨c,0,N⟩) k j,.int J a,.int J b] f (.tuple #[]) λn=>jk n c ((g.set a e).set b d) j/\ae (ap c) f n:=by
 obtain⟨t,u⟩:=uj h a d l;obtain⟨v,w⟩:=uj h b e m;have i:=λp=>h.f p;have x:=i (a*2);have y:=i (a*2+1);have z:=i (b*2);have A:=i (b*2+1);have o(_:=()):jk (qc (qc f c a e) c b d) c ((g.set a e).set b d) j/\ae (ap c) f (qc (qc f c a e) c b d):=
  ⟨xM (xM h a (Ul.1 l).1 e) b (by rw[UA];exact(Ul.1 m).1) d,(xJ f c a e).c (xJ _ c b d)⟩
 clear h l m i;go_enter func252,ntmps252;go_wp2_with fail;go_region;all_goals go_end0
 exact⟨rfl,o.1.drew,o.2.drew⟩
def JS(b k g:Nat)(e)(a:Nat)(c)(f:e[a]?=S c)(d)(h:jk d b e g)(r:(a:Int)<k):
 Cr 252 #[L (S ⟨b,0,N⟩) k g,.int J a,.int J a] d (.tuple #[]) λl=>jk l b e g/\ae (ap b) d l:=by
 obtain⟨s,t⟩:=uj h a c f;have i:=λp=>h.f p;have u:=i (a*2);have v:=i (a*2+1);have j:(e.set a c)=e:=by refine Vc λw=>?_;rw[Vi];split;rename_i q;subst q;rw[f,UG (Ul.1 f).1];rfl
 have m(_:=()):jk (qc (qc d b a c) b a c) b e g/\ae (ap b) d (qc (qc d b a c) b a c):=
  ⟨by have n:=xM h a (Ul.1 f).1 c;rw[j]at n;have o:=xM n a (Ul.1 f).1 c;rw[j]at o;exact o,(xJ d b a c).c (xJ _ b a c)⟩
 clear h f i j;go_enter func252,ntmps252;go_wp2_with fail;go_region;all_goals go_end0
 exact⟨rfl,m.1.drew,m.2.drew⟩
def DZ:(prog.info? 304).map (λa=>(a.zero,a.size,a.bytes))=S (S (.agg #[.int J 0,.int J 0]),2,16):=by kernel_rfl
@[go_sem] theorem Ue (a b):(Instr.typeAssert (.iface 304 a) 20 304 F).run prog b= .ok a b:=by kernel_rfl
abbrev uk(t:Th):Value:= .iface 304 (.agg #[I J t.e,I J t.w])
def AC{f w0 w1 a ho b c' n g h e i}(l:aq f a g h)(j:ae aa f w0)(k:ae e w0 w1)(m:¬e a)(o:dL w1 b 304 2 i c')(q:b≠a):
 aq (w1.setCell ⟨a,ho,N⟩ (L (S ⟨b,0,N⟩) n c')) a (g.setIfInBounds ho (L (S ⟨b,0,N⟩) n c')) h/\dL (w1.setCell ⟨a,ho,N⟩ (L (S ⟨b,0,N⟩) n c')) b 304 2 i c'/\
  ae (λd=>d=a\/e d) f (w1.setCell ⟨a,ho,N⟩ (L (S ⟨b,0,N⟩) n c')):=by
 have r:ae (ap a) w1 (w1.setCell ⟨a,ho,N⟩ (L (S ⟨b,0,N⟩) n c')):=(ae.a (ap a) w1).e (p:=⟨a,ho,N⟩) (λ_=>rfl) _;refine⟨((l.c j λc=>c).c k m).f ho _,o.a r λc=>q c,?_⟩;exact(((j.d λ_ _ c=>c.elim).c (k.d (ex':=λd=>d=a\/e d) λ_ _ c=>Up c))).e (p:=⟨a,ho,N⟩) (λ_=>Ur rfl) _
def JR(d ho k r f l b t e)(g:aq e d k r)(m:k[ho]?=S (L (S ⟨f,0,N⟩) b.length l))(i:d≠f)(o:jk e f b l)(s:(b.length:Int)<1000000):
 Cr 254 #[P (S ⟨d,ho,N⟩),uk t] e (.tuple #[]) λp=>∃c h,aq p d (k.setIfInBounds ho (L (S ⟨c,0,N⟩) (b.length+1) h)) r/\
  jk p c (b++[t]) h/\b.length+1<=h/\(c=f\/e.heap.size<=c)/\c≠d/\ae (λu=>u=d\/u=f) e p:=by
 have G:=(g.a ho).trans m;have H:=g.d ho;have K:=o.b;have M:=g.b;have j:=@aC _ _ g o;have v:=@af _ s;have z:=@af _ m;clear g m o s;go_enter func254,ntmps254;go_wp2_with fail;go_region_law (refine Ic rfl (.tmp 7) (.tmp 10) 253 rfl 304 (.agg #[I J 0,I J 0]) 2 16 underlying253 DZ rfl f b.length l (by simp[Act.eval,Act.put]) (iX b) (AE b) ((j.2.d _).drew) ⟨e.heap.size,0,N⟩ 1 1 (by simp[Act.eval,Act.put]) (iX [t]) rfl (At.a (B:=0) (At.b rfl (Vl _))) (JW _) (by have:=v;omega) (by have:=v;omega) ?_;intro c h O A C w q;have Q:=(((j.1.g _).drew.c q λa=>i a).a ho).trans z;have R:=((j.1.g _).drew.c q λa=>i a).d ho);all_goals
  go_end0;have x:c≠d:=by obtain⟨a,_⟩|⟨a,_⟩:=w;rw[a];exact WO i;simp only[UR,Uv]at a;omega
  obtain⟨D,y,E⟩:=AC (ho:=ho) (n:=b.length+1) j.1 (((ae.a aa e).b _).drew) q (λa=>i a) A x;rw[<-DY]at y;refine⟨rfl,c,h,D,y,C,?_,x,E⟩;obtain⟨a,_⟩|⟨a,_⟩:=w;exact Ur a;simp only[UR,Uv]at a;exact Up (by omega)
def JQ(c ho g l t b)(d:aq b c g l)(h:g[ho]?=S (L N 0 0)):
 Cr 254 #[P (S ⟨c,ho,N⟩),uk t] b (.tuple #[]) λi=>∃f e,aq i c (g.setIfInBounds ho (L (S ⟨f,0,N⟩) 1 e)) l/\
  jk i f [t] e/\1<=e/\b.heap.size<=f/\f≠c/\ae (ap c) b i:=by
 have u:=(d.a ho).trans h;have v:=d.d ho;have w:=d.b;have j:=@af _ d;have o:=@af _ h;clear d h;go_enter func254,ntmps254;go_wp2_with fail;go_region_law (refine Cl rfl (.tmp 7) (.tmp 10) 253 rfl 304 (.agg #[I J 0,I J 0]) 2 16 underlying253 DZ rfl (by simp[Act.eval,Act.put]) ⟨b.heap.size,0,N⟩ 1 1 (by omega) (by simp[Act.eval,Act.put]) (iX [t]) rfl (At.a (B:=0) (At.b rfl (Vl _))) (by omega) (by omega) ?_;intro e x m p k;have y:=(((j.g _).drew.c k λa=>a).a ho).trans o;have z:=((j.g _).drew.c k λa=>a).d ho);all_goals
  go_end0;simp only[UR,Uv]at m|-;obtain⟨q,r,s⟩:=AC (ho:=ho) (n:=1) j (((ae.a aa b).b _).drew) k (λa=>a) m (by omega);exact⟨VU,_,e,q,r,p,by omega,by omega,s.d λ_ _ a=>a.elim id λa=>a.elim⟩
def JN(e ho h j f c n a t b)(g:aq b e h j)(l:h[ho]?=S (L (S ⟨f,0,N⟩) (n+1) c))(p:e≠f)(i:jk b f a c)(q:a.length=n+1)(w:n+1<=c)(m:a[n]?=S t)(r:(n:Int)<1000000):
 Cr 253 #[P (S ⟨e,ho,N⟩)] b (uk t) λk=>aq k e (h.setIfInBounds ho (L (S ⟨f,0,N⟩) n c)) j/\
  jk k f (a.take n) c/\ae (ap e) b k:=by
 have x:=(g.a ho).trans l;have y:=g.d ho;have z:=g.b;have A:=i.b;obtain⟨C,D⟩:=uj i n t m;have E:(n:Int)<=c:=by omega
 have G:wrap64 (n:Int)=n:=by unfold wrap64;omega
 have o(_:=()):aq b e h j/\jk b f (a.take n) c:=⟨g,by
  have:=i.g (n*2);have d:(iX a).take (n*2)=iX (a.take n):=by
   have H:iX a=iX (a.take n)++iX (a.drop n):=by rw[<-DY,Vd]
   have K:(iX (a.take n)).length=n*2:=by rw[AE,UK];omega
   grind
  rw[d]at this;exact this⟩
 clear g l i q m r;go_enter func253,ntmps253;go_wp2;go_ret;obtain⟨s,u,v⟩:=AC (ho:=ho) (n:=n) (w1:=b) o.1 (ae.a aa b) (ae.a aa _) (λd=>d) o.2 (WO p);exact⟨rfl,s.g _,u.d _,(v.d λ_ _ d=>d.elim id λd=>d.elim).b _⟩
def sL(a b:List Th):Prop:=a.length=b.length/\∀c,c∈a↔c∈b
def sL.a(a):sL a a:=⟨rfl,λ_=>Iff.rfl⟩
def sL.b{a b c}(d:sL c b)(e:sL b a):sL c a:=⟨d.1.trans e.1,λf=>(d.2 f).trans (e.2 f)⟩
def DX{c i b h j}(f:c[i]?=S h)(d:c[b]?=S j)(o:i≠b):sL ((c.set i j).set b h) c:=by
 refine⟨by simp,λp=>?_⟩;have k:=(Ul.1 f).1;have l:=(Ul.1 d).1;constructor;intro g;obtain⟨e,a⟩:=VL g;rw[Vi]at a;split at a;rename_i q;rw[UA,UG l]at a;cases a;exact Uo f;rw[Vi]at a;split at a;first
  |(cases a;exact Uo d)
  |(rw[if_pos k]at a;cases a;exact List.mem_of_getElem? d)
 exact Uo a;intro g;obtain⟨e,a⟩:=VL g;by_cases m:e=i;subst m;rw[f]at a;cases a;exact Uo (i:=b) (by rw[Vi,UG rfl,UA,UG l]);by_cases n:e=b;subst n;rw[d]at a;cases a;exact Uo (i:=i) (by rw[Vi,Us (WO o),Vi,UG rfl,UG k]);exact Uo (i:=e) (by rw[Vi,Us (WO n),Vi,Us (WO m)];exact a)
abbrev xI(a b:Nat):Value:= .iface 302 (P (S ⟨a,b,N⟩))
def AB(b c d e f a)(g:a.cell? ⟨b,c,N⟩=S (L d e f)):(loadVar 253 ⟨b,c,N⟩).run prog a= .ok (L d e f) a:=by unfold loadVar;go_simp
def AF(d a b e c):(Builtin.ssaWrapNilChk_ #[a] a #[P (S b),strVal "",strVal e]).run d c= .ok (P (S b)) c:=rfl
def AA(k b c d e f a)(h:a.cell? ⟨b,c,N⟩=S (L d e f)):(method (k+1) 302 (P (S ⟨b,c,N⟩)) "Less").run prog a= .ok (251,L d e f) a:=by
 have m:=AB b c d e f a h;have i:(t302.methods.find? λj=>j.name== "Less").map (λg=>(g.path,g.func))=S (#[],S (251,F)):=by kernel_rfl
 obtain⟨g,n,l⟩:=UD.1 i;simp only[VT]at l;unfold method;go_simp;unfold follow receiverAt;generalize ("Less".splitOn ".").getLast?.getD "Less" =nm;have o:=AF prog 302 ⟨b,c,N⟩ nm a;unfold Place.get;go_simp
def xL(k b c d e f a)(h:a.cell? ⟨b,c,N⟩=S (L d e f)):(method (k+1) 302 (P (S ⟨b,c,N⟩)) "Swap").run prog a= .ok (252,L d e f) a:=by
 have m:=AB b c d e f a h;have i:(t302.methods.find? λj=>j.name== "Swap").map (λg=>(g.path,g.func))=S (#[],S (252,F)):=by kernel_rfl
 obtain⟨g,n,l⟩:=UD.1 i;simp only[VT]at l;unfold method;go_simp;unfold follow receiverAt;generalize ("Swap".splitOn ".").getLast?.getD "Swap" =nm;have o:=AF prog 302 ⟨b,c,N⟩ nm a;unfold Place.get;go_simp
def DW(k b c d e f a)(h:a.cell? ⟨b,c,N⟩=S (L d e f)):(method (k+1) 302 (P (S ⟨b,c,N⟩)) "Len").run prog a= .ok (250,L d e f) a:=by
 have m:=AB b c d e f a h;have i:(t302.methods.find? λj=>j.name== "Len").map (λg=>(g.path,g.func))=S (#[],S (250,F)):=by kernel_rfl
 obtain⟨g,n,l⟩:=UD.1 i;simp only[VT]at l;unfold method;go_simp;unfold follow receiverAt;generalize ("Len".splitOn ".").getLast?.getD "Len" =nm;have o:=AF prog 302 ⟨b,c,N⟩ nm a;unfold Place.get;go_simp
def JP(k a b c):(method (k+1) 302 (P (S ⟨a,b,N⟩)) "Push").run prog c= .ok (254,P (S ⟨a,b,N⟩)) c:=by kernel_rfl
def JO(k a b c):(method (k+1) 302 (P (S ⟨a,b,N⟩)) "Pop").run prog c= .ok (253,P (S ⟨a,b,N⟩)) c:=by kernel_rfl
def JY(i j o D k l d e a h)(p:aq h i o D)(q:o[j]?=S (L (S ⟨k,0,N⟩) d l))(U:i≠k)(r:jk h k e l)(s:e.length=d)(t:a<d)(u:(d:Int)<1000000)(v:∀b c,e[a]?=S b->e[(a-1)/2]?=S c->c.w<=b.w):
 Cr 220 #[xI i j,.int J a] h (.tuple #[]) λE=>ae aa h E:=by
 have w:=@aC _ _ p q;have f:=@lP _ _ _ _ _ r s t u v;clear p q r s t u v;go_enter func220,ntmps220;go_wp2_with fail;go_loopw [1] (λx wr=>x=I J a/\wr=h) λx _=>0;case atStart=>exact⟨rfl,rfl⟩
 case round=>
  obtain⟨rfl,rfl⟩:=hrel;have y:=(w.1.a j).trans w.2;have G:(a:Int)<d:=by have:=f;omega
  by_cases H:a=0
  .subst H;go_wp2;go_end0;exact⟨rfl,ae.a _ _⟩
  .obtain⟨g,z⟩:=ah ((a-1)/2);have V:g<a:=by omega
   have W:wrap64 ((a:Int)-1)=((a-1:Nat):Int):=by unfold wrap64;have:=f;omega
   have X:wrap64 (((a-1:Nat):Int)/2)=(g:Int):=by unfold wrap64;have:=f;omega
   have Y:(((a-1:Nat):Int)).tdiv 2=((a-1:Nat):Int)/2:=rfl;have Z:¬g=a:=by omega
   obtain⟨b,m⟩:∃b,e[a]?=S b:=⟨_,Um (by have:=f;omega)⟩
   obtain⟨c,n⟩:∃c,e[g]?=S c:=⟨_,Um (by have:=f;omega)⟩
   have ab:=f.2.2.2.2 b c m (by rw[<-z];exact n);have K:=λM=>AA M i j _ _ _ wr y;have A:=@aC _ _ m n;have O:(g:Int)<d:=by omega
   have ac:((g:Int)==(a:Int))=F:=by simp;omega
   clear m n z;go_wp2_with fail;refine(vz k d l e a g b c A.1 A.2 wr f.1 G O).mono ?_;rintro ad ag ⟨rfl,Q,rfl⟩;have C:=(ae.a aa wr).drewN Q;have R:=@af _ C;clear K y C;have ai:decide (b.w<c.w)=F:=by simp only[Vh];omega
   go_wp2;go_end0;exact⟨rfl,R⟩
end Go.Proofs.YtlfijfodklhplaaGreat.HI
