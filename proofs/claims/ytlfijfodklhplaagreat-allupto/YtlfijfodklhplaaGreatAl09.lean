import Derived.Test.YtlfijfodklhplaaGreatAl07
import Derived.Test.YtlfijfodklhplaaGreatAl08
import Derived.Defers
import Derived.Recover
import Derived.LaidEql
set_option maxRecDepth 100000
set_option maxHeartbeats 1000000
set_option linter.all false
open Go.RowKit Go.Proofs.Tryz
open Go.Value renaming int->I,slice->L,pointer->P,bool->B
open Go.IntKind renaming i64->J
open Option renaming some->S,none->N
open Bool renaming true->T,false->F
namespace Go.Proofs.YtlfijfodklhplaaGreat
def F6(a):(Instr.makeSlice 56 (.int J 0) (.int J 10)).run prog a= .ok (L (S ⟨a.heap.size,0,N⟩) 0 10) (a.alloc (.cells #[.int .u8 0,.int .u8 0,.int .u8 0,.int .u8 0,.int .u8 0,.int .u8 0,.int .u8 0,.int .u8 0,.int .u8 0,.int .u8 0] 5)):=by kernel_rfl
def EK(d:World)(e)(f:Nat)(h:e=(f:Int))(t g)(i:g=d.heap.size):
 ∀a b,([f].map bv)[a]?=S b->(d.alloc (.cells #[.int .u8 e] t)).drew.cell? ((⟨g,0,N⟩:Addr).add a)=S b:=by
 intro a b c;subst h i;rw[Va,Ve,Xf,Vf];match a,c with
 |0,c=>simpa [bv]using c
abbrev Cp:Array Value:= #[I .u8 0,I .u8 0,I .u8 0,I .u8 0,I .u8 0,I .u8 0,I .u8 0,I .u8 0,I .u8 0,I .u8 0]
def EG(a:World):eB (a.alloc (.cells Cp 5)) a.heap.size [] 10:=
 ⟨[I .u8 0,I .u8 0,I .u8 0,I .u8 0,I .u8 0,I .u8 0,I .u8 0,I .u8 0,I .u8 0,I .u8 0],aq.e a _ _,rfl⟩
def M1(a:Nat)(h:a<65536)(d):
 Calls prog 124 #[.agg (fc F (a:Int) 0 0 0 F)] d λc i=>
  ∃e,c= .returned (.tuple #[L (S ⟨e,0,N⟩) 5 10,.int J 0])/\d.heap.size<=e/\eB i e (Fr.bi ⟨F,a,Fr.dq⟩) 10/\ae aa d i:=by
 have Q:=F6;have R:(a:Int)<=65535:=by omega
 have U:a/256<256:=by omega
 have v:Hid (a<65536):=h;clear h;go_enter func124,ntmps124;go_wp2_with fail;refine(Fi (a:Int) 0 0 0 F _).mono ?_;rintro c b ⟨rfl,f⟩;have V:d.heap.size<b.heap.size:=by have:=f.size;simp at this;omega
 have j:=λk=>f.f d.heap.size k (by simp) λc=>c;simp only[Vf]at j;have w:jB 0 0 0 F=T:=rfl;have l:=EG b;go_wp2_with fail;go_region_law (first|(refine zg rfl (.tmp 29) (.tmp 30) rfl b.heap.size 10 [] 0 rfl rfl (l.b _).drew ⟨b.heap.size+1,0,N⟩ 1 1 rfl [2] rfl (EK (b.alloc (.cells Cp 5)) 2 2 rfl 5 (b.heap.size+1) (Uv _ _).symm) (by omega) ?_;intro W x m;have y:=m.f d.heap.size 1 (by simp only[Uv,UR];omega) (by simp only[ap];omega))|(go_simp;refine(uw b.heap.size 10 ([]++[2]) 1 rfl a _ x (by omega) v.out).mono ?_;rintro c X ⟨rfl,n,z⟩));all_goals
  have o:∀p∈[2,a/256,a%256],p<256:=by intro p A;simp at A;omega
  have C:=Fr.n8 [2,a/256,a%256] o;have r:=yk b.heap.size 0 10 [2,a/256,a%256] _ n.d (by simp) o;generalize s:Fr.cI [2,a/256,a%256]=q at *;have D:Hid (Fr.cI [2,a/256,a%256]=q):=s;clear s l y j w;go_wp2_with fail;refine r.mono ?_;rintro c Y ⟨rfl,rfl⟩;clear r;go_wp2_with fail;refine(uw b.heap.size 10 ([]++[2]++[a/256,a%256]) 3 rfl q _ n (by omega) C).mono ?_;rintro c E ⟨rfl,G,H⟩;go_wp2;go_ret2;have K:eB E b.heap.size (Fr.bi ⟨F,a,Fr.dq⟩) 10:=by
   have c:Fr.bi ⟨F,a,Fr.dq⟩=[]++[2]++[a/256,a%256]++[q/256,q%256]:=by rw[<-D.out];simp[Fr.bi,Fr.jZ,Fr.gO]
   rw[c];exact G
  have g:∀ {t u:World},ae aa d t->ae (ap b.heap.size) t u->ae aa d u:=λM O=>M.g O (λk Z c=>by simp only[ap]at c;omega);exact⟨b.heap.size,rfl,by omega,K,g (g (g (((((ae.a aa d).b _).c f).b _).b _).drew m) z) H⟩
def M5(a:Nat)(u:a<65536)(d)(o:d.a<256)(p:d.c<256)(r:d.b<65536)(W:bJ (d.a:Int) (d.c:Int) (d.b:Int) d.d=T)(e):
 Calls prog 124 #[.agg (fc T (a:Int) (d.a:Int) (d.c:Int) (d.b:Int) d.d)] e λg v=>
  ∃s,g= .returned (.tuple #[L (S ⟨s,0,N⟩) 10 10,.int J 0])/\e.heap.size<=s/\eB v s (Fr.bi ⟨T,a,d⟩) 10/\ae aa e v:=by
 obtain⟨h,i,b,f⟩:=d;simp only at o p r W|-;have an:=F6;have ao:(a:Int)<=65535:=by omega
 have w:Hid (a<65536):=u;have x:Hid (h<256):=o;have y:Hid (i<256):=p;have z:Hid (b<65536):=r;clear u o p r;go_enter func124,ntmps124;go_wp2_with fail;refine(Fj (a:Int) (h:Int) (i:Int) (b:Int) f _).mono ?_;rintro g c ⟨rfl,t⟩;have aq:e.heap.size<c.heap.size:=by have:=t.size;simp at this;omega
 have k:=λj=>t.f e.heap.size j (by simp) λg=>g;simp only[Vf]at k;have A:=EG c;go_wp2_with fail;go_region_law (first|(refine zg rfl (.tmp 19) (.tmp 20) rfl c.heap.size 10 [] 0 rfl rfl (A.b _).drew ⟨c.heap.size+1,0,N⟩ 1 1 rfl [1] rfl (EK (c.alloc (.cells Cp 5)) 1 1 rfl 5 (c.heap.size+1) (Uv _ _).symm) (by omega) ?_;intro ar X m;have Y:=m.f e.heap.size 1 (by simp only[Uv,UR];omega) (by simp only[ap];omega))|(go_simp;refine(uw c.heap.size 10 ([]++[1]) 1 rfl a _ X (by omega) w.out).mono ?_;rintro g Z ⟨rfl,ab,C⟩));all_goals
  have l:∀j,Z.cell? ⟨e.heap.size,j,N⟩=c.cell? ⟨e.heap.size,j,N⟩:=λj=>by rw[C.f e.heap.size j (by have:=m.size;simp at this;omega) (by simp only[ap];omega),m.f e.heap.size j (by simp;omega) (by simp only[ap];omega),Xf,World.cell?_alloc_lt _ _ _ (by simp;omega),World.cell?_alloc_lt _ _ _ (by simp;omega)]
  clear Y;have D:=(l 2).trans (k 2);have E:=(l 3).trans (k 3);have G:=(l 4).trans (k 4);have H:=(l 5).trans (k 5);simp at D E G H;clear l k;go_wp2_with fail;refine(KH c.heap.size 10 ([]++[1]++[a/256,a%256]) 3 rfl h i b f _ ab (by omega) x.out y.out z.out).mono ?_;rintro g au ⟨rfl,K,ac⟩;have M:∀O∈[1,a/256,a%256,h,i,f.toNat,b/256,b%256],O<256:=by
   have av:=w.out;have aw:=x.out;have ax:=y.out;have ay:=z.out;have az:f.toNat<256:=by cases f<;>simp
   intro O ad;simp at ad;omega
  have af:=Fr.n8 [1,a/256,a%256,h,i,f.toNat,b/256,b%256] M;have Q:=yk c.heap.size 0 10 [1,a/256,a%256,h,i,f.toNat,b/256,b%256] _ K.d (by simp) M;generalize R:Fr.cI [1,a/256,a%256,h,i,f.toNat,b/256,b%256]=q at *;have ag:Hid (Fr.cI [1,a/256,a%256,h,i,f.toNat,b/256,b%256]=q):=R;clear R A D E G H;go_wp2_with fail;refine Q.mono ?_;rintro g aA ⟨rfl,rfl⟩;clear Q;go_wp2_with fail;refine(uw c.heap.size 10 ([]++[1]++[a/256,a%256]++[h,i,f.toNat]++[b/256,b%256]) 8 rfl q _ K (by omega) af).mono ?_;rintro g ah ⟨rfl,ai,aj⟩;go_wp2;go_ret2;have ak:eB ah c.heap.size (Fr.bi ⟨T,a,⟨h,i,b,f⟩⟩) 10:=by
   have g:Fr.bi ⟨T,a,⟨h,i,b,f⟩⟩=[]++[1]++[a/256,a%256]++[h,i,f.toNat]++[b/256,b%256]++[q/256,q%256]:=by rw[<-ag.out];simp[Fr.bi,Fr.jZ,Fr.gO]
   rw[g];exact ai
  have n:∀ {U V:World},ae aa e U->ae (ap c.heap.size) U V->ae aa e V:=λal am=>al.g am (λj aB g=>by simp only[ap]at g;omega);exact⟨c.heap.size,rfl,by omega,ak,n (n (n (n (((((ae.a aa e).b _).c t).b _).b _).drew m) C) ac) aj⟩
structure RS(w0 c:World)(d f cap:Nat)(g:List Nat)(k:Nat):Prop where
 a:Rd c (w0.heap.size+1) d f cap g k
 r:aq c w0.heap.size (fc F 0 0 0 0 F) 78
 b:ae aa w0 c
 e:d<w0.heap.size
def RS.c{w0 f w1 a b c d k g}(e:RS w0 f a b c d k)(i:Rd w1 (w0.heap.size+1) a b c d g)(h:ae (ap (w0.heap.size+1)) f w1):RS w0 w1 a b c d g:=
 ⟨i,e.r.c h (by simp only[ap];omega),e.b.g h (λl m j=>by simp only[ap]at j;omega),e.e⟩
def RS.d{w0 b c d e f k}(a:RS w0 b c d e f k)(g):RS w0 (b.alloc g) c d e f k:=
 ⟨a.a.b _,a.r.g _,a.b.b _,a.e⟩
def RS.f{w0 a b c d e k}(f:RS w0 a b c d e k):w0.heap.size+1<a.heap.size:=f.a.g
def RS.g{a c d cap b}(g:fE a c d b)(f:c<a.heap.size)(h:b.length<140737488355328)(i:∀j∈b,j<256):
 RS a ((a.alloc (.cells (fc F 0 0 0 0 F) 78)).alloc (.cells #[L (S ⟨c,d,N⟩) b.length cap,.int J 0] 330)) c d cap b 0:=
 ⟨⟨aq.h _ _ _ _ (by simp),(g.a ((ae.a aa a).b _) f λe=>e).a ((ae.a aa _).b _) (by simp;omega) λe=>e,by omega,by simp;omega,h,i⟩,(aq.e _ _ _).g _,((ae.a _ _).b _).b _,f⟩
def RS.h{w0 g i j l m k}(h:RS w0 g i j l m k)(a b c d e f):
 ae aa w0 (oW g w0.heap.size a b c d e f)/\aq (oW g w0.heap.size a b c d e f) w0.heap.size (fc a b c d e f) 78:=
 ⟨h.b.i _ (λh=>by omega) a b c d e f,h.r.j a b c d e f⟩
def Rd.m{b f c d g a k}(h:Rd b f c d g a k)(i):fE b c d (a.take i):=λe j=>by
 have:e<a.length:=by rw[UK]at j;omega
 rw[Xy];exact h.i e this
structure vJ where
 d:Bool
 s:Int
 k:Int
 l:Int
 n:Int
 f:Bool
def vJ.a:vJ:=⟨F,0,0,0,0,F⟩
def vf(a:List Nat)(k:Nat)(i:vJ):Prop:=∃c d:Nat,a[1]?=S c/\a[2]?=S d/\
 ((a[0]?=S 2/\k=3/\i=⟨F,(c:Int)*256+(d:Int),0,0,0,F⟩)\/(a[0]?=S 1/\k=8/\∃e f b g h:Nat,a[3]?=S e/\a[4]?=S f/\a[5]?=S b/\a[6]?=S g/\a[7]?=S h/\b<=1/\bJ (e:Int) (f:Int) ((g:Int)*256+(h:Int)) (b==1)=T/\i=⟨T,(c:Int)*256+(d:Int),(e:Int),(f:Int),(g:Int)*256+(h:Int),b==1⟩))
def Lb{b}(a:zA b):∃g h,vf b g h:=by obtain⟨c,d,e,f,a|⟨a,i,j,k,l,m,n,o,p,q,r,s,t⟩⟩:=a;exact⟨_,_,c,d,e,f,Ur ⟨a,rfl,rfl⟩⟩;exact⟨_,_,c,d,e,f,Up ⟨a,rfl,i,j,k,l,m,n,o,p,q,r,s,t,rfl⟩⟩
def Hx{a:List Nat}{k b}(c:a[k]?=S b):k<a.length:=(Ul.1 c).1
def vf.a{b k c}(a:vf b k c):k<=b.length/\(k=3\/k=8):=by obtain⟨f,g,h,d,⟨a,rfl,rfl⟩|⟨a,rfl,i,j,l,m,n,o,p,q,r,e,s,t,rfl⟩⟩:=a;have:=Hx d;exact⟨this,Ur rfl⟩;have:=Hx e;exact⟨this,Up rfl⟩
def EC(b f g h c d)(i:Rd d b f g h c 0)(k a)(e:vf c k a):
 Cr 209 #[P (S ⟨b,0,N⟩)] d (.agg (fc a.d a.s a.k a.l a.n a.f)) λj=>Rd j b f g h c k/\ae (ap b) d j:=by
 obtain⟨l,m,n,o,⟨e,rfl,rfl⟩|⟨e,rfl,p,q,r,s,t,u,v,w,x,y,z,A,rfl⟩⟩:=e;exact La b f g h c d i l m e n o;exact Ld b f g h c d i l m e n o p q r s t u v w x y z A
def Rm(f m cap b g)(W:fE g f m b)(X:f<g.heap.size)(ax:b.length<=cap)(Y:b.length<140737488355328)(q:∀a∈b,a<256)(k a)(w:vf b k a)(h i)(x:b[k]?=S h)(y:b[k+1]?=S i)(z:h*256+i=Fr.cI (b.take k))(A:b.length=k+2):
 Cr 181 #[L (S ⟨f,m,N⟩) b.length cap] g (.agg (fc a.d a.s a.k a.l a.n a.f)) λZ=>ae aa g Z:=by
 have o:=RS.g (cap:=cap) W X Y q;have ab:=w.a;have C:Hid (h*256+i=Fr.cI (b.take k)):=z;have D:Hid (b.length=k+2):=A;clear A z;go_enter func181,ntmps181;go_wp2_with fail;refine(EC (g.heap.size+1) f m cap b _ o.a k a w).mono ?_;rintro p ac ⟨rfl,r,s⟩;have n:=(o.c r s).d (.cells (fc a.d a.s a.k a.l a.n a.f) 78);have E:=aq.e ac (fc a.d a.s a.k a.l a.n a.f) 78;have ay:=(o.c r s).f;clear o r s;have e:=n.a.a.a 1;simp at e;go_wp2_with fail;have t:=yk f m cap (b.take k) _ (n.a.m k) (by rw[UK];omega) (wN q k);rw[UK,Nat.min_eq_left ab.1]at t;refine t.mono ?_;rintro p az ⟨rfl,rfl⟩;have aA:=Fr.n8 (b.take k) (wN q k);have G:(((h:Int)*256+(i:Int))==((Fr.cI (b.take k):Nat):Int))=T:=by have:=C.out;rw[V9];omega
 have H:Hid ((((h:Int)*256+(i:Int))==((Fr.cI (b.take k):Nat):Int))=T):=G;clear G t e C;generalize Fr.cI (b.take k)=c at *;go_wp2_with fail;refine(tI (g.heap.size+1) f m cap b k _ n.a h i x y).mono ?_;rintro p aB ⟨rfl,K,u⟩;have d:=n.c K u;have j:=E.c u (by simp only[ap];omega);have ad:=H.out;clear n E K u x y;go_wp2_with fail;refine(qs _).mono ?_;rintro p aC ⟨rfl,rfl⟩;have e:=d.a.a.a 1;simp at e;have af:((k:Int)+2==(b.length:Int))=T:=by have:=D.out;rw[V9];omega
 clear ad H D;go_wp2_with fail;refine(qs _).mono ?_;rintro p aD ⟨rfl,rfl⟩;clear af e;have e:=j.a 0;have ag:=j.a 1;have ah:=j.a 2;have ai:=j.a 3;have aj:=j.a 4;have ak:=j.a 5;simp at e ag ah ai aj ak;have al:=d.r.a 0;have am:=d.r.a 1;have an:=d.r.a 2;have ao:=d.r.a 3;have ar:=d.r.a 4;have au:=d.r.a 5;have aE:=λav=>d.r.d av;simp at al am an ao ar au;go_wp2;obtain⟨aw,l⟩:=d.h a.d a.s a.k a.l a.n a.f;have M:=l.a 0;have O:=l.a 1;have Q:=l.a 2;have R:=l.a 3;have U:=l.a 4;have V:=l.a 5;simp at M O Q R U V;exact UO (v:= .agg (fc a.d a.s a.k a.l a.n a.f)) (by simp[results,results181,go_sem,M,O,Q,R,U,V]) rfl ⟨rfl,aw⟩
def ie(a:List Nat)(e:vJ):Prop:=∃b c d:Nat,vf a b e/\a[b]?=S c/\a[b+1]?=S d/\c*256+d=Fr.cI (a.take b)/\a.length=b+2
def Rk(g h cap a e)(M:fE e g h a)(O:g<e.heap.size)(ab:a.length<=cap)(Q:a.length<140737488355328)(r:∀d∈a,d<256)(s:∀d,¬ie a d):
 Calls prog 181 #[L (S ⟨g,h,N⟩) a.length cap] e λf R=>f= .panicked oT/\ae aa e R:=by
 have j:=RS.g (cap:=cap) M O Q r;have z:∀ {A C:World},ae aa e A->ae (ap (e.heap.size+1)) A C->ae aa e C:=λk l=>k.g l (λac ad f=>by simp only[ap]at f;omega);go_enter func181,ntmps181;go_wp2_with fail;by_cases t:zA a
 .obtain⟨b,d,u⟩:=Lb t;clear t;have U:=u.a;refine(EC (e.heap.size+1) g h cap a _ j.a b d u).mono ?_;rintro f V ⟨rfl,v,m⟩;have i:=(j.c v m).d (.cells (fc d.d d.s d.k d.l d.n d.f) 78);have af:=(j.c v m).f;clear j v m;have p:=i.a.a.a 1;simp at p;go_wp2_with fail;have w:=yk g h cap (a.take b) _ (i.a.m b) (by rw[UK];omega) (wN r b);rw[UK,Nat.min_eq_left U.1]at w;refine w.mono ?_;rintro f ag ⟨rfl,rfl⟩;clear w p;have ah:=Fr.n8 (a.take b) (wN r b);generalize D:Fr.cI (a.take b)=c at *;have W:Hid (Fr.cI (a.take b)=c):=D;clear D;go_wp2_with fail;by_cases E:a.length<=b+1;refine(zo (e.heap.size+1) g h cap a b _ i.a E).mono ?_;rintro f X ⟨rfl,q⟩;exact⟨rfl,rfl,z i.b q⟩;obtain⟨n,k⟩:=oK a b (by omega);obtain⟨o,l⟩:=oK a (b+1) (by omega);clear E;refine(tI (e.heap.size+1) g h cap a b _ i.a n o k l).mono ?_;rintro f X ⟨rfl,G,q⟩;have x:=i.c G q;clear i G q;by_cases y:n*256+o=c
  .have H:(((n:Int)*256+(o:Int))==(c:Int))=T:=by rw[V9];omega
   have K:Hid (¬a.length=b+2):=λY=>s d ⟨b,n,o,u,k,l,by rw[W.out];exact y,Y⟩;clear y k l s;go_wp2_with fail;refine(qs _).mono ?_;rintro f Z ⟨rfl,rfl⟩;have p:=x.a.a.a 1;simp at p;have ai:((b:Int)+2==(a.length:Int))=F:=by have:=K.out;rw[Uy];omega
   clear H K;go_wp2_with fail;refine(tt _).mono ?_;rintro f aj ⟨rfl,rfl⟩;exact⟨rfl,rfl,x.b⟩
  .have H:(((n:Int)*256+(o:Int))==(c:Int))=F:=by rw[Uy];omega
   clear y k l s;go_wp2_with fail;refine(tt _).mono ?_;rintro f Z ⟨rfl,rfl⟩;exact⟨rfl,rfl,x.b⟩
 refine(Lf (e.heap.size+1) g h cap a _ j.a t).mono ?_;rintro f V ⟨rfl,m⟩;exact⟨rfl,rfl,z j.b m⟩
def KS(a):(Instr.typeAssert (.iface 279 (.agg #[])) 20 279 T).run prog a= .ok (.tuple #[.agg #[],B T]) a:=by kernel_rfl
def Ft(a b): #[a,b]++Array.replicate (f180.ntmps- #[a,b].size) undef= #[a,b,undef,undef,undef,undef,undef,undef,undef,undef,undef,undef,undef,undef,undef,undef,undef]:=by rw[ntmps180];rfl
def LC(c d a):
 CallsD prog 180 #[P (S c),P (S d)] .returning a λe f g=>e= .returned (.tuple #[])/\f= .returning/\g=a:=by
 refine callsD_of_wpS func180 rfl λh i b=>?_;rw[Ft];apply wpS_seq;apply wpS_region;simp[wpOpsS,go_sem,recoverD,b,Exit.thenS];refine wpS_of_wp ?_;go_wp2;exact⟨rfl,_,by rw[<-b],.tuple #[],by simp[results,results180,go_sem],rfl,rfl,rfl⟩
def EH(a b)(e:vJ)(l d)(c:aq d a (fc e.d e.s e.k e.l e.n e.f) 78)(h:aq d b #[.int J l] 32)(m:¬b=a)(hne':¬a=b):
 CallsD prog 180 #[P (S ⟨a,0,N⟩),P (S ⟨b,0,N⟩)] (.panicking oT) d λf n i=>
  f= .returned (.tuple #[])/\n= .panicking [{v:= .iface 279 (.agg #[]),recovered:=T}]/\aq i a (fc F 0 0 0 0 F) 78/\aq i b #[.int J 9] 32/\ae (λg=>g=a\/g=b) d i:=by
 unfold oT;have C:=KS;refine callsD_of_wpS func180 rfl λD E k=>?_;rw[Ft];apply wpS_seq;apply wpS_region;simp[wpOpsS,go_sem,recoverD,k,Exit.thenS];refine wpS_of_wp ?_;clear k;have o:=c.a 0;have q:=c.a 1;have r:=c.a 2;have s:=c.a 3;have t:=c.a 4;have u:=c.a 5;have G:=λj=>c.d j;have w:=h.a 0;have H:=λj=>h.d j;have K:=c.b;have M:=h.b;simp at o q r s t u w;go_wp2;have x:=(ae.a (ap a) d).i a (λ_=>rfl) F 0 0 0 0 F;have y:ae (ap b) (oW d a F 0 0 0 0 F) ((oW d a F 0 0 0 0 F).setCell ⟨b,0,N⟩ (I J 9)):=(ae.a (ap b) _).e (p:=⟨b,0,N⟩) (λ_=>rfl) _;have z:=(h.c x λf=>m f).f 0 (I J 9);have A:=(c.j F 0 0 0 0 F).c y λf=>hne' f;refine⟨rfl,_,rfl,.tuple #[],by simp[results,results180,go_sem],rfl,rfl,A.g _,z.g _,?_⟩;exact(((ae.a (λg=>g=a\/g=b) d).i a (λ_=>Ur rfl) F 0 0 0 0 F).e (p:=⟨b,0,N⟩) (λ_=>Up rfl) _).b _
def Rl(d e f b c)(h:fE c d e b)(i:d<c.heap.size)(j:b.length<=f)(k:b.length<140737488355328)(l:∀a∈b,a<256)(a)(g:ie b a):
 Cr 181 #[L (S ⟨d,e,N⟩) b.length f] c (.agg (fc a.d a.s a.k a.l a.n a.f)) λm=>ae aa c m:=by
 obtain⟨n,o,p,g,q,r,s,t⟩:=g;exact Rm d e f b c h i j k l n a g o p q r s t
def A7(i m h e b)(o:fE b i m e)(V:i<b.heap.size)(W:e.length<=h)(X:e.length<140737488355328)(q:∀a∈e,a<256)(a)(r:ie e a):
 Cr 128 #[L (S ⟨i,m,N⟩) e.length h] b (.tuple #[.agg (fc a.d a.s a.k a.l a.n a.f),.int J 0]) λY=>ae aa b Y:=by
 have ad:∀(s:Fn)(first h:Array Value)(b:World),(Instr.makeFunc s first h).run prog b= .ok (.func s first h) b:=λ_ _ _ _=>rfl;go_enter_defers func128,ntmps128;go_wp2_with fail;have t:=(o.a ((ae.a aa b).b (.cells (fc F 0 0 0 0 F) 78)) V λc=>c).a ((ae.a aa _).b (.cells #[I J 0] 32)) (by simp;omega) λc=>c;refine(Rl i m h e _ t (by simp;omega) W X q a r).mono ?_;rintro c j ⟨rfl,k⟩;have d:=((aq.e b (fc F 0 0 0 0 F) 78).g (.cells #[I J 0] 32)).c k λc=>c;have l:=(aq.h (b.alloc (.cells (fc F 0 0 0 0 F) 78)) #[I J 0] 32 (b.heap.size+1) (by simp)).c k λc=>c;have u:=d.a 0;have v:=d.a 1;have w:=d.a 2;have x:=d.a 3;have y:=d.a 4;have z:=d.a 5;have Z:=λn=>d.d n;have A:=l.a 0;have ab:=λn=>l.d n;simp at u v w x y z A;clear r o q t;go_wp2;have C:=(ae.a (ap b.heap.size) j).i b.heap.size (λ_=>rfl) a.d a.s a.k a.l a.n a.f;have D:ae (ap (b.heap.size+1)) (oW j b.heap.size a.d a.s a.k a.l a.n a.f) ((oW j b.heap.size a.d a.s a.k a.l a.n a.f).setCell ⟨b.heap.size+1,0,N⟩ (I J 0)):=(ae.a (ap (b.heap.size+1)) _).e (p:=⟨b.heap.size+1,0,N⟩) (λ_=>rfl) _;have g:=(d.j a.d a.s a.k a.l a.n a.f).c D (by simp only[ap];omega);have E:=(l.c C (by simp only[ap];omega)).f 0 (I J 0);have ac:ae aa b ((oW j b.heap.size a.d a.s a.k a.l a.n a.f).setCell ⟨b.heap.size+1,0,N⟩ (I J 0)):=
  (((((ae.a aa b).b _).b _).c k).i b.heap.size (λG=>by omega) a.d a.s a.k a.l a.n a.f).e (p:=⟨b.heap.size+1,0,N⟩) (λG=>by simp only at G;omega) _
 have H:=g.a 0;have K:=g.a 1;have M:=g.a 2;have O:=g.a 3;have Q:=g.a 4;have R:=g.a 5;have U:=E.a 0;simp only[UN]at H K M O Q R U;clear u v w x y z Z A ab C D g E d l k;refine leaves_cons (f:=180) (args:= #[P (S ⟨b.heap.size,0,N⟩),P (S ⟨b.heap.size+1,0,N⟩)]) (by simp) (by simp[go_sem]) ?_;refine(LC _ _ _).mono ?_;rintro c af ag ⟨rfl,rfl,rfl⟩;refine⟨.tuple #[.agg (fc a.d a.s a.k a.l a.n a.f),I J 0],?_,rfl,ac⟩;simp[results,results128,go_sem,H,K,M,O,Q,R,U]
def EV(h i d c a)(k:fE a h i c)(x:h<a.heap.size)(y:c.length<=d)(z:c.length<140737488355328)(l:∀g∈c,g<256)(m:∀g,¬ie c g):
 Cr 128 #[L (S ⟨h,i,N⟩) c.length d] a (.tuple #[.agg (fc F 0 0 0 0 F),.int J 9]) λA=>ae aa a A:=by
 have H:∀(n:Fn)(first d:Array Value)(a:World),(Instr.makeFunc n first d).run prog a= .ok (.func n first d) a:=λ_ _ _ _=>rfl;have o:Hid (∀g,¬ie c g):=m;clear m;go_enter_defers func128,ntmps128;go_wp2_with fail;have p:=(k.a ((ae.a aa a).b (.cells (fc F 0 0 0 0 F) 78)) x λb=>b).a ((ae.a aa _).b (.cells #[I J 0] 32)) (by simp;omega) λb=>b;refine(Rk h i d c _ p (by simp;omega) y z l o.out).mono ?_;rintro b K ⟨rfl,j⟩;have C:=((aq.e a (fc F 0 0 0 0 F) 78).g (.cells #[I J 0] 32)).c j λb=>b;have D:=(aq.h (a.alloc (.cells (fc F 0 0 0 0 F) 78)) #[I J 0] 32 (a.heap.size+1) (by simp)).c j λb=>b;clear o k l p;refine leaves_cons (f:=180) (args:= #[P (S ⟨a.heap.size,0,N⟩),P (S ⟨a.heap.size+1,0,N⟩)]) (by simp) (by simp[go_sem]) ?_;refine(EH a.heap.size (a.heap.size+1) vJ.a 0 _ C D (by omega) (by omega)).mono ?_;rintro b M O ⟨rfl,rfl,e,E,G⟩;have q:=e.a 0;have r:=e.a 1;have s:=e.a 2;have t:=e.a 3;have u:=e.a 4;have v:=e.a 5;have w:=E.a 0;simp at q r s t u v w;refine⟨.tuple #[.agg (fc F 0 0 0 0 F),I J 9],?_,rfl,?_⟩;simp[results,results128,go_sem,q,r,s,t,u,v,w];exact((((ae.a aa a).b _).b _).c j).g G λQ R b=>by obtain b|b:=b<;>omega
abbrev fv(a:Fr.ff):Array Value:=fc a.b (a.a:Int) (a.m.a:Int) (a.m.c:Int) (a.m.b:Int) a.m.d
def dx(a:Fr.ff):Prop:=a.a<65536/\((a.b=T/\a.m.a<256/\a.m.c<256/\a.m.b<65536/\bJ (a.m.a:Int) (a.m.c:Int) (a.m.b:Int) a.m.d=T)\/(a.b=F/\a.m=Fr.dq))
def ee(a:Fr.ff):Nat:=if a.b then 10 else 5
def Ff(a)(l:dx a)(b):
 Calls prog 124 #[.agg (fv a)] b λm g=>
  ∃f,m= .returned (.tuple #[L (S ⟨f,0,N⟩) (ee a) 10,.int J 0])/\b.heap.size<=f/\eB g f (Fr.bi a) 10/\ae aa b g:=by
 obtain⟨o,h,n⟩:=a;obtain⟨e,⟨c,d,i,j,k⟩|⟨c,d⟩⟩:=l;simp only at e c d i j k;subst c;exact M5 h e n d i j k b;simp only at e c d;subst c d;exact M1 h e b
def KO(a)(f:dx a)(c):
 Calls prog 76 #[.agg (fv a)] c λd e=>
  ∃b,d= .returned (.tuple #[L (S ⟨b,0,N⟩) (ee a) 10,.int J 0])/\c.heap.size<=b/\eB e b (Fr.bi a) 10/\ae aa c e:=by
 go_enter func76,ntmps76;go_wp2_with fail;refine(Ff a f _).mono ?_;rintro d j ⟨b,rfl,g,h,i⟩;simp at g;go_wp2;go_ret2;exact⟨b,rfl,by omega,h,((ae.a _ _).b _).c i⟩
def KN(f h i d b)(j:fE b f h d)(u:f<b.heap.size)(w:d.length<=i)(x:d.length<140737488355328)(k:∀a∈d,a<256)(a)(l:ie d a):
 Cr 80 #[L (S ⟨f,h,N⟩) d.length i] b (.tuple #[.agg (fc a.d a.s a.k a.l a.n a.f),.int J 0]) λy=>ae aa b y:=by
 have m:=j.a ((ae.a aa b).b (.cells (fc F 0 0 0 0 F) 78)) u λg=>g;go_enter func80,ntmps80;go_wp2_with fail;refine(A7 f h i d _ m (by simp;omega) w x k a l).mono ?_;rintro g M ⟨rfl,n⟩;have c:=(aq.e b (fc F 0 0 0 0 F) 78).c n λg=>g;have z:=c.a 0;have A:=c.a 1;have C:=c.a 2;have D:=c.a 3;have E:=c.a 4;have G:=c.a 5;have O:=λH=>c.d H;simp at z A C D E G;clear l j k m;go_wp2;have e:=c.j a.d a.s a.k a.l a.n a.f;have K:=(((ae.a aa b).b _).c n).i b.heap.size (λQ=>by omega) a.d a.s a.k a.l a.n a.f;have o:=e.a 0;have p:=e.a 1;have q:=e.a 2;have r:=e.a 3;have s:=e.a 4;have t:=e.a 5;simp only[UN]at o p q r s t;exact UO (v:= .tuple #[.agg (fc a.d a.s a.k a.l a.n a.f),I J 0]) (by simp[results,results80,go_sem,o,p,q,r,s,t]) rfl ⟨rfl,K⟩
def Et(f h i a b)(j:fE b f h a)(w:f<b.heap.size)(x:a.length<=i)(y:a.length<140737488355328)(k:∀e∈a,e<256)(l:∀e,¬ie a e):
 Cr 80 #[L (S ⟨f,h,N⟩) a.length i] b (.tuple #[.agg (fc F 0 0 0 0 F),.int J 9]) λz=>ae aa b z:=by
 have m:=j.a ((ae.a aa b).b (.cells (fc F 0 0 0 0 F) 78)) w λg=>g;have n:Hid (∀e,¬ie a e):=l;clear l;go_enter func80,ntmps80;go_wp2_with fail;refine(EV f h i a _ m (by simp;omega) x y k n.out).mono ?_;rintro g O ⟨rfl,o⟩;have c:=(aq.e b (fc F 0 0 0 0 F) 78).c o λg=>g;have A:=c.a 0;have C:=c.a 1;have D:=c.a 2;have E:=c.a 3;have G:=c.a 4;have H:=c.a 5;have Q:=λK=>c.d K;simp at A C D E G H;clear n j k m;go_wp2;have d:=c.j F 0 0 0 0 F;have M:=(((ae.a aa b).b _).c o).i b.heap.size (λR=>by omega) F 0 0 0 0 F;have p:=d.a 0;have q:=d.a 1;have r:=d.a 2;have s:=d.a 3;have t:=d.a 4;have u:=d.a 5;simp only[UN]at p q r s t u;exact UO (v:= .tuple #[.agg (fc F 0 0 0 0 F),I J 9]) (by simp[results,results80,go_sem,p,q,r,s,t,u]) rfl ⟨rfl,M⟩
def mR(a:Fr.ff):vJ:=⟨a.b,(a.a:Int),(a.m.a:Int),(a.m.c:Int),(a.m.b:Int),a.m.d⟩
def lB(a):(Fr.bi a).length=ee a:=by obtain⟨b,c,d⟩:=a;cases b<;>simp[Fr.bi,Fr.jZ,Fr.gO,ee]
def Lc(a):(Fr.gO a).length=ee a-2:=by obtain⟨b,c,d⟩:=a;cases b<;>simp[Fr.gO,ee]
def Nr(a):ee a=5\/ee a=10:=by unfold ee;cases a.b<;>simp
def TC(a:Bool):a.toNat<256:=by cases a<;>simp
def A3(b)(g:dx b):∀c∈Fr.gO b,c<256:=by obtain⟨k,l,h⟩:=b;obtain⟨e,⟨a,f,i,j,m⟩|⟨a,f⟩⟩:=g;simp only at e a f i j;subst a;intro c d;simp only[Fr.gO,VR,UZ,U9,Wc]at d;have:=TC h.d;omega;simp only at e a;subst a;intro c d;simp[Fr.gO]at d;omega
def qo(b)(e:dx b):∀c∈Fr.bi b,c<256:=by have d:=A3 b e;have f:=Fr.n8 (Fr.gO b) d;intro c a;simp only[Fr.bi,Fr.jZ,UP,UZ,U9,Wc]at a;obtain a|a|a:=a;exact d c a;omega;omega
def pC(c)(l:dx c):ie (Fr.bi c) (mR c):=by
 have o:=A3 c l;have s:=Fr.n8 (Fr.gO c) o;obtain⟨t,b,a⟩:=c;obtain⟨m,⟨d,f,p,r,n⟩|⟨d,f⟩⟩:=l;simp only at m d f p r n;subst d;have g:Fr.bi ⟨T,b,a⟩=[1,b/256,b%256,a.a,a.c,a.d.toNat,a.b/256,a.b%256]++[Fr.cI (Fr.gO ⟨T,b,a⟩)/256,Fr.cI (Fr.gO ⟨T,b,a⟩)%256]:=by simp[Fr.bi,Fr.jZ,Fr.gO]
 have h:Fr.gO ⟨T,b,a⟩=[1,b/256,b%256,a.a,a.c,a.d.toNat,a.b/256,a.b%256]:=by simp[Fr.gO]
 rw[g];generalize e:Fr.cI (Fr.gO ⟨T,b,a⟩)=q at *;rw[h]at e;refine⟨8,q/256,q%256,⟨b/256,b%256,rfl,rfl,Up ⟨rfl,rfl,a.a,a.c,a.d.toNat,a.b/256,a.b%256,rfl,rfl,rfl,rfl,rfl,?_,?_,?_⟩⟩,rfl,rfl,?_,rfl⟩;cases a.d<;>simp;have i:((a.b/256:Nat):Int)*256+((a.b%256:Nat):Int)=(a.b:Int):=by omega
 have j:(a.d.toNat==1)=a.d:=by cases a.d<;>rfl
 rw[i,j];exact n;have i:((a.b/256:Nat):Int)*256+((a.b%256:Nat):Int)=(a.b:Int):=by omega
 have j:(a.d.toNat==1)=a.d:=by cases a.d<;>rfl
 have k:((b/256:Nat):Int)*256+((b%256:Nat):Int)=(b:Int):=by omega
 rw[i,j,k];rfl;show q/256*256+q%256=Fr.cI [1,b/256,b%256,a.a,a.c,a.d.toNat,a.b/256,a.b%256];rw[e];omega;simp only at m d f;subst d f;have g:Fr.bi ⟨F,b,Fr.dq⟩=[2,b/256,b%256]++[Fr.cI (Fr.gO ⟨F,b,Fr.dq⟩)/256,Fr.cI (Fr.gO ⟨F,b,Fr.dq⟩)%256]:=by simp[Fr.bi,Fr.jZ,Fr.gO]
 have h:Fr.gO ⟨F,b,Fr.dq⟩=[2,b/256,b%256]:=by simp[Fr.gO]
 rw[g];generalize e:Fr.cI (Fr.gO ⟨F,b,Fr.dq⟩)=q at *;rw[h]at e;refine⟨3,q/256,q%256,⟨b/256,b%256,rfl,rfl,Ur ⟨rfl,rfl,?_⟩⟩,rfl,rfl,?_,rfl⟩;have k:((b/256:Nat):Int)*256+((b%256:Nat):Int)=(b:Int):=by omega
 rw[k];rfl;show q/256*256+q%256=Fr.cI [2,b/256,b%256];rw[e];omega
def Sl(a)(i:∀n∈a,n<256)(k)(r:k<a.length+2)(b)(o:b<256)(j l)(c:((Fr.jZ a).set k b)[a.length]?=S j)(d:((Fr.jZ a).set k b)[a.length+1]?=S l)(m:j*256+l=Fr.cI (((Fr.jZ a).set k b).take a.length)):(Fr.jZ a)[k]?=S b:=by
 have s:=Fr.n8 a i;by_cases f:k<a.length;have e:(Fr.jZ a).set k b=a.set k b++[Fr.cI a/256,Fr.cI a%256]:=Ws _ _ f;have g:(Fr.jZ a)[k]?=a[k]?:=Ux f;rw[e,Ut (by simp)]at c d;rw[e,WU (by simp)]at m;simp at c d;subst c d;have:=Fr.Iw a k f b o i (by omega);rw[g,Um f,this];have e:(Fr.jZ a).set k b=a++([Fr.cI a/256,Fr.cI a%256].set (k-a.length) b):=Vy _ _ (by omega);have g:(Fr.jZ a)[k]?=[Fr.cI a/256,Fr.cI a%256][k-a.length]?:=Ut (by omega);rw[e,Ut (by simp)]at c d;rw[e,WU rfl]at m;rw[g];generalize Fr.cI a=q at *;have p:k-a.length=0\/k-a.length=1:=by omega
 obtain h|h:=p;rw[h]at c d|-;simp at c d|-;omega;rw[h]at c d|-;simp at c d|-;omega
def M0(a)(d:dx a)(k b)(o:k<ee a)(e:b<256)(f:(Fr.bi a)[k]?≠S b):∀c,¬ie ((Fr.bi a).set k b) c:=by
 rintro c ⟨g,h,i,p,j,l,m,q⟩;have r:((Fr.bi a).set k b).length=ee a:=by rw[UA,lB]
 have s:=Lc a;have t:=Nr a;have n:g=(Fr.gO a).length:=by omega
 subst n;exact f (Sl (Fr.gO a) (A3 a d) k (by omega) b e h i j l m)
structure En where
 aJ:Nat
 aI:List Fr.cF
 aT:Nat
 aO:List (Option Fr.cF)
 aA:List Fr.ff
namespace En
def e:En:=⟨0,[],0,[N,N,N,N],[]⟩
def gU(a:Nat):List Fr.cF->List Fr.ff
 |[]=>[]
 |b::c=>⟨T,a,b⟩::gU (a+1) c
def c(a:En):Nat:=min a.aI.length 4
def r(a:En)(k:Nat):En:= {a with aA:=a.aA++gU (a.aJ+k) ((a.aI.take 4).drop k)}
def w(a:En)(b:Fr.cF):En:= {a with aI:=a.aI++[b]}
def n(a:En)(b:Fr.cF):En:=(a.w b).r a.c
def u(a:En)(b:Nat):En:= {a with aJ:=a.aJ+b,aI:=a.aI.drop b}
def h(a:En)(b:Nat):En:=if a.aJ<b/\b<=a.aJ+a.c then (a.u (b-a.aJ)).r (a.c-(b-a.aJ))else a
def a(b:En)(c:Nat)(d:Fr.cF):En:=if b.aT<=c then (match b.aO[c-b.aT]? with|some none=> {b with aO:=b.aO.set (c-b.aT) (S d)}|_=>b)else b
def dU:List (Option Fr.cF)->List Fr.cF
 |some a::b=>a::dU b
 |_=>[]
def g(a:En):En:= {a with aT:=a.aT+(dU a.aO).length,aO:=a.aO.drop (dU a.aO).length++List.replicate (dU a.aO).length N}
def p(a:En):En:=if a.aT<65536 then {a with aA:=a.aA++[⟨F,a.aT,Fr.dq⟩]}else a
def i(a:En)(b:Nat)(c:Fr.cF):En:=(a.a b c).g.p
def q(a:En)(b:Nat)(c:Fr.cF):List Fr.cF:=dU (a.a b c).aO
def o(a:En):En:=a.r 0
def f(a:En):En:= {a with aA:=[]}
end En
def uF(b a):(En.gU b a).length=a.length:=by
 induction a generalizing b with
 |nil=>rfl
 |cons d e c=>simp[En.gU,c]
def Bh(a b k):En.gU a (b++k)=En.gU a b++En.gU (a+b.length) k:=by
 induction b generalizing a with
 |nil=>simp[En.gU]
 |cons d e c=>simp only[WN,En.gU,c,Vg];rw[Nat.add_right_comm,<-UI]
def dy(a:Fr.cF):List Value:=[I J (a.a:Int),I J (a.c:Int),I J (a.b:Int),B a.d]
def cH(a:List Fr.cF):List Value:=a.flatMap dy
def Ga(a):(cH a).length=a.length*4:=by
 induction a with
 |nil=>rfl
 |cons c d b=>simp only[cH,Vs,Uu,Vg]at b|-;rw[b];simp[dy];omega
def wh(a b):cH (a++b)=cH a++cH b:=by simp[cH]
def F9(b a):(cH b).drop (a*4)=cH (b.drop a):=by
 induction b generalizing a with
 |nil=>simp[cH]
 |cons d e c=>
  cases a with
  |zero=>simp
  |succ a=>
   have:=c a;simp only[cH,Vs,Xl]at this|-;rw[<-this,We,U6 (by simp[dy];omega),VG];simp[dy];omega
def wj(c):∀a∈cH c,a.oneCell'=T:=by intro a d;obtain⟨e,_,b⟩:=VW.1 d;simp only[dy,UZ,U9,Wc]at b;obtain rfl|rfl|rfl|rfl:=b<;>rfl
def yJ(a b d)(e:a[b]?=S d)(c)(f:c<4):(cH a)[b*4+c]?=(dy d)[c]?:=by
 have g:(cH a).drop (b*4)=dy d++cH (a.drop (b+1)):=by rw[F9];obtain⟨h,rfl⟩:=Ul.1 e;rw[VY h];rfl
 have i:(cH a)[b*4+c]?=((cH a).drop (b*4))[c]?:=by rw[VC]
 rw[i,g,Ux (by simpa [dy]using f)]
def Pg:Option Fr.cF->Fr.cF
 |some a=>a
 |none=>Fr.dq
def pK(a:Option Fr.cF):List Value:=dy (Pg a)++[B a.isSome]
def jC(a:List (Option Fr.cF)):List Value:=a.flatMap pK
def XV(a):(jC a).length=a.length*5:=by
 induction a with
 |nil=>rfl
 |cons c d b=>simp only[jC,Vs,Uu,Vg]at b|-;rw[b];simp[pK,dy];omega
def oO(a:Nat)(b:Fr.ff):Value:=L (S ⟨a,0,N⟩) (ee b) 10
def oU(a:List Nat)(b:List Fr.ff):List Value:=List.zipWith oO a b
structure Pl where
 wa:Option Addr
 wc:Nat
 oa:Option Addr
 oc:Nat
 gs:List Nat
def En.cells(a:En)(b:Pl):List Value:=I J (a.aJ:Int)::L b.wa a.aI.length b.wc::I J (a.aT:Int)::(jC a.aO++[L b.oa a.aA.length b.oc])
def m6(a:En)(b)(c:a.aO.length=4):(a.cells b).length=24:=by simp[En.cells,XV,c]
def dC(a:Fr.cF):Prop:=a.a<256/\a.c<256/\a.b<65536/\bJ (a.a:Int) (a.c:Int) (a.b:Int) a.d=T
def lZ(b:Nat)(a:Pl)(k:Nat):Prop:=k=b\/ag a.wa k\/ag a.oa k\/k∈a.gs
def ma(b:Nat)(a:Pl)(k:Nat):Prop:=k=b\/ag a.wa k\/ag a.oa k
structure bO(e:World)(i:Array Value)(t:TypeId)(f j:Nat)(a:En)(b:Pl):Prop where
 iP:aq e f (ik i j (a.cells b)) t
 lF:j+24<=i.size
 ft:a.aO.length=4
 jR:RV e 76 4 b.wa a.aI.length b.wc (cH a.aI)
 l8:RV e 56 1 b.oa a.aA.length b.oc (oU b.gs a.aA)
 gl:b.gs.length=a.aA.length
 l6:∀(c k:Nat)(g:Fr.ff),b.gs[c]?=S k->a.aA[c]?=S g->eB e k (Fr.bi g) 10
 wb:¬ag b.wa f
 ob:¬ag b.oa f
 wo:∀d,ag b.wa d->¬ag b.oa d
 gw:∀d,d∈b.gs->¬ma f b d
 gn:b.gs.Nodup
 lH:∀h∈a.aI,dC h
 jn:a.aJ+a.aI.length<=65536
 lp:a.aT<=65536
 kn:∀(c:Nat)(h:Fr.cF),a.aO[c]?=S (S h)->a.aT+c<65536
 l7:∀g∈a.aA,dx g
def bO.a{h i w' j t d l m g}(a:bO i j t d l m g)(k:ae h i w')(e:∀f,lZ d g f->¬h f):bO w' j t d l m g where
 iP:=a.iP.c k (e d (Ur rfl))
 lF:=a.lF
 ft:=a.ft
 jR:=a.jR.a k λb c=>e b (Up (Ur c))
 l8:=a.l8.a k λb c=>e b (Up (Up (Ur c)))
 gl:=a.gl
 l6:=λf b n c o=>(a.l6 f b n c o).a k (e b (Up (Up (Up (Uo c)))))
 wb:=a.wb
 ob:=a.ob
 wo:=a.wo
 gw:=a.gw
 gn:=a.gn
 lH:=a.lH
 jn:=a.jn
 lp:=a.lp
 kn:=a.kn
 l7:=a.l7
def bO.d{g i t h j e f}(a:bO g i t h j e f):∀b,lZ h f b->b<g.heap.size:=by
 rintro b (rfl|c|c|c);exact a.iP.b;exact a.jR.b b c;exact a.l8.b b c;obtain⟨d,k,rfl⟩:=U3 c;have l:d<e.aA.length:=by have:=a.gl;omega
 exact(a.l6 d f.gs[d] e.aA[d] (Um k) (Um l)).c
def bO.c{f c t g d a b}(e:bO f c t g d a b):d+(a.cells b).length<=c.size:=by rw[m6 a b e.ft];exact e.lF
def bO.b{c i t d e f g}(h:bO c i t d e f g)(a b)(j:(f.cells g)[a]?=S b):c.cell? ⟨d,e+a,N⟩=S b:=h.iP.l h.c a b j
def bO.f{a d t b e f g}(h:bO a d t b e f g)(c):a.frozen? ⟨b,c,N⟩=F:=h.iP.d c
def bO.h{a e t b c d f}(g:bO a e t b c d f):a.cell? ⟨b,c,N⟩=S (.int J d.aJ):=g.b 0 _ rfl
def bO.e{b f t c d e a}(g:bO b f t c d e a):b.cell? ⟨c,d+1,N⟩=S (L a.wa e.aI.length a.wc):=g.b 1 _ rfl
def bO.g{a e t b c d f}(g:bO a e t b c d f):a.cell? ⟨b,c+2,N⟩=S (.int J d.aT):=g.b 2 _ rfl
def LG(a:En)(b)(c:a.aO.length=4):(a.cells b)[23]?=S (L b.oa a.aA.length b.oc):=by
 have d:(jC a.aO).length=20:=by rw[XV,c]
 simp only[En.cells,UH];grind
def bO.i{c g t d e b a}(f:bO c g t d e b a):c.cell? ⟨d,e+23,N⟩=S (L a.oa b.aA.length a.oc):=f.b 23 _ (LG b a f.ft)
def EM(a:En)(b)(f:a.aO.length=4)(c d e g):(a.cells b).set 23 (L d c.length e)=({a with aA:=c}:En).cells {b with oa:=d,oc:=e,gs:=g}:=by
 have h:(jC a.aO).length=20:=by rw[XV,f]
 simp only[En.cells,UB];simp_all
def wv:(prog.info? 76).map (λa=>(a.zero,a.size,a.bytes))=S (S (.agg #[.int J 0,.int J 0,.int J 0,B F]),4,32):=by kernel_rfl
def F4:(prog.info? 56).map (λa=>(a.zero,a.size,a.bytes))=S (S (L N 0 0),1,24):=by kernel_rfl
def Gp(b c d e wc:Nat)(f a)(h:a.cell? ⟨b,c,N⟩=S (.int J d))(i:a.cell? ⟨b,c+1,N⟩=S (L f e wc))(j:(d:Int)+e<=65536):
 Cr 162 #[P (S ⟨b,c,N⟩)] a (.int J ((d:Int)+e)) λg=>ae aa a g:=by
 go_enter func162,ntmps162;go_wp2_with fail;go_quiet (fail);all_goals
  go_wp2;go_ret;exact⟨rfl,ae.a _ _ |>.drewN _⟩
def ze(c d a wc e)(b:World)(g:b.cell? ⟨c,d+1,N⟩=S (L e a wc))(h:(a:Int)<=65536):
 Cr 163 #[P (S ⟨c,d,N⟩)] b (.int J ((min a 4:Nat):Int)) λf=>b=f:=by
 go_enter func163,ntmps163;go_wp2;all_goals
  go_ret;exact⟨rn (by omega),rfl⟩
abbrev mv(a:Fr.cF):Value:= .agg #[I J (a.a:Int),I J (a.c:Int),I J (a.b:Int),B a.d]
def Ss(b d x e wc:Nat)(c k f a)(m:a.cell? ⟨b,d+1,N⟩=S (L c e wc))(p:a.frozen? ⟨b,d+1,N⟩=F)(q:RV a 76 4 c e wc k)(n:¬ag c b)(y:(e:Int)<=65536):
 Cr 164 #[P (S ⟨b,d,N⟩),mv f] a (.tuple #[]) λr=>∃h j g,RV g 76 4 h (e+1) j (k++dy f)/\(∀i,ag h i->ag c i\/a.heap.size<=i)/\ae (ag c) a g/\r=g.setCell ⟨b,d+1,N⟩ (L h (e+1) j):=by
 have o:=UL a _ m;go_enter func164,ntmps164;go_wp2_with fail;go_region_law (refine Cm rfl (.tmp 8) (.tmp 10) 112 rfl 76 (.agg #[I J 0,I J 0,I J 0,B F]) 4 32 underlying112 wv rfl c e wc rfl k ((q.c _).drew.c _) ⟨a.heap.size+1,0,N⟩ 1 1 (by omega) rfl (dy f) rfl (ke (a.alloc (.cells (dy f).toArray 76)).drew (dy f) 76 _ (by simp)) (by simpa [cH]using wj [f]) (by omega) (by omega) ?_;intro h j g s t u;have l:ae (ag c) a g:=((((ae.a _ a).b _).drew).b _).c u;have z:=(l.f b (d+1) o n).trans m;have A:=(l.h b (d+1) o n).trans p);all_goals
  go_wp2;go_end0;exact⟨rfl,h,j,g,s,λi v=>(t i v).imp id (λw=>by rw[w];simp;omega),l,rfl⟩
def Mr(a b h e f k c wc:Nat)(d)(m:d.cell? ⟨a,b,N⟩=S (.int J f))(n:d.cell? ⟨a,b+1,N⟩=S (L (S ⟨h,e,N⟩) c wc))(o:d.frozen? ⟨a,b,N⟩=F)(p:d.frozen? ⟨a,b+1,N⟩=F)(q:(f:Int)<=65536)(r:k<=c)(s:c<=wc)(t:(c:Int)<=65536):
 Cr 197 #[P (S ⟨a,b,N⟩),.int J k] d (.tuple #[]) λi=>∃g,(g=e+k*4\/(wc=k/\g=e))/\i=(d.setCell ⟨a,b,N⟩ (.int J ((f:Int)+k))).setCell ⟨a,b+1,N⟩ (L (S ⟨h,g,N⟩) (c-k) (wc-k)):=by
 by_cases j:wc=k
 .subst j;go_enter func197,ntmps197;have l:c=wc:=by omega
  subst l;go_wp2;go_end0;simp
 .go_enter func197,ntmps197;go_wp2;go_end0;simp
def NB(e f h i d k g wc:Nat)(a b)(p:b.cell? ⟨e,f,N⟩=S (.int J d))(n:b.cell? ⟨e,f+1,N⟩=S (L (S ⟨h,i,N⟩) g wc))(q:(d:Int)<=65536)(r:k<g)(s:(g:Int)<=65536)(c:∀j l,(dy a)[j]?=S l->b.cell? ⟨h,i+k*4+j,N⟩=S l):
 Cr 194 #[P (S ⟨e,f,N⟩),.int J k] b (.agg (fc T ((d:Int)+k) (a.a:Int) (a.c:Int) (a.b:Int) a.d)) λo=>ae aa b o:=by
 have t:=UL b _ n;have m:=c 0 _ rfl;have u:=c 1 _ rfl;have w:=c 2 _ rfl;have x:=c 3 _ rfl;have y:=UL b _ m;rw[Vn]at m;clear c;go_enter func194,ntmps194;go_wp2_with fail;go_region;all_goals
  go_wp2;refine UO (v:= .agg (fc T ((d:Int)+k) (a.a:Int) (a.c:Int) (a.b:Int) a.d)) ?_ rfl ⟨rfl,?_⟩;simp[results,results194,go_sem];exact((ae.a _ _).b _).drew
structure fG(b w':World)(f:Nat)(g h:Pl):Prop where
 d:∀a,ma f h a->ma f g a\/b.heap.size<=a
 e:∀a,a∈h.gs->a∈g.gs\/b.heap.size<=a
 c:ae (ma f g) b w'
def fG.f(b d c):fG b b d c c:=⟨λ_ a=>Ur a,λ_ a=>Ur a,ae.a _ _⟩
def fG.a{f w1 g e h i j}(c:fG f w1 e h i)(k:fG w1 g e i j):fG f g e h j:=
 ⟨λb d=>(k.d b d).elim (λa=>c.d b a) λa=>Up (UM c.c.size a),λb d=>(k.e b d).elim (λa=>c.e b a) λa=>Up (UM c.c.size a),c.c.g k.c λb d a=>(c.d b a).elim id λl=>by omega⟩
def fG.b{b w1}(d c)(a:ae aa b w1):fG b w1 d c c:=⟨λ_ a=>Ur a,λ_ a=>Ur a,a.d λ_ _ e=>e.elim⟩
def lZ.a{c b k}(a:lZ c b k):ma c b k\/k∈b.gs:=by obtain a|a|a|a:=a;exact Ur (Ur a);exact Ur (Up (Ur a));exact Ur (Up (Up a));grind
def ma.a{b c k}(a:ma b c k):lZ b c k:=by obtain a|a|a:=a;exact Ur a;exact Up (Ur a);exact Up (Up (Ur a))
def fG.g{d w' b e f}(g:fG d w' b e f):∀a,lZ b f a->lZ b e a\/d.heap.size<=a:=λa h=>
 h.a.elim (λc=>(g.d a c).imp ma.a id) λc=>(g.e a c).imp (λi=>Up (Up (Up i))) id
def Qr(a b)(e:a.length=b.length)(c d):oU (a++[c]) (b++[d])=oU a b++[oO c d]:=by simp[oU,List.zipWith_append e]
def bO.o{j w1 A t e k d p}(b:bO j A t e k d p)(l h)(X:dx l)(C:eB j h (Fr.bi l) 10)(r:¬lZ e p h)(a' c')(K:RV w1 56 1 a' (d.aA.length+1) c' (oU p.gs d.aA++[oO h l]))(s:∀c,ag a' c->ag p.oa c\/j.heap.size<=c)(u:ae (ag p.oa) j w1):
 bO (w1.setCell ⟨e,k+23,N⟩ (L a' (d.aA.length+1) c')) A t e k {d with aA:=d.aA++[l]} {p with oa:=a',oc:=c',gs:=p.gs++[h]}:=by
 have Y:=b.iP.b;have v:ae (ap e) w1 (w1.setCell ⟨e,k+23,N⟩ (L a' (d.aA.length+1) c')):=(ae.a (ap e) w1).e (p:=⟨e,k+23,N⟩) (λ_=>rfl) _;have D:∀c,ag a' c->c≠e:=λc n d=>(s c n).elim (λa=>b.ob (d▸a)) (λa=>by omega);have M:({d with aA:=d.aA++[l]}:En).cells {p with oa:=a',oc:=c',gs:=p.gs++[h]}=(d.cells p).set 23 (L a' (d.aA.length+1) c'):=by have:=EM d p b.ft (d.aA++[l]) a' c' (p.gs++[h]);grind
 refine {iP:=?_,lF:=b.lF,ft:=b.ft,jR:=?_,l8:=?_,gl:=by simp[b.gl],l6:=?_,wb:=b.wb,ob:=λa=>D e a rfl,wo:=?_,gw:=?_,gn:=?_,lH:=b.lH,jn:=b.jn,lp:=b.lp,kn:=b.kn,l7:=?_};rw[M];exact(b.iP.c u b.ob).i b.c 23 (by rw[m6 d p b.ft];omega) _;exact(b.jR.a u λc f w=>b.wo c f w).a v λc f x=>b.wb (x▸f);rw[Qr _ _ b.gl,Uu];exact K.a v λc n=>D c n;intro m y o i g;have E:∀c,eB j c (Fr.bi o) 10->¬ag p.oa c->c≠e->eB (w1.setCell ⟨e,k+23,N⟩ (L a' (d.aA.length+1) c')) c (Fr.bi o) 10:=λc x O Q=>(x.a u O).a v Q;by_cases R:m<p.gs.length;have G:m<d.aA.length:=by have:=b.gl;omega
 rw[Ux R]at i;rw[Ux G]at g;have f:=b.gw y (Uo i);exact E y (b.l6 m y o i g) (λa=>f (Up (Up a))) λa=>f (Ur a);have G:¬m<d.aA.length:=by have:=b.gl;omega
 rw[Ut (by omega)]at i g;have U:m-p.gs.length=0:=by grind
 have V:m-d.aA.length=0:=by grind
 rw[U]at i;rw[V]at g;simp at i g;subst i g;exact E h C (λa=>r (Up (Up (Ur a)))) λa=>r (Ur a);intro c f w;obtain a|a:=s c w;exact b.wo c f a;have:=b.d c (Up (Ur f));omega;intro c n f;have z:c<j.heap.size/\¬ma e p c:=by obtain a|a:=UP.1 n;exact⟨b.d c (Up (Up (Up a))),b.gw c a⟩;simp at a;subst a;exact⟨C.c,λq=>r q.a⟩
 obtain a|a|a:=f;exact z.2 (Ur a);exact z.2 (Up (Ur a));obtain q|q:=s c a;exact z.2 (Up (Up q));omega;rw[Wb];refine⟨b.gn,by simp,?_⟩;intro a W q H d;simp at H;subst H d;exact r (Up (Up (Up W)));intro o g;obtain a|a:=UP.1 g;exact b.l7 o a;grind
def Fx(r t d e a p f)(s:dx f)(i)(n:bO i r t d e a p)(K:(a.aA.length:Int)<1099511627776):
 Cr 193 #[P (S ⟨d,e,N⟩),.agg (fv f)] i (.tuple #[]) λu=>∃v,bO u r t d e {a with aA:=a.aA++[f]} v/\fG i u d p v:=by
 have M:=n.iP.b;go_enter func193,ntmps193;go_wp2_with fail;refine(Ff f ((@af _ s) ()) _).mono ?_;rintro O l ⟨j,rfl,y,z,A⟩;have o:=((ae.a aa i).b _).c A;have h:=((@af _ n) ()).a o λ_ _ c=>c;have Q:=o.size;simp only[Uv]at y;have C:=h.i;go_wp2_with (at_builtin;refine wO _ rfl (.tmp 15) (.tmp 17) 105 rfl 56 (L N 0 0) 1 24 underlying105 F4 rfl p.oa a.aA.length p.oc rfl (oU p.gs a.aA) (h.l8.c _) ⟨l.heap.size,0,N⟩ 1 1 (by omega) rfl [oO j f] rfl (ke l [oO j f] 56 _ rfl) (by simp[oO,Value.oneCell']) (by omega) (by omega) ?_;intro q w D E x G;have m:ae (ag p.oa) l D:=((ae.a _ l).b _).c G;have R:=(m.f d (e+23) (by omega) h.ob).trans C;have U:=(m.h d (e+23) (by omega) h.ob).trans (h.f (e+23)));go_end0;refine⟨rfl, {p with oa:=q,oc:=w,gs:=p.gs++[j]},?_,?_⟩;exact((@af _ h) ()).o f j ((@af _ s) ()) ((@af _ z) ()) (λc=>by have:=((@af _ n) ()).d j c;omega) q w E (λb g=>(x b g).imp id λa=>by rw[a];simp) m;have H:∀b,ag q b->ag p.oa b\/i.heap.size<=b:=λb g=>(x b g).imp id (λa=>by rw[a];simp;omega);refine⟨λb g=>?_,λb g=>?_,?_⟩;obtain c|c|c:=g;exact Ur (Ur c);exact Ur (Up (Ur c));exact(H b c).imp (λk=>Up (Up k)) id;obtain k|k:=UP.1 g;grind;simp at k;subst k;exact Up (by omega);exact((o.d (ex':=ma d p) λ_ _ a=>a.elim).c (m.d λ_ _ a=>Up (Up a))).e (p:=⟨d,e+23,N⟩) (λ_=>Ur rfl) _
end Go.Proofs.YtlfijfodklhplaaGreat
