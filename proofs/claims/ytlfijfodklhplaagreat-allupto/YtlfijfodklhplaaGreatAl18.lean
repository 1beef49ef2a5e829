import Derived.Test.YtlfijfodklhplaaGreatAl11
import Derived.Test.YtlfijfodklhplaaGreatAl17
set_option maxRecDepth 100000
set_option maxHeartbeats 4000000
set_option linter.all false
open Go.RowKit Go.Proofs.Tryz
open Go.Value renaming int->I,slice->L,pointer->P,bool->B
open Go.IntKind renaming i64->J
open Option renaming some->S,none->N
open Bool renaming true->T,false->F
namespace Go.Proofs.YtlfijfodklhplaaGreat
def yz(a b)(c:b<256):(a*256+b)/256=a:=by omega
def yF(b a)(c:a<256):(b*256+a)%256=a:=by omega
def G1(e a b c d)(u:a<256)(f:b<256)(v:c<256)(g:d<256)(o)(p:ie [e,a,b,c,d] o):
 Fr.bi ⟨F,a*256+b,Fr.dq⟩=[e,a,b,c,d]:=by
 obtain⟨q,w,x,r,h,i,j,s⟩:=p;have t:q=3:=by simp at s;omega
 subst t;obtain⟨y,z,k,l,⟨m,_,_⟩|⟨_,n,_⟩⟩:=r;simp at m k l h i j;subst m k l h i;have n:Fr.bi ⟨F,a*256+b,Fr.dq⟩=[2,(a*256+b)/256,(a*256+b)%256,Fr.cI [2,(a*256+b)/256,(a*256+b)%256]/256,Fr.cI [2,(a*256+b)/256,(a*256+b)%256]%256]:=by simp[Fr.bi,Fr.jZ,Fr.gO]
 rw[n,(yz a b f),(yF a b f),<-j];rw[(yz c d g),(yF c d g)];omega
def G0(j d e f g a b c h i)(M:d<256)(k:e<256)(O:b<256)(l:c<256)(Q:h<256)(R:i<256)(w)(x:ie [j,d,e,f,g,a,b,c,h,i] w):
 bJ (f:Int) (g:Int) ((b:Int)*256+(c:Int)) (a==1)=T/\Fr.bi ⟨T,d*256+e,⟨f,g,b*256+c,a==1⟩⟩=[j,d,e,f,g,a,b,c,h,i]:=by
 obtain⟨y,U,V,z,m,n,A,C⟩:=x;have D:y=8:=by simp at C;omega
 subst D;obtain⟨W,X,o,p,⟨_,E,_⟩|⟨q,_,Y,Z,aa,ab,ac,r,s,t,u,v,ad,G,_⟩⟩:=z;omega;simp at q o p r s t u v m n A;subst q o p r s t u v m n;refine⟨G,?_⟩;have H:(a==1).toNat=a:=by
  have:a=0\/a=1:=by omega
  obtain rfl|rfl:=this<;>rfl
 have K:Fr.gO ⟨T,d*256+e,⟨f,g,b*256+c,a==1⟩⟩=[1,d,e,f,g,a,b,c]:=by simp only[Fr.gO,VR,(yz d e k),(yF d e k),(yz b c l),(yF b c l),H]
 have E:Fr.bi ⟨T,d*256+e,⟨f,g,b*256+c,a==1⟩⟩=[1,d,e,f,g,a,b,c]++[Fr.cI [1,d,e,f,g,a,b,c]/256,Fr.cI [1,d,e,f,g,a,b,c]%256]:=by simp only[Fr.bi,Fr.jZ,K]
 grind
def G2(a b)(c:ie a b):a.length=5\/a.length=10:=by obtain⟨e,f,g,d,h,i,j,k⟩:=c;have:=d.a;omega
def RK(k c d e)(a:k<1\/7<k)(b):
 Cr 125 #[.agg #[.int J k,.int J c,.int J d,B e]] b (B F) λf=>ae aa b f:=by
 have g:(k==1)=F:=Uy.2 (by omega);have h:(k==2)=F:=Uy.2 (by omega);have i:(k==3)=F:=Uy.2 (by omega);have j:(k==6)=F:=Uy.2 (by omega);obtain a|a:=a
 .go_enter func125,ntmps125;go_wp2;go_ret;exact⟨rfl,(ae.a _ _).b _⟩
 .have l:¬k<1:=by omega
  go_enter func125,ntmps125;go_wp2;go_ret;exact⟨rfl,(ae.a _ _).b _⟩
def pF(k a b c d):
 Cr 125 #[.agg #[.int J k,.int J a,.int J b,B c]] d (B (bJ k a b c)) λe=>ae aa d e:=by
 by_cases f:1<=k/\k<=7;by_cases g:k=2;subst g;exact RL a b c d;by_cases j:k<=4;exact RI k a b c (by omega) d;exact RJ k a b c (by omega) d;have h:bJ k a b c=F:=by simp only[bJ,Vh];exact λi=>f i.1
 rw[h];exact RK k a b c (by omega) d
def RC(a:Nat)(y:a<65536)(d):
 Calls prog 77 #[.agg (fc F (a:Int) 0 0 0 F)] d λb n=>
  ∃j k,b= .returned (.tuple #[L (some ⟨j,0,N⟩) 5 k,.int J 0])/\d.heap.size<=j/\5<=k/\gp n j (Fr.bi ⟨F,a,Fr.dq⟩) k/\ae aa d n:=by
 have ab:(a:Int)<65536:=by omega
 have ac:0<=(a:Int):=by omega
 have z:IntKind.u8.wrap ((a:Int)/256)=((a/256:Nat):Int):=by rw[Wf];omega
 have A:IntKind.u8.wrap ((a:Int)%256)=((a%256:Nat):Int):=by rw[Wf];omega
 have o:(a:Int)/256=((a/256:Nat):Int):=by omega
 have p:(a:Int)%256=((a%256:Nat):Int):=by omega
 have ad:a/256<256:=by omega
 have af:a%256<256:=by omega
 have l:∀e∈[2,a/256,a%256],e<256:=by intro e C;simp at C;omega
 have D:Hid (∀e∈[2,a/256,a%256],e<256):=l;have f:=Fr.n8 [2,a/256,a%256] l;have E:Hid (Fr.bi ⟨F,a,Fr.dq⟩=[2,a/256,a%256]++[Fr.cI [2,a/256,a%256]/256,Fr.cI [2,a/256,a%256]%256]):=by show Fr.bi ⟨F,a,Fr.dq⟩=_;simp[Fr.bi,Fr.jZ,Fr.gO]
 have G:Hid ((a:Int)/256=((a/256:Nat):Int)):=o;have H:Hid ((a:Int)%256=((a%256:Nat):Int)):=p;have r(_:=()):Fr.cI [2,a/256,a%256]<65536:=f;clear y l z A o p f;generalize a/256=a1 at *;generalize a%256=a2 at *;generalize (a:Int)=S at *;go_enter func77,ntmps77;go_wp2_with fail;refine(pF 0 0 0 F _).mono ?_;rintro b c ⟨rfl,m⟩;have ag:d.heap.size<c.heap.size:=by have:=m.size;simp at this;omega
 have s:=λt=>m.f d.heap.size t (by simp) λb=>b;simp only[Vf]at s;have K:bJ 0 0 0 F=F:=rfl;go_wp2_with fail;rw[G.out,H.out];have u:gp (c.alloc (.cells #[I .u8 2,I .u8 (a1:Int),I .u8 (a2:Int)] 5)) c.heap.size [2,a1,a2] 3:=⟨[],aq.e c _ _,rfl⟩
 have f:=r;have g:=B4 c.heap.size 0 3 [2,a1,a2] _ (lI u) (by simp) D.out;clear r;generalize Fr.cI [2,a1,a2]=q at *;refine Uq g ?_;rintro b ah ⟨rfl,rfl⟩;have ai:(q:Int)<65536:=by omega
 have aj:0<=(q:Int):=by omega
 have M:Hid ((q:Int)/256=((q/256:Nat):Int)):=by show (q:Int)/256=_;omega
 have O:Hid ((q:Int)%256=((q%256:Nat):Int)):=by show (q:Int)%256=_;omega
 clear g f s K;have v:∀(h:World)(i:Nat),i=h.heap.size->∀w x,([q/256,q%256].map bv)[w]?=some x->(h.alloc (.cells #[I .u8 ((q:Int)/256),I .u8 ((q:Int)%256)] 5)).cell? ((⟨i,0,N⟩:Addr).add w)=some x:=λh i g=>by rw[M.out,O.out];exact ke h ([q/256,q%256].map bv) 5 i g
 have R:Hid _:=v;clear v;generalize (q:Int)=Q at *;go_wp2_with (at_builtin;refine pP _ rfl (.tmp 97) (.tmp 104) 56 rfl 5 (I .u8 0) 1 1 underlying56 ng rfl c.heap.size 3 3 rfl ([2,a1,a2].map bv) rfl (u.d _) ⟨c.heap.size+1,0,N⟩ 2 2 rfl ([q/256,q%256].map bv) rfl (R.out _ _ (Uv _ _).symm) (rZ _) (by omega) (by omega) ?_;intro U V ak W X Y Z);go_ret2;refine⟨U,V,rfl,?_,X,?_,?_⟩;obtain⟨rfl,_⟩|⟨rfl,_⟩:=Y;omega;simp;omega;rw[E.out];show dL _ _ _ _ (([2,a1,a2]++[q/256,q%256]).map bv) _;rw[Vm];exact W;exact((((((ae.a aa d).b _).c m).b _).b _).g Z λt al b=>by simp only[ap]at b;omega)
def RE(b:Nat)(O:b<65536)(k c a:Nat)(R:k<256)(U:c<256)(g:a<65536)(i:bJ (k:Int) (c:Int) (a:Int) T=T)(f):
 Calls prog 77 #[.agg (fc T (b:Int) (k:Int) (c:Int) (a:Int) T)] f λd x=>
  ∃p r,d= .returned (.tuple #[L (some ⟨p,0,none⟩) 10 r,.int J 0])/\f.heap.size<=p/\10<=r/\gp x p (Fr.bi ⟨T,b,⟨k,c,a,T⟩⟩) r/\ae aa f x:=by
 have au:1<=(k:Int):=by simp only[bJ,UV]at i;exact i.1.1
 have av:(b:Int)<65536:=by omega
 have aw:0<=(b:Int):=by omega
 have ax:(a:Int)<65536:=by omega
 have ay:0<=(a:Int):=by omega
 have az:((k:Int)==0)=F:=by rw[Uy];omega
 have aA:(k:Int)<256:=by omega
 have aB:(c:Int)<256:=by omega
 have aC:0<=(c:Int):=by omega
 have V:Hid ((b:Int)/256=((b/256:Nat):Int)):=by show (b:Int)/256=_;omega
 have W:Hid ((b:Int)%256=((b%256:Nat):Int)):=by show (b:Int)%256=_;omega
 have X:Hid ((a:Int)/256=((a/256:Nat):Int)):=by show (a:Int)/256=_;omega
 have Y:Hid ((a:Int)%256=((a%256:Nat):Int)):=by show (a:Int)%256=_;omega
 have s:∀y∈[1,b/256,b%256,k,c,1,a/256,a%256],y<256:=by intro y Z;simp at Z;omega
 have z:=@af _ (Fr.n8 _ s);have ab(_:=()):Fr.bi ⟨T,b,⟨k,c,a,T⟩⟩=[1,b/256,b%256]++[k,c,1,a/256,a%256]++[Fr.cI [1,b/256,b%256,k,c,1,a/256,a%256]/256,Fr.cI [1,b/256,b%256,k,c,1,a/256,a%256]%256]:=by simp[Fr.bi,Fr.jZ,Fr.gO]
 clear O R U g;generalize b/256=a1 at *;generalize b%256=a2 at *;generalize a/256=n1 at *;generalize a%256=n2 at *;have A:=@af _ s;clear s;have C:∀(e:World)(m:Nat),m=e.heap.size->∀j l,([k,c,1,n1,n2].map bv)[j]?=some l->(e.alloc (.cells #[I .u8 (k:Int),I .u8 (c:Int),I .u8 1,I .u8 ((a:Int)/256),I .u8 ((a:Int)%256)] 5)).cell? ((⟨m,0,none⟩:Addr).add j)=some l:=λe m i=>by rw[X.out,Y.out];exact ke e ([k,c,1,n1,n2].map bv) 5 m i
 have n:Hid _:=C;clear C;generalize (b:Int)=S at *;generalize (a:Int)=N at *;go_enter func77,ntmps77;go_wp2_with fail;refine(pF (k:Int) (c:Int) N T _).mono ?_;rintro d h ⟨rfl,t⟩;have aD:f.heap.size<h.heap.size:=by have:=t.size;simp at this;omega
 have D:=λu=>t.f f.heap.size u (by simp) λd=>d;simp only[Vf]at D;have E:gp (h.alloc (.cells #[I .u8 1,I .u8 (a1:Int),I .u8 (a2:Int)] 5)) h.heap.size [1,a1,a2] 3:=⟨[],aq.e h _ _,rfl⟩
 rw[<-V.out,<-W.out]at E;go_wp2_with (at_builtin;refine pP _ rfl (.tmp 73) (.tmp 93) 56 rfl 5 (I .u8 0) 1 1 underlying56 ng rfl h.heap.size 3 3 rfl ([1,a1,a2].map bv) rfl (E.d _) ⟨h.heap.size+1,0,none⟩ 5 5 rfl ([k,c,1,n1,n2].map bv) rfl (n.out _ _ (Uv _ _).symm) (rZ _) (by omega) (by omega) ?_;intro o v G H aE ac K);have aF(_:=()):[1,a1,a2]++[k,c,1,n1,n2]=[1,a1,a2,k,c,1,n1,n2]:=rfl;have w:gp G o [1,a1,a2,k,c,1,n1,n2] v:=H;have ad:=z;have g:=B4 o 0 v [1,a1,a2,k,c,1,n1,n2] _ (lI w) (by simp) A;clear z n H D i A;generalize Fr.cI [1,a1,a2,k,c,1,n1,n2]=q at *;refine Uq g ?_;rintro d aG ⟨rfl,rfl⟩;have aH:(q:Int)<65536:=by omega
 have aI:0<=(q:Int):=by omega
 have ag:Hid ((q:Int)/256=((q/256:Nat):Int)):=by show (q:Int)/256=_;omega
 have ah:Hid ((q:Int)%256=((q%256:Nat):Int)):=by show (q:Int)%256=_;omega
 clear g ad;have M:∀(e:World)(a:Nat),a=e.heap.size->∀j l,([q/256,q%256].map bv)[j]?=some l->(e.alloc (.cells #[I .u8 ((q:Int)/256),I .u8 ((q:Int)%256)] 5)).cell? ((⟨a,0,none⟩:Addr).add j)=some l:=λe a g=>by rw[ag.out,ah.out];exact ke e ([q/256,q%256].map bv) 5 a g
 have n:Hid _:=M;clear M;generalize (q:Int)=Q at *;have aJ:=w.b;go_wp2_with (at_builtin;refine pP _ rfl (.tmp 97) (.tmp 104) 56 rfl 5 (I .u8 0) 1 1 underlying56 ng rfl o 8 v rfl ([1,a1,a2,k,c,1,n1,n2].map bv) rfl (w.d _) ⟨G.heap.size,0,none⟩ 2 2 rfl ([q/256,q%256].map bv) rfl (n.out _ _ rfl) (rZ _) (by omega) (by omega) ?_;intro ai aj aK ak al am an);go_ret2;have ao:=K.size;simp only[Uv]at ao;have aL:f.heap.size<=o:=by obtain⟨rfl,_⟩|⟨rfl,_⟩:=ac;omega;simp;omega
 refine⟨ai,aj,rfl,?_,al,?_,?_⟩;obtain⟨rfl,_⟩|⟨rfl,_⟩:=am;omega;simp;omega;rw[ab];show dL _ _ _ _ (([1,a1,a2,k,c,1,n1,n2]++[q/256,q%256]).map bv) _;rw[Vm];exact ak;exact(((((((ae.a aa f).b _).c t).b _).b _).g K λu ar d=>by simp only[ap]at d;omega).b _).g an λu ar d=>by simp only[ap]at d;omega
def RD(b:Nat)(O:b<65536)(k c a:Nat)(R:k<256)(U:c<256)(g:a<65536)(i:bJ (k:Int) (c:Int) (a:Int) F=T)(f):
 Calls prog 77 #[.agg (fc T (b:Int) (k:Int) (c:Int) (a:Int) F)] f λd x=>
  ∃p r,d= .returned (.tuple #[L (some ⟨p,0,none⟩) 10 r,.int J 0])/\f.heap.size<=p/\10<=r/\gp x p (Fr.bi ⟨T,b,⟨k,c,a,F⟩⟩) r/\ae aa f x:=by
 have au:1<=(k:Int):=by simp only[bJ,UV]at i;exact i.1.1
 have av:(b:Int)<65536:=by omega
 have aw:0<=(b:Int):=by omega
 have ax:(a:Int)<65536:=by omega
 have ay:0<=(a:Int):=by omega
 have az:((k:Int)==0)=F:=by rw[Uy];omega
 have aA:(k:Int)<256:=by omega
 have aB:(c:Int)<256:=by omega
 have aC:0<=(c:Int):=by omega
 have V:Hid ((b:Int)/256=((b/256:Nat):Int)):=by show (b:Int)/256=_;omega
 have W:Hid ((b:Int)%256=((b%256:Nat):Int)):=by show (b:Int)%256=_;omega
 have X:Hid ((a:Int)/256=((a/256:Nat):Int)):=by show (a:Int)/256=_;omega
 have Y:Hid ((a:Int)%256=((a%256:Nat):Int)):=by show (a:Int)%256=_;omega
 have s:∀y∈[1,b/256,b%256,k,c,0,a/256,a%256],y<256:=by intro y Z;simp at Z;omega
 have z:=@af _ (Fr.n8 _ s);have ab(_:=()):Fr.bi ⟨T,b,⟨k,c,a,F⟩⟩=[1,b/256,b%256]++[k,c,0,a/256,a%256]++[Fr.cI [1,b/256,b%256,k,c,0,a/256,a%256]/256,Fr.cI [1,b/256,b%256,k,c,0,a/256,a%256]%256]:=by simp[Fr.bi,Fr.jZ,Fr.gO]
 clear O R U g;generalize b/256=a1 at *;generalize b%256=a2 at *;generalize a/256=n1 at *;generalize a%256=n2 at *;have A:=@af _ s;clear s;have C:∀(e:World)(m:Nat),m=e.heap.size->∀j l,([k,c,0,n1,n2].map bv)[j]?=some l->(e.alloc (.cells #[I .u8 (k:Int),I .u8 (c:Int),I .u8 0,I .u8 ((a:Int)/256),I .u8 ((a:Int)%256)] 5)).cell? ((⟨m,0,none⟩:Addr).add j)=some l:=λe m i=>by rw[X.out,Y.out];exact ke e ([k,c,0,n1,n2].map bv) 5 m i
 have n:Hid _:=C;clear C;generalize (b:Int)=S at *;generalize (a:Int)=N at *;go_enter func77,ntmps77;go_wp2_with fail;refine(pF (k:Int) (c:Int) N F _).mono ?_;rintro d h ⟨rfl,t⟩;have aD:f.heap.size<h.heap.size:=by have:=t.size;simp at this;omega
 have D:=λu=>t.f f.heap.size u (by simp) λd=>d;simp only[Vf]at D;have E:gp (h.alloc (.cells #[I .u8 1,I .u8 (a1:Int),I .u8 (a2:Int)] 5)) h.heap.size [1,a1,a2] 3:=⟨[],aq.e h _ _,rfl⟩
 rw[<-V.out,<-W.out]at E;go_wp2_with (at_builtin;refine pP _ rfl (.tmp 73) (.tmp 93) 56 rfl 5 (I .u8 0) 1 1 underlying56 ng rfl h.heap.size 3 3 rfl ([1,a1,a2].map bv) rfl (E.d _) ⟨h.heap.size+1,0,none⟩ 5 5 rfl ([k,c,0,n1,n2].map bv) rfl (n.out _ _ (Uv _ _).symm) (rZ _) (by omega) (by omega) ?_;intro o v G H aE ac K);have aF(_:=()):[1,a1,a2]++[k,c,0,n1,n2]=[1,a1,a2,k,c,0,n1,n2]:=rfl;have w:gp G o [1,a1,a2,k,c,0,n1,n2] v:=H;have ad:=z;have g:=B4 o 0 v [1,a1,a2,k,c,0,n1,n2] _ (lI w) (by simp) A;clear z n H D i A;generalize Fr.cI [1,a1,a2,k,c,0,n1,n2]=q at *;refine Uq g ?_;rintro d aG ⟨rfl,rfl⟩;have aH:(q:Int)<65536:=by omega
 have aI:0<=(q:Int):=by omega
 have ag:Hid ((q:Int)/256=((q/256:Nat):Int)):=by show (q:Int)/256=_;omega
 have ah:Hid ((q:Int)%256=((q%256:Nat):Int)):=by show (q:Int)%256=_;omega
 clear g ad;have M:∀(e:World)(a:Nat),a=e.heap.size->∀j l,([q/256,q%256].map bv)[j]?=some l->(e.alloc (.cells #[I .u8 ((q:Int)/256),I .u8 ((q:Int)%256)] 5)).cell? ((⟨a,0,none⟩:Addr).add j)=some l:=λe a g=>by rw[ag.out,ah.out];exact ke e ([q/256,q%256].map bv) 5 a g
 have n:Hid _:=M;clear M;generalize (q:Int)=Q at *;have aJ:=w.b;go_wp2_with (at_builtin;refine pP _ rfl (.tmp 97) (.tmp 104) 56 rfl 5 (I .u8 0) 1 1 underlying56 ng rfl o 8 v rfl ([1,a1,a2,k,c,0,n1,n2].map bv) rfl (w.d _) ⟨G.heap.size,0,none⟩ 2 2 rfl ([q/256,q%256].map bv) rfl (n.out _ _ rfl) (rZ _) (by omega) (by omega) ?_;intro ai aj aK ak al am an);go_ret2;have ao:=K.size;simp only[Uv]at ao;have aL:f.heap.size<=o:=by obtain⟨rfl,_⟩|⟨rfl,_⟩:=ac;omega;simp;omega
 refine⟨ai,aj,rfl,?_,al,?_,?_⟩;obtain⟨rfl,_⟩|⟨rfl,_⟩:=am;omega;simp;omega;rw[ab];show dL _ _ _ _ (([1,a1,a2,k,c,0,n1,n2]++[q/256,q%256]).map bv) _;rw[Vm];exact ak;exact(((((((ae.a aa f).b _).c t).b _).b _).g K λu ar d=>by simp only[ap]at d;omega).b _).g an λu ar d=>by simp only[ap]at d;omega
def tE(a)(q:dx a)(b):
 Calls prog 77 #[.agg (fv a)] b λr o=>
  ∃f g,r= .returned (.tuple #[L (S ⟨f,0,N⟩) (ee a) g,.int J 0])/\b.heap.size<=f/\ee a<=g/\gp o f (Fr.bi a) g/\ae aa b o:=by
 obtain⟨s,h,i,j,k,p⟩:=a;obtain⟨d,⟨e,c,l,m,n⟩|⟨e,c⟩⟩:=q;simp only at d e c l m n;subst e;cases p;exact RD h d i j k c l m n b;exact RE h d i j k c l m n b;simp only at d e c;obtain⟨rfl,rfl,rfl,rfl⟩:i=0/\j=0/\k=0/\p=F:=by simpa [Fr.dq]using c
 subst e;exact RC h d b
def M6(d a k e f g)(b:a<0\/65535<a)(c):
 Cr 124 #[.agg (fc d a k e f g)] c (.tuple #[L N 0 0,.int J 9]) λh=>ae aa c h:=by
 obtain b|b:=b
 .go_enter func124,ntmps124;go_wp2;go_ret2;exact⟨rfl,(ae.a _ _).b _⟩
 .have i:¬a<0:=by omega
  go_enter func124,ntmps124;go_wp2;go_ret2;exact⟨rfl,(ae.a _ _).b _⟩
def M8(a k b c d)(h:0<=a)(i:a<=65535)(j:bJ k b c d=F)(e):
 Cr 124 #[.agg (fc T a k b c d)] e (.tuple #[L N 0 0,.int J 10]) λf=>ae aa e f:=by
 go_enter func124,ntmps124;go_wp2_with fail;refine(Fj a k b c d _).mono ?_;rintro l m ⟨rfl,g⟩;go_wp2;go_ret2;exact⟨rfl,((ae.a _ _).b _).c g⟩
def M7(a k b c d)(h:0<=a)(i:a<=65535)(j:jB k b c d=F)(e):
 Cr 124 #[.agg (fc F a k b c d)] e (.tuple #[L N 0 0,.int J 10]) λf=>ae aa e f:=by
 go_enter func124,ntmps124;go_wp2_with fail;refine(Fi a k b c d _).mono ?_;rintro l m ⟨rfl,g⟩;go_wp2;go_ret2;exact⟨rfl,((ae.a _ _).b _).c g⟩
def iZ(a:Bool)(b k c d:Int)(e:Bool):Int:=if b<0\/65535<b then 9 else if (a=T/\bJ k c d e=T)\/(a=F/\jB k c d e=T)then 0 else 10
def Fe{b a k c d e}(f:a<0\/65535<a):iZ b a k c d e=9:=by unfold iZ;rw[UG f]
def Bb{a b k c d e}(f:¬(b<0\/65535<b))(g:¬((a=T/\bJ k c d e=T)\/(a=F/\jB k c d e=T))):iZ a b k c d e=10:=by unfold iZ;rw[Us f,Us g]
def M4(e a k b c d)(m:iZ e a k b c d≠0)(f):
 Cr 124 #[.agg (fc e a k b c d)] f (.tuple #[L N 0 0,.int J (iZ e a k b c d)]) λn=>ae aa f n:=by
 by_cases g:a<0\/65535<a;rw[Fe g];exact M6 e a k b c d g f;by_cases h:(e=T/\bJ k b c d=T)\/(e=F/\jB k b c d=T)
 exact absurd (by unfold iZ;rw[Us g,UG h]) m;rw[Bb g h];have j:0<=a:=by omega
 have l:a<=65535:=by omega
 cases e;exact M7 a k b c d j l (by cases i:jB k b c d;rfl;exact absurd (Up ⟨rfl,i⟩) h) f;exact M8 a k b c d j l (by cases i:bJ k b c d;rfl;exact absurd (Ur ⟨rfl,i⟩) h) f
def KP(a b k c d e)(g:iZ a b k c d e≠0)(f):
 Cr 76 #[.agg (fc a b k c d e)] f (.tuple #[L N 0 0,.int J (iZ a b k c d e)]) λh=>ae aa f h:=by
 go_enter func76,ntmps76;go_wp2_with fail;refine(M4 a b k c d e g _).mono ?_;rintro j l ⟨rfl,i⟩;go_wp2;go_ret2;exact⟨rfl,((ae.a _ _).b _).c i⟩
def Bf{f a k b c d}(g:iZ f a k b c d=0):∃i,dx i/\fv i=fc f a k b c d:=by
 unfold iZ at g;by_cases j:a<0\/65535<a;rw[UG j]at g;omega;rw[Us j]at g;by_cases l:(f=T/\bJ k b c d=T)\/(f=F/\jB k b c d=T)
 obtain⟨h,rfl⟩:=Wx (show 0<=a by omega);obtain⟨rfl,e⟩|⟨rfl,e⟩:=l;have m:=e;simp only[bJ,UV]at m;obtain⟨⟨q,r⟩,s,t,u,v,w⟩:=m;have x:bL k<=9:=by unfold bL;split<;>omega
 have y:0<=bm k:=by unfold bm;split<;>omega
 have z:bM k<=1000:=by unfold bM;split<;>omega
 obtain⟨n,rfl⟩:=Wx (show 0<=k by omega);obtain⟨o,rfl⟩:=Wx (show 0<=b by omega);obtain⟨p,rfl⟩:=Wx (show 0<=c by omega);exact⟨⟨T,h,⟨n,o,p,d⟩⟩,⟨by show h<65536;omega,Ur ⟨rfl,by show n<256;omega,by show o<256;omega,by show p<65536;omega,e⟩⟩,rfl⟩;simp only[jB,XD,V9]at e;obtain⟨rfl,rfl,rfl,rfl⟩:=e;exact⟨⟨F,h,Fr.dq⟩,⟨by show h<65536;omega,Up ⟨rfl,rfl⟩⟩,rfl⟩;rw[Us l]at g;omega
def RF(d a k e f g)(b:a<0\/65535<a)(c):
 Cr 77 #[.agg (fc d a k e f g)] c (.tuple #[L N 0 0,.int J 9]) λh=>ae aa c h:=by
 obtain b|b:=b
 .go_enter func77,ntmps77;go_wp2;go_ret2;exact⟨rfl,(ae.a _ _).b _⟩
 .have i:¬a<0:=by omega
  have j:65536<=a:=by omega
  clear b;go_enter func77,ntmps77;go_wp2;go_ret2;exact⟨rfl,(ae.a _ _).b _⟩
def Gj(k b a c):((k==0)=F/\Hid (jB k b a c=F))\/(k=0/\(b==0)=F/\Hid (jB 0 b a c=F))\/(k=0/\b=0/\(a==0)=F/\Hid (jB 0 0 a c=F))\/(k=0/\b=0/\a=0):=by by_cases d:k=0;subst d;by_cases e:b=0;subst e;by_cases f:a=0;exact Up (Up (Up ⟨rfl,rfl,f⟩));exact Up (Up (Ur ⟨rfl,rfl,by simpa using f,by show jB 0 0 a c=F;simp[jB,f]⟩));exact Up (Ur ⟨rfl,by simpa using e,by show jB 0 b a c=F;simp[jB,e]⟩);exact Ur ⟨by simpa using d,by show jB k b a c=F;simp[jB,d]⟩
def RH(c k d e a)(n:0<=c)(o:c<65536)(p:bJ k d e a=F)(b):
 Cr 77 #[.agg (fc T c k d e a)] b (.tuple #[L N 0 0,.int J 10]) λi=>ae aa b i:=by
 obtain⟨g,_⟩|⟨rfl,g,_⟩|⟨rfl,rfl,g,_⟩|⟨rfl,rfl,rfl⟩:=Gj k d e a;all_goals
  go_enter func77,ntmps77;go_wp2_with fail;refine(pF _ _ _ a _).mono ?_;rintro h j ⟨rfl,f⟩;have q:b.heap.size<j.heap.size:=by have:=f.size;simp at this;omega
  have l:=λm=>f.f b.heap.size m (by simp) λh=>h;simp only[Vf]at l;go_wp2;go_ret2;exact⟨rfl,((ae.a _ _).b _).c f⟩
def RG(i k j l d)(q:0<=i)(r:i<65536)(h:jB k j l d=F)(c):
 Cr 77 #[.agg (fc F i k j l d)] c (.tuple #[L N 0 0,.int J 10]) λo=>ae aa c o:=by
 obtain⟨n,_⟩|⟨rfl,n,_⟩|⟨rfl,rfl,n,_⟩|⟨rfl,rfl,rfl⟩:=Gj k j l d
 .clear h;go_enter func77,ntmps77;go_wp2_with fail;refine(pF _ _ _ d _).mono ?_;rintro b e ⟨rfl,a⟩;have m:c.heap.size<e.heap.size:=by have:=a.size;simp at this;omega
  have f:=λg=>a.f c.heap.size g (by simp) λb=>b;simp only[Vf]at f;go_wp2;go_ret2;exact⟨rfl,((ae.a _ _).b _).c a⟩
 .clear h;go_enter func77,ntmps77;go_wp2_with fail;refine(pF _ _ _ d _).mono ?_;rintro b e ⟨rfl,a⟩;have m:c.heap.size<e.heap.size:=by have:=a.size;simp at this;omega
  have f:=λg=>a.f c.heap.size g (by simp) λb=>b;simp only[Vf]at f;go_wp2;go_ret2;exact⟨rfl,((ae.a _ _).b _).c a⟩
 .clear h;go_enter func77,ntmps77;go_wp2_with fail;refine(pF _ _ _ d _).mono ?_;rintro b e ⟨rfl,a⟩;have m:c.heap.size<e.heap.size:=by have:=a.size;simp at this;omega
  have f:=λg=>a.f c.heap.size g (by simp) λb=>b;simp only[Vf]at f;go_wp2;go_ret2;exact⟨rfl,((ae.a _ _).b _).c a⟩
 .have p:d=T:=by cases d;simp[jB]at h;rfl
  subst p;clear h;go_enter func77,ntmps77;go_wp2_with fail;refine(pF _ _ _ T _).mono ?_;rintro b e ⟨rfl,a⟩;have m:c.heap.size<e.heap.size:=by have:=a.size;simp at this;omega
  have f:=λg=>a.f c.heap.size g (by simp) λb=>b;simp only[Vf]at f;go_wp2;go_ret2;exact⟨rfl,((ae.a _ _).b _).c a⟩
def B6(e a k b c d)(m:iZ e a k b c d≠0)(f):
 Cr 77 #[.agg (fc e a k b c d)] f (.tuple #[L N 0 0,.int J (iZ e a k b c d)]) λn=>ae aa f n:=by
 by_cases g:a<0\/65535<a;rw[Fe g];exact RF e a k b c d g f;by_cases h:(e=T/\bJ k b c d=T)\/(e=F/\jB k b c d=T)
 exact absurd (by unfold iZ;rw[Us g,UG h]) m;rw[Bb g h];have j:0<=a:=by omega
 have l:a<65536:=by omega
 cases e;exact RG a k b c d j l (by cases i:jB k b c d;rfl;exact absurd (Up ⟨rfl,i⟩) h) f;exact RH a k b c d j l (by cases i:bJ k b c d;rfl;exact absurd (Ur ⟨rfl,i⟩) h) f
def Bv(a:List Nat)(g:a.length=5):∃b c d e f,a=[b,c,d,e,f]:=by
 match a,g with
 |[b,c,d,e,f],_=>exact⟨b,c,d,e,f,rfl⟩
def Bu(a:List Nat)(l:a.length=10):∃b c d e f g h i j k,a=[b,c,d,e,f,g,h,i,j,k]:=by
 match a,l with
 |[b,c,d,e,f,g,h,i,j,k],_=>exact⟨b,c,d,e,f,g,h,i,j,k,rfl⟩
def Bg(e f c d g a b:Nat)(l:e<256)(m:f<256)(h:c<256)(i:d<256)(n:a<256)(o:b<256)
 (j:bJ (c:Int) (d:Int) ((a:Int)*256+(b:Int)) (g==1)=T):dx ⟨T,e*256+f,⟨c,d,a*256+b,g==1⟩⟩:=by
 refine⟨by show e*256+f<65536;omega,Ur ⟨rfl,h,i,by show a*256+b<65536;omega,?_⟩⟩;have k:((a*256+b:Nat):Int)=(a:Int)*256+(b:Int):=by omega
 show bJ (c:Int) (d:Int) ((a*256+b:Nat):Int) (g==1)=T;rw[k];exact j
def BZ{d e f}(q:ie d e)(k:ie d f):e=f:=by
 obtain⟨r,G,H,s,_,_,_,K⟩:=q;obtain⟨t,M,O,g,_,_,_,Q⟩:=k;have u:t=r:=by omega
 subst u;obtain⟨R,U,h,i,⟨v,w,rfl⟩|⟨v,w,V,W,X,Y,Z,x,y,z,A,C,aa,ab,rfl⟩⟩:=s;obtain⟨D,E,a,b,⟨c,_,rfl⟩|⟨c,j,_⟩⟩:=g;rw[h]at a;rw[i]at b;cases a;cases b;rfl;omega;obtain⟨D,E,a,b,⟨c,j,_⟩|⟨c,j,ac,ad,ae,af,ag,l,m,n,o,p,ah,ai,rfl⟩⟩:=g;omega;rw[h]at a;rw[i]at b;rw[x]at l;rw[y]at m;rw[z]at n;rw[A]at o;rw[C]at p;cases a;cases b;cases l;cases m;cases n;cases o;cases p;rfl
def SC(a b):mR ⟨F,a*256+b,Fr.dq⟩=⟨F,(a:Int)*256+(b:Int),0,0,0,F⟩:=by simp[mR,Fr.dq]
def SD(a b c d e f g):mR ⟨T,a*256+b,⟨c,d,f*256+g,e==1⟩⟩=⟨T,(a:Int)*256+(b:Int),(c:Int),(d:Int),(f:Int)*256+(g:Int),e==1⟩:=by simp[mR]
def Pl.a:Pl:=⟨N,0,N,0,[]⟩
abbrev nj:Array Value:= #[I J 0,L N 0 0,I J 0,I J 0,I J 0,I J 0,B F,B F,I J 0,I J 0,I J 0,B F,B F,I J 0,I J 0,I J 0,B F,B F,I J 0,I J 0,I J 0,B F,B F,L N 0 0]
def A6:En.e.cells Pl.a=nj.toList:=rfl
def PN(b):
 Cr 41 #[] b (P (S ⟨b.heap.size,0,N⟩)) λe=>bO e nj 147 b.heap.size 0 En.e Pl.a/\ae aa b e:=by
 go_enter func41,ntmps41;go_wp2;go_ret;refine⟨rfl,?_,(ae.a aa b).b _⟩;refine {iP:=?_,lF:=by simp,ft:=rfl,jR:=RV.d _ _ _,l8:=RV.d _ _ _,gl:=rfl,l6:=λc k g h=>by simp[Pl.a]at h,wb:=b8 _,ob:=b8 _,wo:=λf d=>(b8 f d).elim,gw:=λf d=>by simp[Pl.a]at d,gn:=Wz,lH:=λi a=>by simp[En.e]at a,jn:=by simp[En.e],lp:=by simp[En.e],kn:=?_,l7:=λg j=>by simp[En.e]at j};rw[Q9 _ _ (by rw[A6];rfl),A6];exact aq.e b nj 147
 .intro c i a;match c,a with
  |0,a=>simp[En.e]at a
  |1,a=>simp[En.e]at a
  |2,a=>simp[En.e]at a
  |3,a=>simp[En.e]at a
  |c+4,a=>simp[En.e]at a
def Tz(e t a b c f d)(g:bO d e t a b c f)(j:(c.aA.length:Int)<1099511627000):
 Cr 87 #[P (S ⟨a,b,N⟩)] d (.tuple #[]) λh=>∃i,bO h e t a b c.o i/\fG d h a f i:=by
 have k:=@af _ g;clear g;go_enter func87,ntmps87;go_wp2_with fail;refine(F3 e t a b c f d k j).mono ?_;rintro o p ⟨rfl,l,m,n⟩;go_wp2;go_end0;exact⟨rfl,l,m,n⟩
def Qq(f t a c d b e)(g:bO e f t a c d b):
 Cr 136 #[P (S ⟨a,c,N⟩)] e (L b.oa d.aA.length b.oc) λh=>bO h f t a c d.f {b with oa:=N,oc:=0,gs:=[]}/\ae (ap a) e h:=by
 have i:=@af _ g;clear g;go_enter func136,ntmps136;go_wp2_with fail;refine(FZ f t a c d b e i).mono ?_;rintro l m ⟨rfl,j,k⟩;go_wp2;go_ret;exact⟨rfl,j,k⟩
def N6(f g c d e a b)(h:qf b c d e a)(i:∀j,¬ie a j):
 Cr 131 #[P (S ⟨f,g,N⟩),L (S ⟨c,d,N⟩) a.length e] b (L N 0 0) λk=>ae aa b k:=by
 have l:=@af _ (FY f g c d e a b h i);clear h i;go_enter func131,ntmps131;go_wp2_with fail;refine l.mono ?_;rintro n o ⟨rfl,m⟩;go_wp2;go_ret;exact⟨rfl,m⟩
def NX(g t a c d h i j k e f b)(l:bO b g t a c d h)(m:qf b i j k f)(n:ie f (mR ⟨F,e,Fr.dq⟩))(o:(e:Int)<65536)(p:(d.aA.length:Int)<1099511627000):
 Cr 131 #[P (S ⟨a,c,N⟩),L (S ⟨i,j,N⟩) f.length k] b (L N 0 0) λq=>∃r,bO q g t a c (d.h e) r/\fG b q a h r:=by
 have s:=@af _ (FW g t a c d h i j k e f b l m n o p);clear l m n o p;go_enter func131,ntmps131;go_wp2_with fail;refine s.mono ?_;rintro v w ⟨rfl,u⟩;go_wp2;go_ret;exact⟨rfl,u⟩
def NZ(h t a e c i j k l d f g b)(p:bO b h t a e c i)(q:qf b j k l g)(r:ie g (mR ⟨T,d,f⟩))(s:(d:Int)<65536)(u:(c.aA.length:Int)<1099511627000):
 Calls prog 131 #[P (S ⟨a,e,N⟩),L (S ⟨j,k,N⟩) g.length l] b λv m=>∃n o,v= .returned n/\sZ b m a o n (c.q d f)/\bO m h t a e (c.i d f) o/\fG b m a i o:=by
 have w:=@af _ (FX h t a e c i j k l d f g b p q r s u);clear p q r s u;go_enter func131,ntmps131;go_wp2_with fail;refine w.mono ?_;rintro v z ⟨n,x,rfl,y⟩;go_wp2;go_ret;exact⟨_,x,rfl,y⟩
def Sq(e f k a b c)(g:bJ k a b c=F)(d):
 Cr 84 #[P (S ⟨e,f,N⟩),.agg #[.int J k,.int J a,.int J b,B c]] d (.int J 10) λh=>ae aa d h:=by
 go_enter func84,ntmps84;go_wp2_with fail;go_region_with (go_at_call 111;refine(F1 e f k a b c g _).mono ?_;rintro j l ⟨rfl,i⟩);all_goals
  go_wp2;go_ret;exact⟨rfl,(((ae.a aa d).b _).drew).c i⟩
def So(g t c d b h e)(i:dC e)(a)(j:bO a g t c d b h)(k:b.aJ+b.aI.length=65536):
 Cr 84 #[P (S ⟨c,d,N⟩),mv e] a (.int J 1) λl=>ae aa a l:=by
 have m(_:=()):∀f,ae aa a f->_:=λf n=>F0 g t c d b h e i f (j.a n λ_ _ o=>o) k;clear i j k;go_enter func84,ntmps84;go_wp2_with fail;go_region_with (go_at_call 111;refine(m () _ (((ae.a aa a).b _).drew)).mono ?_;rintro q r ⟨rfl,p⟩);all_goals
  go_wp2;go_ret;exact⟨rfl,(((ae.a aa a).b _).drew).c p⟩
def Sr(g t a d b e f)(i:dC f)(c)(j:bO c g t a d b e)(k:b.aJ+b.aI.length<65536)(l:(b.aA.length:Int)<1099511627000):
 Cr 84 #[P (S ⟨a,d,N⟩),mv f] c (.int J 0) λm=>∃n,bO m g t a d (b.n f) n/\fG c m a e n:=by
 have o(_:=()):∀h,ae aa c h->_:=λh p=>F2 g t a d b e f i h (j.a p λ_ _ q=>q) k l;clear i j k l;go_enter func84,ntmps84;go_wp2_with fail;go_region_with (go_at_call 111;refine(o () _ (((ae.a aa c).b _).drew)).mono ?_;rintro v w ⟨rfl,r,s,u⟩);all_goals
  go_wp2;go_ret;exact⟨rfl,r,s,(fG.b a e (((ae.a aa c).b _).drew)).a u⟩
def fw(a:Fr.ff):Nat:=if a.b then 6 else 3
def iv(a:List Fr.ff):Nat:=(a.map fw).sum
def En.l(a:En):Nat:=iv a.aA+6*(a.aI.length-min a.aI.length 4)
def BU(a k):iv (a++k)=iv a+iv k:=by simp[iv]
def yU(a):3*a.length<=iv a:=by
 induction a with
 |nil=>simp[iv]
 |cons b c e=>
  have f:3<=fw b:=by unfold fw;split<;>omega
  have d:iv (b::c)=fw b+iv c:=by simp[iv]
  rw[d,Vg];omega
def Qp(a b):iv (En.gU a b)=6*b.length:=by
 induction b generalizing a with
 |nil=>rfl
 |cons d c e=>
  have f:iv (En.gU a (d::c))=6+iv (En.gU (a+1) c):=by simp[iv,En.gU,fw]
  rw[f,e,Vg];omega
def T2(a:En):3*a.aA.length<=a.l:=by have:=yU a.aA;unfold En.l;omega
def Iq(a:En):a.f.l+iv a.aA=a.l:=by unfold En.l En.f;simp[iv];omega
def CC(a:En)(k):(a.r k).l=a.l+6*(min a.aI.length 4-k):=by unfold En.l En.r;simp only[BU,Qp,U5,UK];grind
def T3(a:En)(b):(a.n b).l<=a.l+6:=by unfold En.n;rw[CC];unfold En.w En.l En.c;simp only[Uu,Vg,VD];omega
def T4(a:En):a.o.l<=a.l+24:=by unfold En.o;rw[CC];omega
def TZ(a:En)(b):(a.h b).l<=a.l:=by unfold En.h;split;rename_i c;rw[CC];unfold En.u En.l En.c;simp only[U5];omega;simp
def T0(a:En)(b c):(a.i b c).l<=a.l+3:=by
 have d:(a.a b c).aI=a.aI/\(a.a b c).aA=a.aA:=by unfold En.a;grind
 unfold En.i En.p;split;unfold En.l En.g;simp only[BU,d.1,d.2];have:iv [⟨F,(a.a b c).aT+(En.dU (a.a b c).aO).length,Fr.dq⟩]=3:=by simp[iv,fw]
 omega;unfold En.l En.g;grind
def Is(a:List Nat):Option Fr.ff->Prop
 |none=>∀c,¬ie a c
 |some b=>dx b/\Fr.bi b=a
def Ri{d}(a:∀e∈d,e<256){e}(h:ie d e):∃k,dx k/\Fr.bi k=d:=by
 obtain i|i:=G2 d e h;obtain⟨j,b,c,f,g,rfl⟩:=Bv d i;have o:dx ⟨F,b*256+c,Fr.dq⟩:=⟨by have:=a b (by simp);have:=a c (by simp);show b*256+c<65536;omega,Up ⟨rfl,rfl⟩⟩
 exact⟨_,o,(G1 j b c f g (a _ (by simp)) (a _ (by simp)) (a _ (by simp)) (a _ (by simp)) e h)⟩;obtain⟨j,b,c,f,g,l,m,n,p,q,rfl⟩:=Bu d i;obtain⟨r,s⟩:=G0 j b c f g l m n p q (a _ (by simp)) (a _ (by simp)) (a _ (by simp)) (a _ (by simp)) (a _ (by simp)) (a _ (by simp)) e h;exact⟨_,(Bg b c f g l m n (a _ (by simp)) (a _ (by simp)) (a _ (by simp)) (a _ (by simp)) (a _ (by simp)) (a _ (by simp)) r),s⟩
def FF{b}(e:∀a∈b,a<256):∃f,Is b f:=by by_cases d:∃a,ie b a;obtain⟨a,c⟩:=d;obtain⟨g,h⟩:=Ri e c;exact⟨S g,h⟩;exact⟨N,λa c=>d ⟨a,c⟩⟩
def En.d(b:En):Option Fr.ff->En
 | .none=>b
 | .some a=>if a.b then b.i a.a a.m else b.h a.a
def En.b(b:En):Option Fr.ff->List Fr.cF
 | .none=>[]
 | .some a=>if a.b then b.q a.a a.m else []
def ow:Option Fr.ff->Nat
 |none=>0
 |some a=>fw a-3
def Ip(a:En)(c):(a.d c).l<=a.l+ow c:=by
 cases c with
 |none=>exact UF _
 |some b=>
  show (if b.b then a.i b.a b.m else a.h b.a).l<=a.l+((if b.b then 6 else 3)-3)
  split;exact T0 a _ _;exact TZ a _
def Cs(a:En)(e)(c:a.aO.length=4):(a.b e).length<=4:=by
 have i:∀b:List (Option Fr.cF),(En.dU b).length<=b.length:=by
  intro b;induction b with
  |nil=>simp[En.dU]
  |cons h j k=>cases h<;>simp[En.dU]<;>omega
 have l:∀f g,(a.a f g).aO.length=4:=by intro f g;unfold En.a;split;split;simp[c];exact c;exact c
 cases e with
 |none=>simp[En.b]
 |some d=>
  show (if d.b then a.q d.a d.m else []).length<=4;split;unfold En.q;grind;simp
end Go.Proofs.YtlfijfodklhplaaGreat
