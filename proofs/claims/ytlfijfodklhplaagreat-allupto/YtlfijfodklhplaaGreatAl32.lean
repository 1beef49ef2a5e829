import Derived.Test.YtlfijfodklhplaaGreatAl22
import Derived.Test.YtlfijfodklhplaaGreatAl29
set_option maxHeartbeats 2000000
set_option linter.all false
open Go.RowKit Go.Proofs.Tryz
open Go.Value renaming int->I,slice->L,pointer->P,bool->B
open Go.IntKind renaming i64->J
open Option renaming some->S,none->N
open Bool renaming true->T,false->F
namespace Go.Proofs.YtlfijfodklhplaaGreat
def zD(d:Value)(e:Option Fr.ff)(b:World):Prop:=match e with
 |none=>Cr 81 #[d] b (.tuple #[.agg (fc F 0 0 0 0 F),I J 9]) λc=>ae aa b c
 |some a=>Cr 81 #[d] b (.tuple #[.agg (fc a.b (a.a:Int) (a.m.a:Int) (a.m.c:Int) (a.m.b:Int) a.m.d),I J 0]) λc=>ae aa b c
def lR(e:World)(b:Option Addr)(a:List Nat)(c:Nat):Prop:=(b=N/\a=[]/\c=0)\/∃d,b=S d/\nT e d a/\(a.length:Int)<=140737488351232/\(∀f∈a,f<256)/\a.length<=c
def lR.c{c d b e}(a:lR c d b e):∀f∈b,f<256:=by obtain⟨_,rfl,_⟩|⟨_,_,_,_,a,_⟩:=a;simp;exact a
def lR.b{b l c d}(p:lR b l c d){h}(e:Is c h):zD (L l c.length d) h b:=by
 obtain⟨rfl,rfl,rfl⟩|⟨q,rfl,f,t,m,n⟩:=p;cases h with
 |none=>exact wF N 0 0 b (by decide) (by decide)
 |some g=>
  have a:=lB g;rw[e.2]at a;simp[ee]at a;split at a<;>omega
 cases h with
 |none=>
  by_cases r:c=[]
  subst r;exact wF (S q) 0 d b (by decide) (by decide);obtain f|⟨i,j,rfl,a,k⟩:=f;grind;exact Hc i j d c b k a n m e
 |some g=>
  have a:=lB g;rw[e.2]at a;obtain f|⟨i,j,rfl,k,s⟩:=f;rw[f]at a;simp[ee]at a;split at a<;>omega;have o:=pC g e.1;rw[e.2]at o;exact Hd i j d c b s k n m (mR g) o
def OF(b c a):
 Cr 116 #[P (S ⟨b,c,N⟩),L N 0 0] a (L N 0 0) λd=>ae aa a d:=by
 go_enter func116,ntmps116;go_wp2_with fail;refine((@af _ (EU a)) ()).mono ?_;rintro f g ⟨rfl,e⟩;go_wp2;go_ret;exact⟨rfl,e.b _⟩
def N3(b c a):
 Cr 131 #[P (S ⟨b,c,N⟩),L N 0 0] a (L N 0 0) λd=>ae aa a d:=by
 go_enter func131,ntmps131;go_wp2_with fail;refine((@af _ (OF b c a)) ()).mono ?_;rintro e f ⟨rfl,g⟩;go_wp2;go_ret;simp_all
def NY(n t a e g h c i o b)(j:bO b n t a e g h)(H:(c=L N 0 0/\i=[])\/∃k l m,c=L (S ⟨k,l,N⟩) i.length m/\qf b k l m i)(r:Is i o)(A:(g.aA.length:Int)<1099511627000):
 Calls prog 131 #[P (S ⟨a,e,N⟩),c] b λp d=>∃c f,p= .returned c/\sZ b d a f c (g.b o)/\bO d n t a e (g.d o) f/\fG b d a h f:=by
 have C:∀ {c:Value},(Cr 131 #[P (S ⟨a,e,N⟩),c] b (L N 0 0) λd=>ae aa b d)->Calls prog 131 #[P (S ⟨a,e,N⟩),c] b λp d=>∃c f,p= .returned c/\sZ b d a f c []/\bO d n t a e g f/\fG b d a h f:=λK=>by refine K.mono ?_;rintro p d ⟨rfl,D⟩;exact⟨_,h,rfl,⟨N,0,rfl,RV.d _ _ _,λs u=>(b8 s u).elim⟩,j.a D λ_ _ M=>M,fG.b a h D⟩
 obtain⟨rfl,rfl⟩|⟨k,l,m,rfl,v⟩:=H;cases o with
 |none=>exact C (N3 a e b)
 |some w=>
  have q:=lB w;rw[r.2]at q;simp[ee]at q;split at q<;>omega
 cases o with
 |none=>exact C (N6 a e k l m i b v r)
 |some w=>
  obtain⟨O,x,E⟩:=w;obtain⟨y,Q⟩:=r;have z:=pC _ y;rw[Q]at z;have G:(x:Int)<65536:=by have:=y.1;simp only at this;omega
  cases O with
  |false=>
   have R:E=Fr.dq:=by obtain⟨j,_⟩|⟨_,j⟩:=y.2;cases j;exact j
   subst R;refine(NX n t a e g h k l m x i b j v z G A).mono ?_;rintro p d ⟨rfl,f,U,q⟩;exact⟨_,f,rfl,⟨N,0,rfl,RV.d _ _ _,λs u=>(b8 s u).elim⟩,U,q⟩
  |true=>exact NZ n t a e g h k l m x E i b j v z G A
structure Lp where
 b:Nat
 a:Nat
 e:En
 p:Pl
 r:Rf
 q:Rp
structure wV(w:World)(tag:Nat->Nat)(c:Nat)(a:Lp):Prop where
 iJ:bO w nj 147 a.b 0 a.e a.p
 js:cV w a.a a.r a.q
 tp:∀b,lZ a.b a.p b->tag b=20+4*c
 tr:∀b,hJ a.a a.q b->tag b=21+4*c
def wV.a{f w w' tag g d h}(c:wV w tag d h)(k:ae f w w')(e:∀k,k<w.heap.size->(tag k=20+4*d\/tag k=21+4*d)->¬f k/\g k=tag k):wV w' g d h where
 iJ:=c.iJ.a k λa b=>(e a (c.iJ.d a b) (Ur (c.tp a b))).1
 js:=c.js.a k λa b=>(e a (c.js.b a b) (Up (c.tr a b))).1
 tp:=λa b=>(e a (c.iJ.d a b) (Ur (c.tp a b))).2.trans (c.tp a b)
 tr:=λa b=>(e a (c.js.b a b) (Up (c.tr a b))).2.trans (c.tr a b)
def kg(l:List Lp):List Value:=l.flatMap λa=>[P (S ⟨a.b,0,N⟩),P (S ⟨a.a,0,N⟩)]
def Ng(l a):kg (l++a)=kg l++kg a:=by simp[kg]
def Bc:∀l a b,l[a]?=S b->(kg l)[a*2]?=S (P (S ⟨b.b,0,N⟩))/\(kg l)[a*2+1]?=S (P (S ⟨b.a,0,N⟩))
 |[],a,b,c=>by simp at c
 |d::e,0,b,c=>by simp at c;subst c;simp[kg]
 |d::e,a+1,b,c=>by
  rw[UH]at c;have:=Bc e a b c;have f:kg (d::e)=P (S ⟨d.b,0,N⟩)::P (S ⟨d.a,0,N⟩)::kg e:=by simp[kg]
  rw[f,show (a+1)*2=a*2+1+1 by omega,show a*2+1+1+1=(a*2+1)+1+1 by omega];simpa using this
def yr(l a c d)(b:l[a]?=S c)(e:d.b=c.b)(f:d.a=c.a):kg (l.set a d)=kg l:=by
 have h:∀(l:List Lp)(a:Nat),l[a]?=S c->kg (l.set a d)=kg l:=by
  intro l;induction l with
  |nil=>intro a b;simp at b
  |cons i j g=>
   intro a b;cases a with
   |zero=>simp at b;subst b;simp[kg,e,f]
   |succ a=>
    have:=g a b;simp only[kg,UB,Vs]at this|-;rw[this]
 grind
structure qF(w:World)(tag:Nat->Nat)(ea:Option Addr)(ec:Nat)(l:List Lp):Prop where
 mu:RV w 98 2 ea l.length ec (kg l)
 tr:∀a,ag ea a->tag a=17
 rG:∀b c,l[b]?=S c->wV w tag b c
def qF.a{e w w' tag f ea ec l}(b:qF w tag ea ec l)(k:ae e w w')(d:∀k,k<w.heap.size->(tag k=17\/(20<=tag k/\tag k%4<=1))->¬e k/\f k=tag k):qF w' f ea ec l where
 mu:=b.mu.a k λa c=>(d a (b.mu.b a c) (Ur (b.tr a c))).1
 tr:=λa c=>(d a (b.mu.b a c) (Ur (b.tr a c))).2.trans (b.tr a c)
 rG:=λg h i=>(b.rG g h i).a k λj m n=>d j m (Up (by omega))
def yt(t:Nat):Prop:=(6<=t/\t<=8)\/t=18\/(20<=t/\2<=t%4)
def zt(t:Nat):Prop:=2<=t/\t<=5
def qZ(Y:World->(Nat->Nat)->Prop):Prop:=∀(b:Nat->Prop)(w w':World)(tag c:Nat->Nat),Y w tag->ae b w w'->(∀a,a<w.heap.size->yt (tag a)->¬b a/\c a=tag a)->Y w' c
def oJ(Z:World->(Nat->Nat)->Prop):Prop:=∀(b:Nat->Prop)(w w':World)(tag c:Nat->Nat),Z w tag->ae b w w'->(∀a,a<w.heap.size->zt (tag a)->¬b a/\c a=tag a)->Z w' c
def LX(ea:Option Addr)(ec:Nat)(l:List Lp)(Y Z:World->(Nat->Nat)->Prop)(w:World)(tag:Nat->Nat):Prop:=qF w tag ea ec l/\Y w tag/\Z w tag
def ql(W0:World)(R:Nat->Rw)(ea:Option Addr)(ec:Nat)(l:List Lp)(Y Z:World->(Nat->Nat)->Prop)(k:qZ Y)(m:oJ Z):Cx where
 W0:=W0
 R:=R
 X:=LX ea ec l Y Z
 st:=λi w w' tag j e f g h=>by refine⟨e.1.a f (λa b c=>⟨λd=>?_,h a b (by omega)⟩),k i w w' tag j e.2.1 f (λa b c=>⟨λd=>?_,h a b (by unfold yt at c;omega)⟩),m i w w' tag j e.2.2 f λa b c=>⟨λd=>?_,h a b (by unfold zt at c;omega)⟩⟩;have:=g a b d;omega;have:=g a b d;unfold yt at c;omega;have:=g a b d;unfold zt at c;omega
structure LS(W0 w:World)(tag:Nat->Nat)(yb:Nat)(ea:Option Addr)(ec:Nat)(l:List Lp)(p1:Value)(R:Nat->Rw)(Y Z:World->(Nat->Nat)->Prop):Prop where
 y:qZ Y
 z:oJ Z
 b:nu (ql W0 R ea ec l Y Z y z) w tag yb (L ea l.length ec) p1 R
section
variable {W0 w w' : World} {tag : Nat → Nat} {yb : Nat} {ea : Option Addr} {ec : Nat} {l : List Lp} {p1 : Value} {R : Nat → Rw} {Y Z : World → (Nat → Nat) → Prop}
def LS.g(a:LS W0 w tag yb ea ec l p1 R Y Z):qF w tag ea ec l:=a.b.x.1
def LS.c(a:LS W0 w tag yb ea ec l p1 R Y Z):Y w tag:=a.b.x.2.1
def LS.e(a:LS W0 w tag yb ea ec l p1 R Y Z):Z w tag:=a.b.x.2.2
def LS.f(c:LS W0 w tag yb ea ec l p1 R Y Z){a b}(d:l[a]?=S b):wV w tag a b:=c.g.rG a b d
def LS.a(a:LS W0 w tag yb ea ec l p1 R Y Z)(k:ae aa w w'):LS W0 w' tag yb ea ec l p1 R Y Z:=⟨a.y,a.z,a.b.j k⟩
def LS.d(b:LS W0 w tag yb ea ec l p1 R Y Z):∀a,w.heap.size<=a->tag a=0:=b.b.h
def LS.r{b}(k:b<6){G i c' j}(f:LS W0 w tag yb ea ec l p1 R Y Z)(m:∀g,g<w.heap.size->G g->tag g=0)(n:zy b G w w' yb (L ea l.length ec) p1 R i c' j):
 ∃d h,LS W0 w' d yb ea ec l p1 h Y Z/\(h b).n=(R b).n+1/\(∀e,e≠b->h e=R e)/\(∀a,a<w.heap.size->¬G a->d a=tag a)/\(∀a,a<w.heap.size->tag a≠0->d a=tag a):=by
 obtain⟨d,c,o,p⟩:=f.b.l k m n;refine⟨d,pO R b ⟨S ⟨i,0,N⟩,(R b).n+1,c',(R b).V++[j]⟩,⟨f.y,f.z,?_⟩,by rw[Cv],λe q=>Cu _ _ _ _ q,o,p⟩;exact⟨c.f,c.a,c.c,c.b,c.e,c.i,c.h,c.x⟩
def LS.i{f e}(c:LS W0 w tag yb ea ec l p1 R Y Z)(i:oJ f)(g:∀a,a<w.heap.size->(tag a=1\/6<=tag a)->e a=tag a)(j:∀a,w.heap.size<=a->e a=0)(k:f w e):LS W0 w e yb ea ec l p1 R Y f:=by refine⟨c.y,i,c.b.d (ae.a aa w) (λ_ _ b=>b.elim) (λa d b=>g a d (b.imp id λb=>by omega)) j ⟨?_,?_,k⟩ rfl⟩;exact c.g.a (ae.a aa w) (λa d h=>⟨λb=>b,g a d (Up (by omega))⟩);exact c.y _ _ _ _ _ c.c (ae.a aa w) λa d h=>⟨λb=>b,g a d (Up (by unfold yt at h;omega))⟩
def wH{l:List Lp}{a d c}(e:l[a]?=S d){b z}(f:(l.set a c)[b]?=S z):(b=a/\z=c)\/(b≠a/\l[b]?=S z):=by by_cases g:b=a;grind;grind
def LS.o(d:LS W0 w tag yb ea ec l p1 R Y Z){j b}(u:l[j]?=S b){e' h}(z:bO w' nj 147 b.b 0 e' h)(v:fG w w' b.b b.p h):
 ∃tag',LS W0 w' tag' yb ea ec (l.set j {b with e:=e',p:=h}) p1 R Y Z/\(∀a,a<w.heap.size->tag' a=tag a)/\(∀a,w.heap.size<=a->¬lZ b.b h a->tag' a=0):=by
 classical
 obtain⟨tag',x⟩:∃tag':Nat->Nat,tag'=λa=>if a<w.heap.size then tag a else if lZ b.b h a then 20+4*j else 0:=⟨_,rfl⟩
 have k:∀a,a<w.heap.size->tag' a=tag a:=λa c=>by rw[x];simp only[c,VR]
 have A:∀a,w.heap.size<=a->¬lZ b.b h a->tag' a=0:=λa c f=>by rw[x];simp only;rw[Us (by omega),Us f]
 have c:=v.c;have n:=d.f u;have o:∀a,ma b.b b.p a->tag a=20+4*j:=λa c=>n.tp a c.a;refine⟨tag',⟨d.y,d.z,?_⟩,k,A⟩;have D:∀a,lZ b.b h a->tag' a=20+4*j:=λa f=>by by_cases C:a<w.heap.size;rw[k a C];obtain m|m:=f.a;obtain m|m:=v.d a m;grind;omega;obtain m|m:=v.e a m;exact n.tp a (Up (Up (Up m)));omega;rw[x];simp only;rw[Us C,UG f]
 have E:qF w' tag' ea ec (l.set j {b with e:=e',p:=h}):=by have r:=d.g;refine⟨?_,λq s=>?_,λG H y=>?_⟩;rw[UA,yr l j b {b with e:=e',p:=h} u rfl rfl];exact r.mu.a c (λq s g=>by have:=o q g;have:=r.tr q s;omega);rw[k q (r.mu.b q s)];exact r.tr q s;obtain⟨rfl,rfl⟩|⟨K,y⟩:=wH u y;exact⟨z,n.js.a c (λa f g=>by have:=o a g;have:=n.tr a f;omega),D,λa f=>by rw[k a (n.js.b a f)];exact n.tr a f⟩;exact(r.rG G H y).a c λa i t=>⟨λg=>by have:=o a g;omega,k a i⟩
 have M:=d.b.d (C':=ql W0 R ea ec (l.set j {b with e:=e',p:=h}) Y Z d.y d.z) (tag':=tag') c (λa i g=>by have:=o a g;omega) (λa i _=>k a i) (λa i=>A a (UM c.size i) λf=>by have:=z.d a f;omega) ⟨E,d.y _ _ _ _ _ d.c c (λa i t=>⟨λg=>by have:=o a g;unfold yt at t;omega,k a i⟩),d.z _ _ _ _ _ d.e c λa i t=>⟨λg=>by have:=o a g;unfold zt at t;omega,k a i⟩⟩ rfl;grind
def LS.p(d:LS W0 w tag yb ea ec l p1 R Y Z){i b}(u:l[i]?=S b){o g}(y:cV w' b.a o g)(z:fR w w' b.a b.q g):
 ∃tag',LS W0 w' tag' yb ea ec (l.set i {b with r:=o,q:=g}) p1 R Y Z/\(∀a,a<w.heap.size->tag' a=tag a)/\(∀a,w.heap.size<=a->¬hJ b.a g a->tag' a=0):=by
 classical
 obtain⟨tag',v⟩:∃tag':Nat->Nat,tag'=λa=>if a<w.heap.size then tag a else if hJ b.a g a then 21+4*i else 0:=⟨_,rfl⟩
 have j:∀a,a<w.heap.size->tag' a=tag a:=λa c=>by rw[v];simp only[c,VR]
 have A:∀a,w.heap.size<=a->¬hJ b.a g a->tag' a=0:=λa c e=>by rw[v];simp only;rw[Us (by omega),Us e]
 have c:=z.b;have k:=d.f u;have m:∀a,mI b.a b.q a->tag a=21+4*i:=λa c=>k.tr a (Ur c);refine⟨tag',⟨d.y,d.z,?_⟩,j,A⟩;have E:∀a,hJ b.a g a->tag' a=21+4*i:=λa e=>by by_cases C:a<w.heap.size;rw[j a C];obtain D|D:=z.d a e;exact k.tr a D;omega;rw[v];simp only;rw[Us C,UG e]
 have G:qF w' tag' ea ec (l.set i {b with r:=o,q:=g}):=by have p:=d.g;refine⟨?_,λn s=>?_,λH K x=>?_⟩;rw[UA,yr l i b {b with r:=o,q:=g} u rfl rfl];exact p.mu.a c (λn s f=>by have:=m n f;have:=p.tr n s;omega);rw[j n (p.mu.b n s)];exact p.tr n s;obtain⟨rfl,rfl⟩|⟨M,x⟩:=wH u x;exact⟨k.iJ.a c (λa e f=>by have:=m a f;have:=k.tp a e;omega),y,λa e=>by rw[j a (k.iJ.d a e)];exact k.tp a e,E⟩;exact(p.rG H K x).a c λa h t=>⟨λf=>by have:=m a f;omega,j a h⟩
 have O:=d.b.d (C':=ql W0 R ea ec (l.set i {b with r:=o,q:=g}) Y Z d.y d.z) (tag':=tag') c (λa h f=>by have:=m a f;omega) (λa h _=>j a h) (λa h=>A a (UM c.size h) λe=>by have:=y.b a e;omega) ⟨G,d.y _ _ _ _ _ d.c c (λa h t=>⟨λf=>by have:=m a f;unfold yt at t;omega,j a h⟩),d.z _ _ _ _ _ d.e c λa h t=>⟨λf=>by have:=m a f;unfold zt at t;omega,j a h⟩⟩ rfl;grind
end
def yZ(b d a e c)(j:gh c d a):
 Calls prog 74 #[.int J b,L d a.length e] c λg h=>∃i,g= .returned (.int J i)/\gq b a i/\ae aa c h:=by
 by_cases f:ia b a;refine(Ro b d a e c f).mono ?_;rintro g h ⟨k,l⟩;exact⟨1,k,gq.d f,l⟩;exact Rn b d a e c j f
structure iM where
 a:Int
 e:Int
 r:Int
 m:Int
 c:Option Addr
 i:List Ed
 q:Nat
 d:Bool
 s:Int
 k:Int
 l:Int
 n:Int
 f:Bool
 g:Option Addr
 h:List Nat
 p:Nat
structure iM.b(f:World)(c:iM):Prop where
 e:(c.c=N/\c.i=[]/\c.q=0)\/∃d,c.c=S d/\gh f (S d) c.i/\(c.i.length:Int)<=5864062014700
 a:(c.g=N/\c.h=[]/\c.p=0)\/∃d,c.g=S d/\nT f d c.h/\(c.h.length:Int)<=140737488351232/\(∀g∈c.h,g<256)/\c.h.length<=c.p
def gh.c{f c w' d g}(i:gh c d g)(k:ae f c w')(j:∀a b,a<c.heap.size->d=Option.some ⟨a,b,N⟩->¬f a):gh w' d g:=
 i.imp id λ⟨a,b,h,e,l⟩=>⟨a,b,h,Un e k.size,l.a k e (j a b e h)⟩
def nT.b{f c w' d g}(i:nT c d g)(k:ae f c w')(j:∀a b,a<c.heap.size->d=⟨a,b,N⟩->¬f a):nT w' d g:=
 i.imp id λ⟨a,b,h,e,l⟩=>⟨a,b,h,Un e k.size,l.a k e (j a b e h)⟩
def iM.b.b{f d w'}{e:iM}(m:e.b d)(k:ae f d w')(n:(∀a b,a<d.heap.size->e.c=S ⟨a,b,N⟩->¬f a)/\(∀a b,a<d.heap.size->e.g=S ⟨a,b,N⟩->¬f a)):e.b w':=
 ⟨m.e.imp id λ⟨g,c,h,i⟩=>⟨g,c,h.c k λa b j l=>n.1 a b j (c.trans l),i⟩,m.a.imp id λ⟨g,c,h,i⟩=>⟨g,c,h.b k (λa b j l=>n.2 a b j (by rw[c,l])),i⟩⟩
abbrev iM.v(a:iM):Value:=kq a.a a.e a.r a.m (L a.c a.i.length a.q) a.d a.s a.k a.l a.n a.f (L a.g a.h.length a.p)
def G4(b a f g c h w)(d:cV w b f g)(l:Lk a f)(m:zD h c w)(y:∀i,c=S i->dx i)(z:∀q j,a.aO[q]?=S (S j)->a.aT+q<65536)(A:a.aT<=65536)(r:(f.bD.length:Int)<5864061014000):
 Calls prog 132 #[P (S ⟨b,0,N⟩),h] w λj w'=>∃n s t k,j= .returned (L n (a.b c).length s)/\RV w' 76 4 n (a.b c).length s (cH (a.b c))/\(∀e,ag n e->w.heap.size<=e/\¬hJ b k e)/\cV w' b t k/\Lk (a.d c) t/\fR w w' b g k:=by
 cases c with
 |none=>
  refine(Rs b h w m).mono ?_;rintro j w' ⟨rfl,u⟩;exact⟨N,0,f,g,rfl,RV.d _ _ _,λe o=>(b8 e o).elim,d.a u λ_ _ a=>a,l,fR.c b g u⟩
 |some i=>
  have v:=y i rfl;obtain⟨C,p,x⟩:=i;cases C with
  |false=>
   have D:x=Fr.dq:=by obtain⟨d,_⟩|⟨_,d⟩:=v.2;cases d;exact d
   subst D;refine(Rq b f g p h w d m r).mono ?_;rintro j w' ⟨rfl,k,E,G⟩;exact⟨N,0,_,k,rfl,RV.d _ _ _,λe o=>(b8 e o).elim,E,l.x p,G⟩
  |true=>exact Rr b a f g p x h w d l m v.1 z A r
def lR.a{f w w' c b g}(d:lR w c b g)(k:ae f w w')(i:∀a e,c=S ⟨a,e,N⟩->a<w.heap.size->b≠[]->¬f a):lR w' c b g:=by
 obtain d|⟨j,rfl,l,m⟩:=d;exact Ur d;refine Up ⟨j,rfl,?_,m⟩;by_cases h:b=[]
 exact Ur h;exact l.b k λa e n o=>i a e (by rw[o]) n h
section
variable {W0 w w' : World} {tag : Nat → Nat} {yb : Nat} {ea : Option Addr} {ec : Nat} {l : List Lp} {p1 : Value} {R : Nat → Rw} {Y Z : World → (Nat → Nat) → Prop}
def LS.H(d:LS W0 w tag yb ea ec l p1 R Y Z){a}(f:a<6){e:Nat->Prop}(g:∀b,b<w.heap.size->e b->tag b=0):lu w (R a).a (R a).n (R a).c (qx a) (R a).V (λb=>e b\/b=yb):=by refine lu.a (d.b.c a f) λh i _ j c=>?_;have k:=Wa.1 j;obtain c|c:=c;have:=g h i c;omega;rw[c,d.b.b]at k;omega
def LS.h(a:LS W0 w tag yb ea ec l p1 R Y Z):yb<w.heap.size/\tag yb=10:=⟨a.b.a.b,a.b.b⟩
end
def rS(w1 w':World)(e:Option Addr)(b:List Nat)(f:Value)(g:Nat->Prop):Prop:=
 (e=N/\b=[]/\f=L N 0 0/\∀c,¬g c)\/∃a d h,e=S h/\f=L (S ⟨a,0,N⟩) b.length d/\w1.heap.size<=a/\gp w' a (b++jI 8) d/\b.length+8<=d/\a<w'.heap.size/\∀c,g c↔c=a
def Oz(f a d w)(j:lR w f a d):
 Calls prog 79 #[L f a.length d] w λb w'=>∃h k,b= .returned h/\rS w w' f a h k/\ae aa w w':=by
 obtain⟨rfl,rfl,rfl⟩|⟨g,rfl,l,m,y,z⟩:=j;refine(FR w).mono ?_;rintro b w' ⟨rfl,rfl⟩;exact⟨_,λ_=>False,rfl,Ur ⟨rfl,rfl,rfl,λ_ b=>b⟩,ae.a _ _⟩;have n:Calls prog 79 #[L (S g) a.length d] w λb w'=>∃c e,b= .returned (L (S ⟨c,0,N⟩) a.length e)/\w.heap.size<=c/\gp w' c (a++jI 8) e/\a.length+8<=e/\ae aa w w':=by by_cases o:0<a.length;obtain b|⟨p,q,rfl,r,s⟩:=l;grind;exact FP p q d a w s r m o;have:a=[]:=U1 (by omega);subst this;have:=FQ g d w;omega
 refine n.mono ?_;rintro b w' ⟨c,e,rfl,t,i,u,v⟩;exact⟨_,λx=>x=c,rfl,Up ⟨c,e,g,rfl,rfl,t,i,u,i.b,λ_=>Iff.rfl⟩,v⟩
def rS.a{e w1 w w' f g h a}(b:rS w1 w f g h a)(k:ae e w w')(l:∀c,c<w.heap.size->a c->¬e c):rS w1 w' f g h a:=by obtain b|⟨d,m,n,o,p,q,r,s,i,j⟩:=b;exact Ur b;exact Up ⟨d,m,n,o,p,q,r.a k (l d i ((j d).2 rfl)),s,Un i k.size,j⟩
def rS.b{w1 w g a b h}(i:rS w1 w g a b h)(r:(a.length:Int)<=140737488351232)(j:∀k∈a,k<256):(b=L N 0 0/\a=[])\/∃d e f,b=L (S ⟨d,e,N⟩) a.length f/\qf w d e f a:=by obtain⟨_,l,c,_⟩|⟨m,n,s,l,c,t,o,u,p,v⟩:=i;grind;refine Up ⟨m,0,n,c,?_,p,by omega,by omega,j⟩;have:=lI o;intro q x;have c:=this q (by rw[Uu];omega);grind
def lR.d{w c b d}(a:lR w c b d):(b.length:Int)<=140737488351232:=by obtain⟨_,rfl,_⟩|⟨_,_,_,a,_⟩:=a;simp;exact a
section
variable {W0 : World} {tag : Nat → Nat} {yb : Nat} {ea : Option Addr} {ec : Nat} {l : List Lp} {p1 : Value} {R : Nat → Rw} {Y Z : World → (Nat → Nat) → Prop}
def LS.n{w κ}(g:κ<6){G m n o}(c:LS W0 w tag yb ea ec l p1 R Y Z)(i:∀d,d<w.heap.size->G d->tag d=0)(u:∀j,aq w yb j 73->j[κ+2]?=S (R κ).b->¬G yb->lu w (R κ).a (R κ).n (R κ).c (qx κ) (R κ).V (λp=>G p\/p=yb)->Calls prog m n w λa w'=>a=o/\∃h,Bk κ G (w.drewN h) w' yb (R κ).n (R κ).a (R κ).V j):
 Calls prog m n w λa w'=>a=o/\∃e f,LS W0 w' e yb ea ec l p1 f Y Z/\(f κ).n=(R κ).n+1/\(∀k,k≠κ->f k=R k)/\(∀b,b<w.heap.size->¬G b->e b=tag b)/\(∀b,b<w.heap.size->tag b≠0->e b=tag b)/\ae (λb=>G b\/(10<=tag b/\tag b<=16)) w w':=by
 have v:=c.h;refine(u (uW (L ea l.length ec) p1 R) c.b.a ?_ (λa=>by have:=i yb v.1 a;omega) (c.H g i)).mono ?_;obtain rfl|rfl|rfl|rfl|rfl|rfl:=(by omega:κ=0\/κ=1\/κ=2\/κ=3\/κ=4\/κ=5)<;>rfl;rintro a w' ⟨rfl,h,x⟩;have q:=(ae.a aa w).drewN h;have y:(w.drewN h).heap.size=w.heap.size:=by simp
 obtain⟨D,E,H,r⟩:=x.a g (R:=R);obtain⟨e,f,z,A,C,s,t⟩:=(c.a q).r g (G:=G) (λd K a=>i d (by omega) a) r;rw[y]at s t;refine⟨rfl,e,f,z,A,C,s,t,(q.d λ_ _ a=>a.elim).g r.a λM O a=>?_⟩;obtain a|a|a:=a;exact Ur a;right;rw[a];omega;right;have:=(c.b.g g a).2;omega
def LS.j{w κ}(i:κ<6)(k:LS W0 w tag yb ea ec l p1 R Y Z){b d e j}(m:RV w (uB κ) (jA κ) b d e j)(n:∀c,c<w.heap.size->ag b c->tag c=0)(o:(d:Int)<=yd κ)(p:((R κ).n:Int)<1099511627776):
 Cr (AZ κ) #[P (S ⟨yb,2,N⟩),L b d e] w (.tuple #[]) λw'=>∃f g,LS W0 w' f yb ea ec l p1 g Y Z/\(g κ).n=(R κ).n+1/\(∀h,h≠κ->g h=R h)/\(∀a,a<w.heap.size->¬ag b a->f a=tag a)/\(∀a,a<w.heap.size->tag a≠0->f a=tag a)/\ae (λa=>ag b a\/(10<=tag a/\tag a<=16)) w w':=
 k.n i n λq r s t u=>(ye κ i yb b d e j _ _ _ _ q w r s t u m o p).mono λ_ _ ⟨c,v⟩=>⟨c,0,v⟩
def RT(W0 w)(c:LS W0 w tag yb ea ec l p1 R Y Z)(g e h p G w1)(v:rS w1 w g e p G)(q:lR w g e h)(r:∀b,b<w.heap.size->G b->tag b=0)(m:((R 0).n:Int)<1099511627776):
 Cr 82 #[P (S ⟨yb,0,N⟩),p,L g e.length h] w (B T) λw'=>∃i j,LS W0 w' i yb ea ec l p1 j Y Z/\(j 0).n<=(R 0).n+1/\(∀n,n≠0->j n=R n)/\(∀a,a<w.heap.size->¬G a->i a=tag a)/\(∀a,a<w.heap.size->tag a≠0->i a=tag a)/\ae (λa=>G a\/(10<=tag a/\tag a<=16)) w w':=by
 obtain⟨rfl,rfl,rfl,ab⟩|⟨f,x,s,rfl,rfl,ac,y,z,A,k⟩:=v;have t:h=0:=by obtain⟨_,_,c⟩|⟨_,c,_⟩:=q;exact c;cases c
 subst t;refine(Hg yb (L N 0 0) w).mono ?_;rintro d w' ⟨rfl,rfl⟩;exact⟨rfl,tag,R,c,by omega,λ_ _=>rfl,λ_ _ _=>rfl,λ_ _ _=>rfl,ae.a _ _⟩;obtain⟨C,D,E,t⟩:nT w s e/\(e.length:Int)<=140737488351232/\(∀b∈e,b<256)/\e.length<=h:=by obtain⟨c,_⟩|⟨ad,c,u⟩:=q;cases c;grind
 have H:∀b,b<w.heap.size->ap f b->tag b=0:=λb K d=>r b K ((k b).2 d);have M:yb≠f:=λd=>by have af:=c.h;have u:=r f A ((k f).2 rfl);rw[<-d]at u;omega
 refine(c.n (κ:=0) (by omega) (G:=ap f) H λO g Q _ U=>Hh yb f x s h e (R 0).a (R 0).n (R 0).c (R 0).V O w g Q M U y z C E D m).mono ?_;rintro d w' ⟨rfl,i,j,V,ag,W,X,aa,o⟩;exact⟨rfl,i,j,V,by omega,W,λa o m=>X a o λd=>m ((k a).2 d),aa,o.d λa _ d=>d.imp (k a).2 id⟩
end
end Go.Proofs.YtlfijfodklhplaaGreat
