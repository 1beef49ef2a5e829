import Derived.Test.YtlfijfodklhplaaGreatAl31
set_option linter.all false
open Go.RowKit Go.Proofs.Tryz
open Option renaming some->S,none->N
open Bool renaming true->T,false->F
namespace Go.Proofs.YtlfijfodklhplaaGreat.Ghs
open bV
structure AI{f:Gr}(e:bT f)(d:AN):Prop where
 a:Sf e d
 c:Qt d
 b:∃h g,fN f e (cz d) h qM g/\Fl e (cz d) g 0 []
def Dx{b}(e:Qt b){c:Nat}{a}(f:b.bd[c]?=S a):PS a.n:=λg d=>by rw[e c a f]at d;cases d
def kU(a:ay):Prop:=Bw a/\∀b∈a.an,Rw b.2
def CU{a}(d:kU a)(b c):kU (a.a b c).1:=⟨zL d.1 b c,by rw[(rP a b c).1];exact d.2⟩
def CW:∀(d a) {b},kU b->kU (b.h d a).1
 |0,a,b,c=>c
 |d+1,a,b,c=>by
  rw[ay.h];cases i:b.an[a]? with
  |none=>exact c
  |some f=>
   dsimp only;have e:=CU c f.1 f.2;split;exact⟨e.1.a rfl rfl,λg h=>e.2 g (Vx h)⟩;exact CW d (a+1) e
def CV:∀(b) {a},kU a->kU (a.v b)
 |0,a,c=>c
 |b+1,a,c=>by rw[ay.v];have d:=CW a.an.length 0 c;split;exact CV b d;exact d
def IQ{c}(f:kU c)(d a)(i:Rw (cy a)):kU (c.w d a):=by unfold ay.w;have b:=CU f d (cy a);split;exact CV _ b;refine⟨b.1.a rfl rfl,λg h=>?_⟩;obtain e|e:=UP.1 h;exact b.2 g e;grind
def IR{a}(b:kU a):kU a.b:=by
 refine⟨zP b.1,λc d=>b.2 c ?_⟩;have:a.b.an=a.an:=by unfold ay.b;split;split<;>rfl;rfl
 grind
def IP{a}(b:kU a):kU {a with aD:=[]}:=⟨b.1.a rfl rfl,b.2⟩
def Dy{c}(b:dC c):Rw (cy c):=by
 obtain⟨_,_,_,b⟩:=b;simp only[bJ,UV]at b;obtain⟨⟨f,g⟩,h,i,j,d,k⟩:=b;obtain⟨a,l,m,n⟩:=c;dsimp only at *;have e:a=1\/a=2\/a=3\/a=4\/a=5\/a=6\/a=7:=by omega
 obtain rfl|rfl|rfl|rfl|rfl|rfl|rfl:=e;all_goals simp[cy,Rw,bM]at d|-
 split<;>omega
def jt(b:AN):Prop:=∀(c:Nat)(a:AS),b.bd[c]?=S a->kU a.n
def zQ{b}(d:∀(a:Nat)(c:ay),b.c[a]?=S c->kU c):jt b:=λa e f=>d a e.n (by simp[AN.c,f])
def jt.a{b}(e:jt b){c:Nat}{d}(a:b.c[c]?=S d):kU d:=by unfold AN.c at a;rw[Uz]at a;obtain⟨f,g,h⟩:=UD.1 a;rw[<-h];exact e c f g
def CY{b}(c:jt b)(e):jt (b.m e):=zQ λf g a=>by unfold AN.m at a;rw[BL,uR]at a;obtain⟨h,d,rfl⟩:=km a;split;exact IP (c.a d);exact c.a d
def CX{b}(c:jt b)(g d)(h:∀a,kU a->kU (d a)):jt (b.b g d):=zQ λj a e=>by rw[uR]at e;obtain⟨i,f,rfl⟩:=km e;split;exact h i (c.a f);exact c.a f
def CZ{c}(d:jt c)(a k){b}(e:dC b):jt (c.G a k b):=CY (CX d a _ λg f=>IQ f k b (Dy e)) a
def C0{e k}:∀(a) {b},jt b->(∀c∈a,dC c)->jt (b.n e k a)
 |[],b,d,_=>d
 |c::a,b,d,f=>C0 a (CZ d e k (f c (by simp))) λg h=>f g (by simp[h])
def IS{b}(c:jt b)(a):jt (b.D a):=CY (CX c a _ λe d=>IR d) a
def tV{a b}(c:jt a)(d:b.c=a.c):jt b:=zQ λf g e=>c.a (by rw[<-d];exact e)
def DQ{e}{d:bT e}(A:e.n<=10){a}(p:Sf d a)(q:Qt a){b s}(f:a.bd[b]?=S s)(c)(r:lg (c s.n))(t:PS (c s.n)){u g h}(i:fN e d ⟨aj (cz a).jg b (c s.n),(cz a).en,(cz a).io⟩ u g h)(hF:Fl d (cz a) h 0 []):
 ∃v j,fN e d (cz ((a.b b c).m b)) v g j/\Fl d (cz ((a.b b c).m b)) j 0 []/\Sf d ((a.b b c).m b)/\Qt ((a.b b c).m b)/\((a.b b c).m b).g=a.g:=by
 have k:=Dm f c;rw[<-k]at i;exact Jv (by omega) (DF p f c r) (s:= {s with n:=c s.n}) (by rw[ug,f];simp) (λl C w m=>by rw[ug]at m;obtain⟨x,y,o⟩:=UD.1 m;rw[Us λz=>w z.symm]at o;rw[<-o];exact q l x y) t i (hF.a λl D=>by rw[k])
def AI.p{e}{f:bT e}(i:e.n<=10){a}(b:AI f a){c g}(d:a.bd[c]?=S g):AI f (a.D c)/\(a.D c).g=a.g:=by obtain⟨r,s,j,hF⟩:=b.b;have h:=j.o c;rw[rO d]at h;obtain⟨k,l,m,n,o,p,q⟩:=DQ i b.a b.c d ay.b (In _ (b.a.g c g d)) (Dv (Dx b.c d)) h hF;exact⟨⟨o,p,k,l,m,n⟩,q⟩
def DN{w}{b:bT w}(x:w.n<=10)(t:∀l,b.dg l<=30){a k}(e:k<b.dg a):∀(c) {A} {n i},Sf b A->Qt A->fN w b (cz A) n (am qM (b.nb a k) a c) i->Fl b (cz A) i 0 []->(∀m∈c,dC m)->
 (AI b (A.n a k c)/\(A.n a k c).g=A.g)/\(jt A->∀f d,c[f]?=S d->∃g,(A.n a k (c.take f)).c[a]?=S g/\g.aD=[]/\tT g k d/\(g.an.length:Int)<4000/\dC d/\g.ai.length<=100)
 |[],A,n,i,o,p,u,hF,y=>by refine⟨⟨⟨o,p,n,i,u.f λd D E=>?_,hF⟩,rfl⟩,λ_ f d j=>by simp at j⟩;simp only[am,qM];split<;>rfl
 |m::c,A,n,i,o,p,u,hF,y=>by
  have ag:(1000:Nat)<2 ^ 30:=by decide
  obtain⟨ah,q,ai,aj,h⟩:=o.c e;have s:=rO h;have Q:=o.g a q h;obtain⟨ak,z,R⟩:=u.a;have G:=z.e a;have U:=z.i a;rw[s]at G U;have v:=y m (by simp);have al:=t a;obtain⟨V,an,ao,ap⟩:=Cn q.n k m Q (by rw[G];exact e) (Jr v) (by omega);have H:=u.m (by omega) (λl=>by have:=t l;omega) e (m:=m) (r:=c) (by simp[am]);have W:am (am qM (b.nb a k) a (m::c)) (b.nb a k) a c=am qM (b.nb a k) a c:=by funext d aq;simp only[am];split<;>rfl
  rw[W,s]at H;obtain⟨ar,au,X,Y,Z,aa,ab⟩:=DQ x o p h (λg=>g.w k m) V (Jw (Dx p h) k m) H hF;obtain⟨⟨ac,ad⟩,ae⟩:=DN x t e c (A:=A.G a k m) Z aa X Y (λd af=>y d (by simp[af]));refine⟨⟨ac,ad.trans ab⟩,λK f d j=>?_⟩;cases f with
  |zero=>
   simp only[U8,VO]at j;subst j;refine⟨q.n,by simp[AN.n,AN.c,h],p a q h,?_,by omega,v,by omega⟩;obtain⟨D,E,C⟩:=tU b e;have M:=R (b.nb a k) D k E (by rw[C];exact e) (by rw[C]);rw[C,show am qM (b.nb a k) a (m::c) (b.nb a k) a=m::c by simp[am]]at M;have O:=K a q h;have:=z.r x (by omega) (λl=>by have:=t l;omega) e (m:=m) (r:=(c++List.drop ((cz A).en a k).aT (n (b.nb a k) a)++i (b.nb a k) a).map cy) (by rw[M];simp) (by rw[s];exact O.1) (by rw[s];exact O.2) (Dy v);rw[s]at this;exact this
  |succ f=>
   rw[UH]at j;exact ae (CZ K a k v) f d j
def DO{m}{a:bT m}{h}(i:Sf a h){b k}(j:k<a.dg b):h.w b (a.nb b k)=k:=by
 obtain⟨c,d,l,n,f⟩:=i.c j;have o:∀e g,d.ss[e]?=S g->e<a.dg b/\g.1=a.nb b e:=λe g p=>i.i (by rw[oh,f];exact p);have q:d.ss[k]?=S c:=by rw[oh,f]at l;exact l
 unfold AN.w;rw[f];have r:d.ss.findIdx (λc=>c.1==a.nb b k)<d.ss.length:=by rw[List.findIdx_lt_length];exact⟨c,Uo q,by simp[n]⟩
 refine a.jh b _ _ (o _ _ (Um r)).1 j ?_;grind
def AI.d{g}{h:bT g}{f}(b:AI h f)(e)(j:∀a∈e,(a.sp=F->∃c,dx c/\a.l=Fr.bi c)/\(a.sp=T->eK a.l=N)/\g.fg a.t a.f)(k:∀a∈e,∀c,eK a.l=S c->∃d∈f.fu,d.f=a.f/\d.t=a.t/\eK d.l=S c):AI h {f with fu:=e}:=by obtain⟨l,m,n,hF⟩:=b.b;refine⟨⟨b.a.h,j,b.a.d,b.a.b,b.a.e,b.a.g,b.a.f⟩,b.c,l,m,?_,hF⟩;refine n.e (e.map λa=>(a.f,a.t,eK a.l)) λx y c o=>?_;obtain⟨a,p,i⟩:=Vb.1 o;simp only[VT]at i;obtain⟨q,r,s⟩:=i;obtain⟨d,t,u,v,w⟩:=k a p c s;exact Vb.2 ⟨d,t,by rw[u,v,w,q,r]⟩
def AI.g{f}{c:bT f}{d}(e:AI c d)(k):AI c (d.f k):=
 e.d _ (λa b=>e.a.a a (Vx b)) λa b h g=>⟨a,Vx b,rfl,rfl,g⟩
def AI.i{j}{f:bT j}{g}(b:AI f g)(k):AI f (g.q k):=by unfold AN.q;split;exact b;rename_i h l;have i:=Uo l;unfold AN.j;split;refine b.d _ (λc d=>?_) λc d m e=>?_;obtain a|a:=UP.1 d;exact b.a.a c a;rw[UY.1 a];exact b.a.a h i;obtain a|a:=UP.1 d;exact⟨c,a,rfl,rfl,e⟩;rw[UY.1 a]at e|-;exact⟨h,i,rfl,rfl,e⟩;exact b
def AI.m{n}{h:bT n}{i}(a:AI h i)(k j c)(o:c<256):AI h (i.s k j c):=by
 unfold AN.s;split;exact a;rename_i d p;have l:=Uo p;split;rename_i e;obtain⟨v,q,m⟩:=(a.a.a d l).1 e.1;have r:eK (d.l.modify j λs=>s ^^^ c)=N:=by rw[m];exact Je q (by rw[<-m];exact e.2.1) e.2.2 o
 refine a.d _ (λf g=>?_) λf g w t=>?_;obtain b|b:=VK g;exact a.a.a f b;rw[b];exact⟨(λu=>by cases u),λ_=>r,(a.a.a d l).2.2⟩;obtain b|b:=VK g;exact⟨f,b,rfl,rfl,t⟩;grind;exact a
def Fl.b{i}{c:bT i}{A d e}(hF:Fl c (cz A) e 0 []){f g a}(j:A.e f g=S a){b k l}(m:cz d=⟨k,am (cz A).en f g b,l⟩)(n:b.aJ+b.aI.length=a.2.aJ+a.2.aI.length):Fl c (cz d) e 0 []:=hF.a λo p=>by rw[m];simp only[am];split;rename_i h;rw[h.1,h.2,vq j];exact n;rfl
def AI.o{h}{g:bT h}{e}(c:AI g e){a b}(i:b<g.dg a):AI g (e.A a b)/\(e.A a b).g=e.g:=by obtain⟨j,k,o,hF⟩:=c.b;obtain⟨f,y,d,z,A⟩:=c.a.c i;have l:=c.a.f a b f d;have m:=vq d;obtain⟨p,n,q,r,s,t⟩:=vp c.a d En.o (Ar (c.a.e a b f d) (c.a.b a b f d) l 0) (c.a.d a b f d) (c.a.b a b f d) l;refine⟨⟨r,vw s c.c,j,k,?_,hF.b d n rfl⟩,t⟩;show fN h g (cz ((e.a a b En.o).d a b)) j qM k;rw[n,<-m];exact o.n i p λu v w x=>by rw[m];exact q u v w x
def AI.h{h}{d:bT h}{e}:∀(c:List Nat) {a:AN},AI d a->(∀b∈c,b<d.dg e)->AI d (c.foldl (λa b=>a.A e b) a)/\(c.foldl (λa b=>a.A e b) a).g=a.g
 |[],a,f,_=>⟨f,rfl⟩
 |b::c,a,f,g=>by obtain⟨i,j⟩:=f.o (g b (by simp));obtain⟨k,l⟩:=AI.h c i (λm n=>g m (by simp[n]));exact⟨k,l.trans j⟩
def AI.n{h}{f:bT h}{a}(g:AI f a)(c):AI f (a.y c)/\(a.y c).g=a.g:=by
 refine AI.h _ g λi j=>?_;have b:=XQ.1 j;cases e:a.bd[c]? with
 |none=>rw[e]at b;exact absurd b (Nat.not_lt_zero _)
 |some k=>
  rw[e]at b;exact(g.a.i (d:=k.ss[i]'b) (by rw[oh,e];exact Um b)).1
def AI.f{w}{h:bT w}(ar:w.n<=10)(au:∀av,h.dg av<=30){A}(D:AI h A){k a}(ab:A.fu[k]?=S a):
 (AI h (A.x k)/\(A.x k).g=A.g)/\(jt A->jt (A.x k)/\∃b d,(A.f k).w a.t a.f=b/\A.e a.t b=S d/\∀m i,(d.2.b (eK a.l))[m]?=S i->∃g,((((A.f k).a a.t b λe=>e.d (eK a.l)).d a.t b).n a.t b ((d.2.b (eK a.l)).take m)).c[a.t]?=S g/\g.aD=[]/\tT g b i/\(g.an.length:Int)<4000/\dC i/\g.ai.length<=100):=by
 unfold AN.x;rw[ab];have ac:=Uo ab;obtain⟨aw,ax,ay⟩:=D.a.a a ac;obtain⟨b,s,ad⟩:=h.pU _ _ ay;have f:=D.g k;have az:(A.f k).w a.t a.f=b:=by rw[<-ad];exact DO f.a s
 obtain⟨d,aR,j,aS,aT⟩:=f.a.c s;have x:A.e a.t b=S d:=j;have y:=vq x;have ae:=f.a.e a.t b d j;have af:=f.a.b a.t b d j;have E:=f.a.f a.t b d j;have ag:∀G,G∈(cz (A.f k)).io->G∈(cz A).io:=λG aA=>by obtain⟨ah,aB,e⟩:=Vb.1 aA;exact Vb.2 ⟨ah,Vx aB,e⟩
 obtain⟨H,K,ai,hF⟩:=D.b;have aC:∀c,eK a.l=S c->dx c:=λc n=>by
  cases aj:a.sp with
  |true=>rw[ax aj]at n;cases n
  |false=>
   obtain⟨z,ak,aD⟩:=aw aj;rw[aD,C5 ak]at n;cases n;exact ak
 obtain⟨M,O⟩:=Bs (f.a.d a.t b d j) (q:=eK a.l) aC;unfold AN.M AN.K;dsimp only;rw[az,j];have al:((AI h ((((A.f k).a a.t b λe=>e.d (eK a.l)).d a.t b).n a.t b (d.2.b (eK a.l)))/\((((A.f k).a a.t b λe=>e.d (eK a.l)).d a.t b).n a.t b (d.2.b (eK a.l))).g=A.g)/\(jt A->∀(m:Nat)(i:Fr.cF),(d.2.b (eK a.l))[m]?=S i->∃g,((((A.f k).a a.t b λe=>e.d (eK a.l)).d a.t b).n a.t b ((d.2.b (eK a.l)).take m)).c[a.t]?=S g/\g.aD=[]/\tT g b i/\(g.an.length:Int)<4000/\dC i/\g.ai.length<=100)):=by
  have an:jt A->jt (((A.f k).a a.t b λe=>e.d (eK a.l)).d a.t b):=λp=>tV p (by rw[uQ,tv];rfl);cases n:eK a.l with
  |none=>
   obtain⟨aE,ao,aF,aG⟩:=f.b;obtain⟨aH,aI,aJ,aK,aL⟩:=DM f.a j (λe=>e.d N) rfl aF;have aM:Fl h (cz (((A.f k).a a.t b λe=>e.d N).d a.t b)) ao 0 []:=aG.a (λa ah=>by rw[aL]);exact⟨⟨⟨aI,vw aJ f.c,aE,ao,aH,aM⟩,aK⟩,λ_ m i C=>by rw[show d.2.b N=[]from rfl]at C;simp at C⟩
  |some c=>
   have ap:(h.nb a.t b,a.t,S c)∈(cz A).io:=by rw[ad];exact Vb.2 ⟨a,ac,by rw[n]⟩
   rw[n]at M O an;cases r:c.b with
   |false=>
    have l:d.2.d (S c)=d.2.h c.a:=by show (if c.b then _ else _)=_;rw[r];rfl
    have Q:d.2.b (S c)=[]:=by show (if c.b then _ else _)=_;rw[r];rfl
    obtain⟨R,t,u⟩:=ID ae af E c.a;rw[Q];obtain⟨U,o,v,V,W,X⟩:=vp f.a j (λe=>e.d (S c)) (by rw[l];exact R) M (by rw[l];exact t) (by rw[l,u];exact E);rw[l]at o v;have:=ai.g s ap r U λY Z z aa=>by rw[y];exact(v Y Z z aa).imp_left (ag _)
    rw[y]at this;refine⟨⟨⟨V,vw W f.c,H,K,?_,Fl.b (A:=A) hF x o u⟩,X⟩,λ_ m i C=>by simp at C⟩;show fN w h (cz (((A.f k).a a.t b λe=>e.d (S c)).d a.t b)) H qM K;rw[o];exact this
   |true=>
    have l:d.2.d (S c)=d.2.i c.a c.m:=by show (if c.b then _ else _)=_;rw[r];rfl
    have Q:d.2.b (S c)=d.2.q c.a c.m:=by show (if c.b then _ else _)=_;rw[r];rfl
    obtain⟨R,t,u⟩:=IT ae c.a c.m;obtain⟨U,o,v,V,W,X⟩:=vp f.a j (λe=>e.d (S c)) (by rw[l];exact R) M (by rw[l,t];exact af) (by rw[l,t,u];exact E);rw[l]at o v;have aq:=ai.h s ap r U λY Z z aa=>by rw[y];exact(v Y Z z aa).imp_left (ag _)
    rw[y]at aq;have aN:fN w h (cz (((A.f k).a a.t b λe=>e.d (S c)).d a.t b)) H (am qM (h.nb a.t b) a.t (d.2.b (S c))) K:=by rw[o,Q];exact aq
    obtain⟨⟨aO,aP⟩,aQ⟩:=DN ar au s (d.2.b (S c)) (A:=((A.f k).a a.t b λe=>e.d (S c)).d a.t b) V (vw W f.c) aN (Fl.b (A:=A) hF x o (by show (d.2.i c.a c.m).aJ+(d.2.i c.a c.m).aI.length=_;rw[t,u])) O;exact⟨⟨aO,aP.trans X⟩,λp=>aQ (an p)⟩
 exact⟨al.1,λp=>⟨C0 _ (tV p (by rw[uQ,tv];rfl)) O,b,d,rfl,x,al.2 p⟩⟩
def JH{a}(c:jt a)(b):jt (a.y b):=by exact tV c (Gx b a _)
def Iq9{b}(c:∀a∈b,a<=1000):kU (ay.g b):=by refine⟨⟨UF _,λg d=>?_⟩,λh e=>by cases e⟩;obtain⟨a,f,rfl⟩:=Vb.1 d;exact c a f
def iq(a:E3):Ed:=⟨(a.a:Int),(a.b:Int),(a.w:Int)⟩
def Ah(a):∀d,cN a (d.map iq)=(iW a d).map iq
 |[]=>rfl
 |b::d=>by
  have e:=Ah a d;unfold cN iW at e|-;rw[WV,Vr,Vr];by_cases g:b.a=a\/b.b=a;have c:decide ((iq b).a=(a:Int)\/(iq b).b=(a:Int))=T:=U4 (by show (b.a:Int)=a\/(b.b:Int)=a;omega);have f:(b.a==a||b.b==a)=T:=by simp;omega
  rw[UG c,UG f,WV,e];have c:¬decide ((iq b).a=(a:Int)\/(iq b).b=(a:Int))=T:=λc=>by have h:(b.a:Int)=a\/(b.b:Int)=a:=WH c;omega
  have f:¬(b.a==a||b.b==a)=T:=by simp;omega
  rw[Us c,Us f,e]
def zU(b c a):(AN.i b c).bd[a]?=if a<b then S (mO c a)else N:=by unfold AN.i;grind
def DP{e c}(f:nB e c)(a d b)(g:(iW a c)[d]?=S b):(lX f).nb a d=lW a b:=by show (match (iW a c)[d]? with|some b=>lW a b|none=>0)=_;rw[g]
def zT{e b}(c:nB e b)(a d):(AN.i e (b.map iq)).e a d=if d<(lX c).dg a then S ((lX c).nb a d,En.e)else N:=by
 rw[oh,zU];have g:(lX c).dg a=(iW a b).length:=rfl;rw[g];by_cases h:a<e;rw[UG h];simp only[Option.bind_some,mO,Uz,Ah];by_cases f:d<(iW a b).length;rw[UG f,Um f];simp only[Wv,VO,VT,XU];rw[DP c a d _ (Um f)];unfold lW iq;dsimp only;omega;grind;have:(iW a b).length=0:=by rw[XC];apply Vp.2;intro i j;obtain⟨k,l⟩:=ue.1 j;have:=c.a i k;omega
 grind
def AI.l{h d}(f:nB h d)(n:∀(a:Nat)(g:AS),(AN.i h (d.map iq)).bd[a]?=S g->lg g.n):AI (lX f) (AN.i h (d.map iq)):=by
 have k:∀a b e,(AN.i h (d.map iq)).e a b=S e->e.2=En.e:=λa b e c=>by rw[zT f]at c;split at c;cases c;rfl;cases c
 have o:∀(a:Nat)(g:AS),(AN.i h (d.map iq)).bd[a]?=S g->g.n=ay.g (fZ (cN a (d.map iq))):=λa g i=>by rw[zU]at i;split at i;cases i;rfl;cases i
 refine⟨⟨λa b=>?_,(λp q=>by cases q),λa b e c=>?_,λa b e c=>?_,λa b e c=>?_,n,λa b e c=>?_⟩,λa g i=>?_,λ_ _=>[],λ_ _=>[],?_,λp b j=>⟨[],by rw[xv];rfl,λl=>(l rfl).elim⟩⟩;rw[zT f];split<;>rfl;rw[k a b e c];intro r m;simp[En.e]at m;rw[k a b e c];intro r m;simp[En.e]at m;rw[k a b e c];rfl;rw[k a b e c];show 0<=65536;omega;rw[o a g i];rfl;refine fN.l _ _ _ (λa=>?_) (λa b=>?_) rfl;unfold cz;dsimp only;rw[zU];have s:(lX f).dg a=(iW a d).length:=rfl;by_cases t:a<h;rw[UG t];show ay.g (fZ (cN a (d.map iq)))=_;congr 1;rw[Ah];apply Vc;intro b;unfold fZ;rw[Uz,Uz,Uz,s];by_cases j:b<(iW a d).length;rw[Xn j,Um j];simp only[Wv,VO];rw[DP f a b _ (Um j)];have:=(xH f (Vk j)).1;show (iq (iW a d)[b]).c.toNat=p9 d a (lW a (iW a d)[b]);rw[this];rfl;grind;have:(iW a d).length=0:=by rw[XC];apply Vp.2;intro l u;obtain⟨v,w⟩:=ue.1 u;have:=f.a l v;omega
 grind;unfold cz;dsimp only;rw[zT f];split;rename_i e c;split at c;cases c;rfl;cases c;rfl
def AI.e{h i}{b:nB h i}{c}(d:AI (lX b) c){a e}(f:e<(lX b).dg a):c.u a ((lX b).nb a e)=T↔((cz c).jg a).c e=1:=by obtain⟨m,n,o,p,g⟩:=d.a.c f;obtain⟨q,r,j,_⟩:=d.b;obtain⟨s,k,_⟩:=j.a;have l:=k.e a;rw[rO g]at l|-;unfold AN.u ay.c;rw[g];dsimp only;rw[DO d.a f,Um (by omega)];simp
def e3(a:Ed):E3:=⟨a.a.toNat,a.b.toNat,a.c.toNat⟩
end Go.Proofs.YtlfijfodklhplaaGreat.Ghs
