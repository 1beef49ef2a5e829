import Derived.Test.YtlfijfodklhplaaGreatAl18
import Derived.Deep.DeepCutAuto
set_option maxRecDepth 100000
set_option maxHeartbeats 2000000
set_option linter.all false
open Go.RowKit Go.Proofs.Tryz
open Go.Value renaming int->I,slice->L,pointer->P,bool->B
open Go.IntKind renaming i64->J
open Option renaming some->S,none->N
open Bool renaming true->T,false->F
namespace Go.Proofs.YtlfijfodklhplaaGreat
def wF(c)(a d:Nat)(b)(f:((a:Int) != 5)=T)(g:((a:Int) != 10)=T):
 Cr 81 #[L c a d] b (.tuple #[.agg (fc F 0 0 0 0 F),.int J 9]) λe=>ae aa b e:=by
 go_enter func81,ntmps81;go_wp2;exact UO (v:= .tuple #[.agg (fc F 0 0 0 0 F),I J 9]) (by simp[results,results81,go_sem]) rfl ⟨rfl,(ae.a _ _).b _⟩
def Ry(k q r e a b f g c)(l:fE c k q [e,a,b,f,g])(M:k<c.heap.size)(ao:5<=r)(m:∀O∈[e,a,b,f,g],O<256)(t:Fr.bi ⟨F,a*256+b,Fr.dq⟩=[e,a,b,f,g]):
 Cr 81 #[L (S ⟨k,q,N⟩) 5 r] c (.tuple #[.agg (fc F ((a:Int)*256+(b:Int)) 0 0 0 F),.int J 0]) λQ=>ae aa c Q:=by
 have R:=@af _ t;clear t;have ap:=m a (by simp);have ar:=m b (by simp);have n:=l 1 (by simp);have o:=l 2 (by simp);simp at n o;go_enter func81,ntmps81;go_wp2;go_region;have u:dx ⟨F,a*256+b,Fr.dq⟩:=⟨by show a*256+b<65536;omega,Up ⟨rfl,rfl⟩⟩
 have w:=@af _ u;clear u n o;go_wp2_with fail;have x:=tE ⟨F,a*256+b,Fr.dq⟩ w ((c.alloc (.cells (fc F 0 0 0 0 F) 78)).alloc (.cells (fc F ((a:Int)*256+(b:Int)) 0 0 0 F) 78)).drew;refine x.mono ?_;rintro h y ⟨U,V,rfl,W,au,z,p⟩;clear x;rw[show ee ⟨F,a*256+b,Fr.dq⟩=5 from rfl];have A:=((((ae.a aa c).b _).b _).drew).c p;have i:=(((aq.h (c.alloc (.cells (fc F 0 0 0 0 F) 78)) (fc F ((a:Int)*256+(b:Int)) 0 0 0 F) 78 (c.heap.size+1) (Uv _ _).symm)).drew).c p λh=>h;have d:=(((aq.e c (fc F 0 0 0 0 F) 78).g (.cells (fc F ((a:Int)*256+(b:Int)) 0 0 0 F) 78)).drew).c p λh=>h;have s:=l.a A M λh=>h;have X:=mM y U 0 V (Fr.bi ⟨F,a*256+b,Fr.dq⟩) (lI z);have Y:=mM y k q r [e,a,b,f,g] s;rw[lB,show ee ⟨F,a*256+b,Fr.dq⟩=5 from rfl]at X;rw[show [e,a,b,f,g].length=5 from rfl]at Y;have Z:=yf (Fr.bi ⟨F,a*256+b,Fr.dq⟩) [e,a,b,f,g] (qo _ w) m;generalize lA (Fr.bi ⟨F,a*256+b,Fr.dq⟩)=t1 at *;generalize lA [e,a,b,f,g]=t2 at *;have ab:=i.a 0;have n:=i.a 1;have o:=i.a 2;have ac:=i.a 3;have ad:=i.a 4;have ag:=i.a 5;have ah:=d.a 0;have ai:=d.a 1;have s:=d.a 2;have aj:=d.a 3;have ak:=d.a 4;have al:=d.a 5;have av:=λam=>d.d am;simp at ab n o ac ad ag ah ai s aj ak al;clear z l m p W;rw[U4 R]at Z;go_wp2;have j:=d.j F ((a:Int)*256+(b:Int)) 0 0 0 F;have an:=A.i c.heap.size (λaw=>by omega) F ((a:Int)*256+(b:Int)) 0 0 0 F;have C:=j.a 0;have D:=j.a 1;have E:=j.a 2;have G:=j.a 3;have H:=j.a 4;have K:=j.a 5;simp only[UN]at C D E G H K;exact UO (v:= .tuple #[.agg (fc F ((a:Int)*256+(b:Int)) 0 0 0 F),I J 0]) (by simp[results,results81,go_sem,C,D,E,G,H,K]) rfl ⟨rfl,an⟩
def Rx(k q r e a b f g c)(l:fE c k q [e,a,b,f,g])(M:k<c.heap.size)(ao:5<=r)(m:∀O∈[e,a,b,f,g],O<256)(t:¬Fr.bi ⟨F,a*256+b,Fr.dq⟩=[e,a,b,f,g]):
 Cr 81 #[L (S ⟨k,q,N⟩) 5 r] c (.tuple #[.agg (fc F 0 0 0 0 F),.int J 9]) λQ=>ae aa c Q:=by
 have R:=@af _ t;clear t;have ap:=m a (by simp);have ar:=m b (by simp);have n:=l 1 (by simp);have o:=l 2 (by simp);simp at n o;go_enter func81,ntmps81;go_wp2;go_region;have u:dx ⟨F,a*256+b,Fr.dq⟩:=⟨by show a*256+b<65536;omega,Up ⟨rfl,rfl⟩⟩
 have w:=@af _ u;clear u n o;go_wp2_with fail;have x:=tE ⟨F,a*256+b,Fr.dq⟩ w ((c.alloc (.cells (fc F 0 0 0 0 F) 78)).alloc (.cells (fc F ((a:Int)*256+(b:Int)) 0 0 0 F) 78)).drew;refine x.mono ?_;rintro h y ⟨U,V,rfl,W,au,z,p⟩;clear x;rw[show ee ⟨F,a*256+b,Fr.dq⟩=5 from rfl];have A:=((((ae.a aa c).b _).b _).drew).c p;have i:=(((aq.h (c.alloc (.cells (fc F 0 0 0 0 F) 78)) (fc F ((a:Int)*256+(b:Int)) 0 0 0 F) 78 (c.heap.size+1) (Uv _ _).symm)).drew).c p λh=>h;have d:=(((aq.e c (fc F 0 0 0 0 F) 78).g (.cells (fc F ((a:Int)*256+(b:Int)) 0 0 0 F) 78)).drew).c p λh=>h;have s:=l.a A M λh=>h;have X:=mM y U 0 V (Fr.bi ⟨F,a*256+b,Fr.dq⟩) (lI z);have Y:=mM y k q r [e,a,b,f,g] s;rw[lB,show ee ⟨F,a*256+b,Fr.dq⟩=5 from rfl]at X;rw[show [e,a,b,f,g].length=5 from rfl]at Y;have Z:=yf (Fr.bi ⟨F,a*256+b,Fr.dq⟩) [e,a,b,f,g] (qo _ w) m;generalize lA (Fr.bi ⟨F,a*256+b,Fr.dq⟩)=t1 at *;generalize lA [e,a,b,f,g]=t2 at *;have ab:=i.a 0;have n:=i.a 1;have o:=i.a 2;have ac:=i.a 3;have ad:=i.a 4;have ag:=i.a 5;have ah:=d.a 0;have ai:=d.a 1;have s:=d.a 2;have aj:=d.a 3;have ak:=d.a 4;have al:=d.a 5;have av:=λam=>d.d am;simp at ab n o ac ad ag ah ai s aj ak al;clear z l m p W;rw[U7 R]at Z;go_wp2;have j:=d.j F 0 0 0 0 F;have an:=A.i c.heap.size (λaw=>by omega) F 0 0 0 0 F;have C:=j.a 0;have D:=j.a 1;have E:=j.a 2;have G:=j.a 3;have H:=j.a 4;have K:=j.a 5;simp only[UN]at C D E G H K;exact UO (v:= .tuple #[.agg (fc F 0 0 0 0 F),I J 9]) (by simp[results,results81,go_sem,C,D,E,G,H,K]) rfl ⟨rfl,an⟩
structure Rf where
 cD:List Fr.cF
 eu:Nat
 dI:Nat
 bu:Nat
 cw:List (Nat×Fr.cF)
 bD:List Fr.ff
def Rf.b:Rf:=⟨[],0,0,0,[],[]⟩
structure Rp where
 sa:Option Addr
 sc:Nat
 ka:Option Addr
 kc:Nat
 fa:Option Addr
 fc:Nat
 gs:List (Nat×Nat)
def Rp.a:Rp:=⟨N,0,N,0,N,0,[]⟩
def qr(a:Nat×Fr.cF):List Value:=I J (a.1:Int)::dy a.2
def fB(a:List (Nat×Fr.cF)):List Value:=a.flatMap qr
def lN(a:Nat×Nat)(b:Fr.ff):Value:=L (S ⟨a.1,0,N⟩) (ee b) a.2
def pI(a:List (Nat×Nat))(b:List Fr.ff):List Value:=List.zipWith lN a b
def fJ(a:Rf)(b:Rp):Array Value:= #[L b.sa a.cD.length b.sc,I J (a.eu:Int),I J (a.dI:Int),I J (a.bu:Int),L b.ka a.cw.length b.kc,L b.fa a.bD.length b.fc]
def mI(b:Nat)(a:Rp)(k:Nat):Prop:=k=b\/ag a.sa k\/ag a.ka k\/ag a.fa k
def hJ(b:Nat)(a:Rp)(k:Nat):Prop:=mI b a k\/∃c,(k,c)∈a.gs
structure cV(r:World)(s:Nat)(b:Rf)(a:Rp):Prop where
 cG:aq r s (fJ b a) 150
 pw:RV r 76 4 a.sa b.cD.length a.sc (cH b.cD)
 nI:RV r 283 5 a.ka b.cw.length a.kc (fB b.cw)
 oF:RV r 56 1 a.fa b.bD.length a.fc (pI a.gs b.bD)
 e:a.gs.length=b.bD.length
 oE:∀(v:Nat)(u:Nat×Nat)(t:Fr.ff),a.gs[v]?=S u->b.bD[v]?=S t->gp r u.1 (Fr.bi t) u.2/\ee t<=u.2
 h:¬ag a.sa s
 f:¬ag a.ka s
 d:¬ag a.fa s
 n:∀k,ag a.sa k->¬ag a.ka k
 m:∀k,ag a.sa k->¬ag a.fa k
 l:∀k,ag a.ka k->¬ag a.fa k
 c:∀k w,(k,w)∈a.gs->¬mI s a k
 o:∀x∈b.cD,dC x
 g:b.cD.length<=65536
 i:b.dI<=b.cD.length
 j:b.eu<=b.dI
 p:∀t∈b.bD,dx t
 q:(a.gs.map (·.1)).Nodup
def cV.a{h i w' f j g}(c:cV i f j g)(k:ae h i w')(d:∀e,hJ f g e->¬h e):cV w' f j g:=
 {c with cG:=c.cG.c k (d f (Ur (Ur rfl))),pw:=c.pw.a k λa b=>d a (Ur (Up (Ur b))),nI:=c.nI.a k λa b=>d a (Ur (Up (Up (Ur b)))),oF:=c.oF.a k λa b=>d a (Ur (Up (Up (Up b)))),oE:=λe a l b m=>⟨(c.oE e a l b m).1.a k (d a.1 (Up ⟨a.2,Uo b⟩)),(c.oE e a l b m).2⟩}
def cV.b{g h e f}(b:cV g h e f):∀c,hJ h f c->c<g.heap.size:=by
 rintro c ((rfl|a|a|a)|⟨k,a⟩);exact b.cG.b;exact b.pw.b c a;exact b.nI.b c a;exact b.oF.b c a;obtain⟨d,i,l⟩:=U3 a;have j:d<e.bD.length:=by have:=b.e;omega
 have:=(b.oE d f.gs[d] e.bD[d] (Um i) (Um j)).1.b;grind
structure fR(c w':World)(d:Nat)(g h:Rp):Prop where
 e:∀a,mI d h a->mI d g a\/c.heap.size<=a
 f:∀a i,(a,i)∈h.gs->(∃j,(a,j)∈g.gs)\/c.heap.size<=a
 b:ae (mI d g) c w'
def fR.g(b d c):fR b b d c c:=⟨λ_ a=>Ur a,λ_ e a=>Ur ⟨e,a⟩,ae.a _ _⟩
def fR.c{b w1}(d c)(a:ae aa b w1):fR b w1 d c c:=⟨λ_ a=>Ur a,λ_ e a=>Ur ⟨e,a⟩,a.d λ_ _ f=>f.elim⟩
def fR.a{f w1 g e h i j}(c:fR f w1 e h i)(k:fR w1 g e i j):fR f g e h j:=
 ⟨λb d=>(k.e b d).elim (λa=>c.e b a) λa=>Up (UM c.b.size a),λb l d=>(k.f b l d).elim (λ⟨m,a⟩=>c.f b m a) λa=>Up (UM c.b.size a),c.b.g k.b λb d a=>(c.e b a).elim id λn=>by omega⟩
def fR.d{d w' c e f}(g:fR d w' c e f):∀a,hJ c f a->hJ c e a\/d.heap.size<=a:=λa b=>by obtain b|⟨h,b⟩:=b;exact(g.e a b).imp Ur id;exact(g.f a h b).imp Up id
def cV.s{e c b e' p}(a:cV e c b p)(f h)(n:(fJ b p).setIfInBounds f h=fJ e' p)(j:e'.cD=b.cD)(o:e'.cw=b.cw)(k:e'.bD=b.bD)(q:e'.dI<=b.cD.length)(r:e'.eu<=e'.dI):
 cV (e.setCell ⟨c,f,N⟩ h) c e' p/\fR e (e.setCell ⟨c,f,N⟩ h) c p p:=by
 have i:ae (ap c) e (e.setCell ⟨c,f,N⟩ h):=(ae.a (ap c) e).e (p:=⟨c,f,N⟩) (λ_=>rfl) _;refine⟨⟨?_,?_,?_,?_,by rw[k];exact a.e,?_,a.h,a.f,a.d,a.n,a.m,a.l,a.c,by rw[j];exact a.o,by rw[j];exact a.g,by rw[j];exact q,r,by rw[k];exact a.p,a.q⟩,⟨λ_ l=>Ur l,λ_ s l=>Ur ⟨s,l⟩,i.d λf _ b=>Ur b⟩⟩;rw[<-n];exact a.cG.f f h;rw[j];exact a.pw.a i λg d b=>a.h (b▸d);rw[o];exact a.nI.a i λg d b=>a.f (b▸d);rw[k];exact a.oF.a i λg d b=>a.d (b▸d);intro t g u d m;rw[k]at m;have:=a.oE t g u d m;exact⟨this.1.a i λb=>a.c g.1 g.2 (Uo d) (Ur b),this.2⟩
def Sh(a b)(e:a.length=b.length)(c d):pI (a++[c]) (b++[d])=pI a b++[lN c d]:=by simp[pI,List.zipWith_append e]
def cV.w{l w1 f d p}(c:cV l f d p)(m g)(X:dx m)(y:gp l g.1 (Fr.bi m) g.2)(H:ee m<=g.2)(u:¬hJ f p g.1)(a' c')(K:RV w1 56 1 a' (d.bD.length+1) c' (pI p.gs d.bD++[lN g m]))(n:∀a,ag a' a->ag p.fa a\/l.heap.size<=a)(v:ae (ag p.fa) l w1):
 cV (w1.setCell ⟨f,5,N⟩ (L a' (d.bD.length+1) c')) f {d with bD:=d.bD++[m]} {p with fa:=a',fc:=c',gs:=p.gs++[g]}:=by
 have w:ae (ap f) w1 (w1.setCell ⟨f,5,N⟩ (L a' (d.bD.length+1) c')):=(ae.a (ap f) w1).e (p:=⟨f,5,N⟩) (λ_=>rfl) _;have Y:=c.cG.b;have z:∀a,ag a' a->a≠f:=λa j d=>(n a j).elim (λb=>c.d (d▸b)) (λb=>by omega);have M:∀a,ag a' a->¬ag p.sa a:=λa j d=>(n a j).elim (λb=>c.m a d b) (λb=>by have:=c.pw.b a d;omega);have O:∀a,ag a' a->¬ag p.ka a:=λa j d=>(n a j).elim (λb=>c.l a d b) (λb=>by have:=c.nI.b a d;omega);refine⟨?_,?_,?_,?_,by simp[c.e],?_,c.h,c.f,λb=>z f b rfl,c.n,λa b e=>M a e b,λa b e=>O a e b,?_,c.o,c.g,c.i,c.j,?_,?_⟩;have:=(c.cG.c v c.d).f 5 (L a' (d.bD.length+1) c');have o:(fJ d p).setIfInBounds 5 (L a' (d.bD.length+1) c')=fJ {d with bD:=d.bD++[m]} {p with fa:=a',fc:=c',gs:=p.gs++[g]}:=by simp[fJ]
 grind;exact(c.pw.a v λa b e=>c.m a b e).a w λa b e=>c.h (e▸b);exact(c.nI.a v λa b e=>c.l a b e).a w λa b e=>c.f (e▸b);rw[Sh _ _ c.e,Uu];exact K.a w λa b=>z a b;intro k q r h i;have A:∀a s,gp l a (Fr.bi r) s->¬ag p.fa a->a≠f->gp (w1.setCell ⟨f,5,N⟩ (L a' (d.bD.length+1) c')) a (Fr.bi r) s:=λa s x t C=>(x.a v t).a w C;by_cases Q:k<p.gs.length;have D:k<d.bD.length:=by have:=c.e;omega
 rw[Ux Q]at h;rw[Ux D]at i;have E:=c.c q.1 q.2 (Uo h);exact⟨A q.1 q.2 (c.oE k q r h i).1 (λb=>E (Up (Up (Up b)))) λb=>E (Ur b),(c.oE k q r h i).2⟩;have D:¬k<d.bD.length:=by have:=c.e;omega
 rw[Ut (by omega)]at h i;have R:k-p.gs.length=0:=by have:=(Ul.1 h).1;simp at this;omega
 have o:k-d.bD.length=0:=by have:=c.e;omega
 rw[R]at h;rw[o]at i;simp at h i;subst h i;exact⟨A g.1 g.2 y (λb=>u (Ur (Up (Up (Up b))))) λb=>u (Ur (Ur b)),H⟩;intro a s j;have G:∀a,¬mI f p a->a<l.heap.size->¬mI f {p with fa:=a',fc:=c',gs:=p.gs++[g]} a:=by intro a t C U;obtain b|b|b|b:=U;exact t (Ur b);exact t (Up (Ur b));exact t (Up (Up (Ur b)));obtain e|e:=n a b;exact t (Up (Up (Up e)));omega
 obtain b|b:=UP.1 j;exact G a (c.c a s b) (c.b a (Up ⟨s,b⟩));simp at b;have o:a=g.1:=by rw[<-b]
 rw[o];exact G g.1 (λe=>u (Ur e)) y.b;intro r i;obtain b|b:=UP.1 i;exact c.p r b;grind;rw[Vm];refine Wb.2 ⟨c.q,by simp,λZ n f x d=>?_⟩;simp at x;subst x;obtain⟨V,W,o⟩:=Vb.1 n;exact u (Up ⟨V.2,by rw[<-d,<-o];exact W⟩)
def y7(d a p e)(s:dx e)(i)(o:cV i d a p)(M:(a.bD.length:Int)<5864062014000):
 Cr 134 #[P (S ⟨d,0,N⟩),.agg (fv e)] i (.tuple #[]) λt=>∃g,cV t d {a with bD:=a.bD++[e]} g/\fR i t d p g/\g.sa=p.sa/\g.sc=p.sc/\g.ka=p.ka/\g.kc=p.kc:=by
 have O:=o.cG.b;go_enter func134,ntmps134;go_wp2_with fail;refine(tE e ((@af _ s) ()) _).mono ?_;rintro Q l ⟨j,m,rfl,y,z,A,C⟩;have q:=((ae.a aa i).b _).c C;have h:=((@af _ o) ()).a q λ_ _ b=>b;have R:=q.size;simp only[Uv]at y;have u:=h.cG.a 5;simp[fJ]at u;have v:=@aC _ _ A z;go_wp2_with (at_builtin;refine wO _ rfl (.tmp 15) (.tmp 17) 105 rfl 56 (L N 0 0) 1 24 underlying105 F4 rfl p.fa a.bD.length p.fc rfl (pI p.gs a.bD) (h.oF.c _) ⟨l.heap.size,0,N⟩ 1 1 (by omega) rfl [lN (j,m) e] rfl (ke l [lN (j,m) e] 56 _ rfl) (by simp[lN,Value.oneCell']) (by omega) (by omega) ?_;intro r w D E x G;have n:ae (ag p.fa) l D:=((ae.a _ l).b _).c G;have U:=(n.f d 5 (by omega) h.d).trans u;have V:=(n.h d 5 (by omega) h.d).trans (h.cG.d 5));go_end0;refine⟨rfl, {p with fa:=r,fc:=w,gs:=p.gs++[(j,m)]},?_,?_,rfl,rfl,rfl,rfl⟩;exact((@af _ h) ()).w e (j,m) ((@af _ s) ()) v.1 v.2 (λb=>by have:=((@af _ o) ()).b j b;omega) r w E (λc f=>(x c f).imp id λa=>by rw[a];simp) n;have H:∀c,ag r c->ag p.fa c\/i.heap.size<=c:=λc f=>(x c f).imp id (λa=>by rw[a];simp;omega);refine⟨λc f=>?_,λc K f=>?_,?_⟩;obtain b|b|b|b:=f;exact Ur (Ur b);exact Ur (Up (Ur b));exact Ur (Up (Up (Ur b)));exact(H c b).imp (λk=>Up (Up (Up k))) id;obtain k|k:=UP.1 f;exact Ur ⟨K,k⟩;simp at k;exact Up (by omega);exact((q.d (ex':=mI d p) λ_ _ a=>a.elim).c (n.d λ_ _ a=>Up (Up (Up a)))).e (p:=⟨d,5,N⟩) (λ_=>Ur rfl) _
def Rf.a(a:Rf)(t:Nat):Rf:= {a with dI:=t,bD:=a.bD++En.gU a.dI ((a.cD.take t).drop a.dI)}
def Sw(a:Rf):a.a a.dI=a:=by unfold Rf.a;rw[U6 (by simp;omega)];simp[En.gU]
def Hw(a:Rf)(t b)(d:a.dI<=t)(c:a.cD[t]?=S b):a.a (t+1)= {a.a t with dI:=t+1,bD:=(a.a t).bD++[⟨T,t,b⟩]}:=by have e:=(Ul.1 c).1;unfold Rf.a;simp only[Rf.mk.injEq,XT];rw[Vz,c,VF (by simp;omega),Bh,<-UJ];simp[En.gU,U5,UK];omega
def cV.v{c n h i}(o:cV c n h i)(t d)(j:h.cD[t]?=S d):∃a b,i.sa=S ⟨a,b,N⟩/\a<c.heap.size/\c.cell? ⟨a,b+t*4,N⟩=S (.int J d.a)/\c.cell? ⟨a,b+t*4+1,N⟩=S (.int J d.c)/\c.cell? ⟨a,b+t*4+2,N⟩=S (.int J d.b)/\c.cell? ⟨a,b+t*4+3,N⟩=S (B d.d):=by
 obtain⟨_,k,_⟩|⟨a,b,k,l⟩:=o.pw.2.2;have:=(Ul.1 j).1;omega;have f:∀e g,(dy d)[e]?=S g->c.cell? ⟨a,b+t*4+e,N⟩=S g:=λe g m=>by
  have p:e<4:=by have:=(Ul.1 m).1;simpa [dy]using this
  have:=l.a (t*4+e) g (by rw[yJ h.cD t d j e p];exact m);rw[<-UI]at this;exact this
 exact⟨a,b,k,l.b,f 0 _ rfl,f 1 _ rfl,f 2 _ rfl,f 3 _ rfl⟩
def B3(c):Cr 42 #[] c (P (S ⟨c.heap.size,0,N⟩)) λd=>cV d c.heap.size Rf.b Rp.a/\ae aa c d:=by go_enter func42,ntmps42;go_wp2;go_ret;refine⟨rfl,⟨aq.e _ _ _,RV.d _ _ _,RV.d _ _ _,RV.d _ _ _,rfl,λg h e f=>by simp[Rp.a]at f,b8 _,b8 _,b8 _,λb a=>(b8 b a).elim,λb a=>(b8 b a).elim,λb a=>(b8 b a).elim,λb i a=>by simp[Rp.a]at a,λj a=>by simp[Rf.b]at a,by simp[Rf.b],by simp[Rf.b],by simp[Rf.b],λe a=>by simp[Rf.b]at a,Wz⟩,(ae.a aa c).b _⟩
def Rf.d(a:Rf):Rf:= {a with bD:=[]}
def cV.x{d b e p}(a:cV d b e p):cV (d.setCell ⟨b,5,N⟩ (L N 0 0)) b e.d {p with fa:=N,fc:=0,gs:=[]}:=by
 have h:ae (ap b) d (d.setCell ⟨b,5,N⟩ (L N 0 0)):=(ae.a (ap b) d).e (p:=⟨b,5,N⟩) (λ_=>rfl) _;refine⟨?_,a.pw.a h λc f g=>a.h (g▸f),a.nI.a h λc f g=>a.f (g▸f),RV.d _ _ _,rfl,λn o i j=>by simp at j,a.h,a.f,b8 _,a.n,λc _=>b8 c,λc _=>b8 c,λc q k=>by simp at k,a.o,a.g,a.i,a.j,λi l=>by simp[Rf.d]at l,Wz⟩;have:=a.cG.f 5 (L N 0 0);have m:(fJ e p).setIfInBounds 5 (L N 0 0)=fJ e.d {p with fa:=N,fc:=0,gs:=[]}:=by simp[fJ,Rf.d]
 rwa [m]at this
def G5(a d p b)(c:cV b a d p):
 Cr 135 #[P (S ⟨a,0,N⟩)] b (L p.fa d.bD.length p.fc) λe=>cV e a d.d {p with fa:=N,fc:=0,gs:=[]}/\ae (ap a) b e:=by
 have f:=c.cG.a 5;simp[fJ]at f;have h:=c.cG.d 5;have g:=@af _ c;clear c;go_enter func135,ntmps135;go_wp2;go_ret;exact⟨rfl,g.x,(ae.a (ap a) b).e (p:=⟨a,5,N⟩) (λ_=>rfl) _⟩
def BH(a:World)(b c:Nat):Nat:=match a.cell? ⟨b,c,N⟩with|some (.int _ d)=>d.toNat|_=>0
def Gm{a b c n}(d:a.cell? ⟨b,c,N⟩=S (.int J n)):BH a b c=n:=by unfold BH;rw[d];simp
def G9(c a f o)(V:cV o c a f)(W:(a.bD.length:Int)<5864061014000):
 Cr 130 #[P (S ⟨c,0,N⟩)] o (.tuple #[]) λp=>∃g,cV p c (a.a (max a.dI (min a.cD.length (a.eu+4)))) g/\fR o p c f g/\g.ka=f.ka/\g.kc=f.kc:=by
 have j:=@af _ V;have aq:=@af _ W;clear V W;obtain⟨q,D⟩:=ah (max a.dI (min a.cD.length (a.eu+4)));rw[<-D];have y:=@af _ D;clear D;go_enter func130,ntmps130;go_wp2_with fail;go_loopw [] (λwr=>∃(b:Nat)(e:Rp),a.dI<=b/\b<=q/\cV wr c (a.a b) e/\fR o wr c f e/\e.ka=f.ka/\e.kc=f.kc) λwr=>q-BH wr c 2;case atStart=>exact⟨a.dI,f,UF _,by have:=y;omega,by rw[Sw];exact j,fR.g _ _ _,rfl,rfl⟩
 case round=>
  obtain⟨b,e,X,Y,k,Z,ab,ac⟩:=hrel;have r:=k.cG.a 0;have z:=k.cG.a 1;have l:=k.cG.a 2;have ad:=k.cG.d 2;simp[fJ,Rf.a]at r z l;have s:=k.cG.b;have d:=@nh _ _ _ _ _ _ k Z ab ac X Y;have aw:(a.cD.length:Int)<=65536:=by have:=j.g;omega
  have ax:(a.eu:Int)<=65536:=by have:=j.g;have:=j.i;have:=j.j;omega
  clear k Z ab ac X Y;by_cases E:b<a.cD.length;have ar:(b:Int)<a.cD.length:=by omega
  by_cases ay:b<a.eu+4
  .have au:(b:Int)<a.eu+4:=by omega
   have ag(_:=()):b+1<=q:=by have:=y;omega
   obtain⟨h,G⟩:∃h,a.cD[b]?=S h:=⟨_,Um E⟩
   obtain⟨A,az,ai,m,H,K,M,O⟩:=d.1.v b h G;rw[ai]at r;have Q:=@af _ G;clear ai G;go_wp2_with fail;go_quiet (fail);go_wp2_with fail;obtain⟨t,C⟩:=ah (wr.drewN nq);have aj(_:=()):ae aa wr t.drew:=by rw[C];exact((ae.a aa wr).drewN nq).drew
   have i:ae aa wr t:=by rw[C];exact(ae.a aa wr).drewN nq
   rw[<-C];replace r:=(i.f c 0 s λa=>a).trans r;replace z:=(i.f c 1 s λa=>a).trans z;replace l:=(i.f c 2 s λa=>a).trans l;replace H:=(i.f A _ m λa=>a).trans H;replace K:=(i.f A _ m λa=>a).trans K;replace M:=(i.f A _ m λa=>a).trans M;replace O:=(i.f A _ m λa=>a).trans O;have aA:=Un s i.size;have aB:=Un m i.size;clear C i s m ad;have ak:dx ⟨T,b,h⟩:=by have E:=j.o h (Uo Q);exact⟨by simp only;omega,Ur ⟨rfl,E⟩⟩
   have al(_:=()):Cr 134 #[P (S ⟨c,0,N⟩),.agg (fv ⟨T,b,h⟩)] t.drew (.tuple #[]) λp=>∃g,cV p c {a.a b with bD:=(a.a b).bD++[⟨T,b,h⟩]} g/\fR t.drew p c e g/\g.sa=e.sa/\g.sc=e.sc/\g.ka=e.ka/\g.kc=e.kc:=
    y7 c (a.a b) e ⟨T,b,h⟩ ak t.drew (d.1.a aj λ_ _ u=>u) (by have:=aq;have aC:=j.g;simp only[Rf.a,Uu,uF,U5,UK];omega)
   clear ak;go_still_tail 16,(by kernel_rfl)
   go_wp2_with fail;refine Uq al ?_;rintro aD am ⟨rfl,v,w,an,_,_,ao,ap⟩;clear r z l H K M O;have l:=w.cG.a 2;have ad:=w.cG.d 2;simp[fJ,Rf.a]at l;have aE:=w.cG.b;have R:=w.s (e':=a.a (b+1)) 2 (I J ((b:Int)+1)) (by rw[Hw a b h d.2.2.2.2.1 Q];simp[fJ]) (by rfl) (by rfl) (by rw[Hw a b h d.2.2.2.2.1 Q]) (by show b+1<=a.cD.length;omega) (by show a.eu<=b+1;have:=j.j;have:=d.2.2.2.2.1;omega);have x(_:=()):cV (am.setCell ⟨c,2,N⟩ (I J ((b:Int)+1))) c (a.a (b+1)) v/\fR o (am.setCell ⟨c,2,N⟩ (I J ((b:Int)+1))) c f v/\v.ka=f.ka/\v.kc=f.kc:=
    ⟨R.1,((d.2.1.a (fR.c c e aj)).a an).a R.2,ao.trans d.2.2.1,ap.trans d.2.2.2.1⟩
   have av(_:=()):wr.cell? ⟨c,2,N⟩=S (I J b):=d.1.cG.a 2;clear R w an ao ap al;have aF:(b:Int)<65536:=by omega
   go_wp2;go_roundw;case rel=>exact⟨b+1,v,by have:=d.2.2.2.2.1;omega,ag,x.1,x.2.1,x.2.2.1,x.2.2.2⟩
   case measure=>
    rw[Gm av,Gm (n:=b+1) (x.1.cG.a 2)];have:=ag;omega
  .have au:(a.eu:Int)+4<=(b:Int):=by omega
   have U(_:=()):b=q:=by have:=y;have:=d.2.2.2.2.2;have:=d.2.2.2.2.1;omega
   go_wp2_with fail;go_quiet (fail);go_wp2;go_end0;refine⟨rfl,e,?_,d.2.1.a (fR.c c e ((ae.a aa wr).drewN nq)),d.2.2.1,d.2.2.2.1⟩;have:=d.1.a ((ae.a aa wr).drewN nq) λ_ _ u=>u;rwa [U]at this
  .have ar:(a.cD.length:Int)<=b:=by omega
   have U(_:=()):b=q:=by have:=y;have:=d.2.2.2.2.2;have:=d.2.2.2.2.1;omega
   go_wp2_with fail;go_quiet (fail);go_wp2;go_end0;refine⟨rfl,e,?_,d.2.1.a (fR.c c e ((ae.a aa wr).drewN nq)),d.2.2.1,d.2.2.2.1⟩;have:=d.1.a ((ae.a aa wr).drewN nq) λ_ _ u=>u;rwa [U]at this
def Rf.c(a:Rf)(t:Nat):Rf:= {a with bD:=a.bD++En.gU a.eu ((a.cD.take t).drop a.eu)}
def Ks(a:Rf):a.c a.eu=a:=by unfold Rf.c;rw[U6 (by simp;omega)];simp[En.gU]
def Kr(a:Rf)(t b)(d:a.eu<=t)(c:a.cD[t]?=S b):a.c (t+1)= {a.c t with bD:=(a.c t).bD++[⟨T,t,b⟩]}:=by have e:=(Ul.1 c).1;unfold Rf.c;simp only[Rf.mk.injEq,XT];rw[Vz,c,VF (by simp;omega),Bh,<-UJ];simp[En.gU,U5,UK];omega
def Ha(c a k l)(m:cV l c a k)(r:(a.bD.length:Int)<5864061014000):
 Cr 88 #[P (S ⟨c,0,N⟩)] l (.tuple #[]) λi=>∃e,cV i c (a.c a.dI) e/\fR l i c k e:=by
 have g:=@af _ m;have G:=@af _ r;have s:=m.cG.a 1;simp[fJ]at s;have H:=m.cG.b;clear m r;go_enter func88,ntmps88;go_wp2_with fail;clear s H;go_loopw [2] (λn wr=>∃(b:Nat)(d:Rp),a.eu<=b/\b<=a.dI/\n= .int J b/\cV wr c (a.c b) d/\fR l wr c k d) λn _=>a.dI-(intOf n).toNat;case atStart=>exact⟨a.eu,k,UF _,g.j,rfl,by rw[Ks];exact g,fR.g _ _ _⟩
 case round=>
  obtain⟨b,d,t,K,rfl,j,u⟩:=hrel;have o:=j.cG.a 0;have v:=j.cG.a 2;simp[fJ,Rf.c]at o v;have X:=j.cG.b;have h:=@lP _ _ _ _ _ j u t K (g.i);have Y:(a.cD.length:Int)<=65536:=by have:=g.g;omega
  have Z:(a.dI:Int)<=a.cD.length:=by have:=g.i;omega
  clear j u t;by_cases w:b<a.dI
  .have M:(b:Int)<a.dI:=by omega
   have aa:(b:Int)<a.cD.length:=by omega
   obtain⟨f,p⟩:∃f,a.cD[b]?=S f:=⟨_,Um (by omega)⟩
   obtain⟨ab,ac,x,ad,O,Q,R,U⟩:=h.1.v b f p;rw[x]at o;have y:=@af _ p;clear x p;have z:dx ⟨T,b,f⟩:=by have w:=g.o f (Uo y);exact⟨by simp only;omega,Ur ⟨rfl,w⟩⟩
   have A(_:=()):Cr 134 #[P (S ⟨c,0,N⟩),.agg (fv ⟨T,b,f⟩)] wr (.tuple #[]) λi=>∃e,cV i c {a.c b with bD:=(a.c b).bD++[⟨T,b,f⟩]} e/\fR wr i c d e/\e.sa=d.sa/\e.sc=d.sc/\e.ka=d.ka/\e.kc=d.kc:=
    y7 c (a.c b) d ⟨T,b,f⟩ z wr h.1 (by have:=G;have ae:=g.g;simp only[Rf.c,Uu,uF,U5,UK];omega)
   clear z;go_wp2_with fail;refine Uq A ?_;rintro ag ah ⟨rfl,V,q,C,_⟩;rw[<-Kr a b f h.2.2.1 y]at q;have D:=@aC _ _ q (h.2.1.a C);clear q C A o v O Q R U;go_wp2;go_roundw;case rel=>exact⟨b+1,V,by have:=h;omega,by omega,by go_num,D.1,D.2⟩
   case measure=>simp[intOf];omega
  .have M:(a.dI:Int)<=b:=by omega
   have E:b=a.dI:=by omega
   have W:=@af _ E;clear E;go_wp2;go_end0;refine⟨rfl,d,?_,h.2.1⟩;have:=h.1;rwa [W]at this
def G7(h k b c d)(f:bJ k b c d=F)(a):
 Cr 85 #[P (S ⟨h,0,N⟩),.agg #[.int J k,.int J b,.int J c,B d]] a (.int J 10) λe=>ae aa a e:=by
 have i(_:=()):∀a,Cr 125 #[.agg #[I J k,I J b,I J c,B d]] a (B F) λe=>ae aa a e:=λa=>by have:=pF k b c d a;rwa [f]at this
 clear f;go_enter func85,ntmps85;go_wp2_with fail;refine(i () _).mono ?_;rintro l m ⟨rfl,g⟩;have j:=@af _ (((ae.a aa a).b _).c g);clear g;go_wp2;go_ret;exact⟨rfl,j⟩
def G6(h c l b)(i:dC b)(a)(d:cV a h c l)(m:c.cD.length=65536):
 Cr 85 #[P (S ⟨h,0,N⟩),mv b] a (.int J 1) λe=>ae aa a e:=by
 have n(_:=()):∀a,Cr 125 #[mv b] a (B T) λe=>ae aa a e:=λa=>by have:=pF (b.a:Int) (b.c:Int) (b.b:Int) b.d a;rwa [i.2.2.2]at this
 have j:=@af _ d;have p:(c.cD.length:Int)=65536:=by omega
 have q:=d.cG.b;clear i d m;go_enter func85,ntmps85;go_wp2_with fail;refine(n () _).mono ?_;rintro r s ⟨rfl,k⟩;have f:=@af _ (((ae.a aa a).b _).c k);clear k;have o:=(j.a f λ_ _ g=>g).cG.a 0;simp[fJ]at o;have t:=(j.a f λ_ _ g=>g).cG.b;go_wp2;go_ret;exact⟨rfl,f⟩
def Rf.f(a:Rf)(b:Fr.cF):Rf:= {a with cD:=a.cD++[b]}
def cV.y{k w1 f c p}(d:cV k f c p)(g)(u:dC g)(H:c.cD.length<65536)(a' c')(v:RV w1 76 4 a' (c.cD.length+1) c' (cH c.cD++dy g))(i:∀b,ag a' b->ag p.sa b\/k.heap.size<=b)(j:ae (ag p.sa) k w1):
 cV (w1.setCell ⟨f,0,N⟩ (L a' (c.cD.length+1) c')) f (c.f g) {p with sa:=a',sc:=c'}/\fR k (w1.setCell ⟨f,0,N⟩ (L a' (c.cD.length+1) c')) f p {p with sa:=a',sc:=c'}:=by
 have l:ae (ap f) w1 (w1.setCell ⟨f,0,N⟩ (L a' (c.cD.length+1) c')):=(ae.a (ap f) w1).e (p:=⟨f,0,N⟩) (λ_=>rfl) _;have w:=d.b;have K:=d.cG.b;have q:∀b,ag a' b->b≠f:=λb h c=>(i b h).elim (λa=>d.h (c▸a)) (λa=>by omega);have x:∀b,ag a' b->¬ag p.ka b:=λb h c=>(i b h).elim (λa=>d.n b a c) (λa=>by have:=d.nI.b b c;omega);have y:∀b,ag a' b->¬ag p.fa b:=λb h c=>(i b h).elim (λa=>d.m b a c) (λa=>by have:=d.oF.b b c;omega);refine⟨⟨?_,?_,?_,?_,d.e,?_,λa=>q f a rfl,d.f,d.d,x,y,d.l,?_,?_,?_,?_,d.j,d.p,d.q⟩,⟨λb h=>?_,λb m h=>Ur ⟨m,h⟩,?_⟩⟩
 .have:=(d.cG.c j d.h).f 0 (L a' (c.cD.length+1) c');have z:(fJ c p).setIfInBounds 0 (L a' (c.cD.length+1) c')=fJ (c.f g) {p with sa:=a',sc:=c'}:=by simp[fJ,Rf.f]
  rwa [z]at this
 show RV _ _ _ a' (c.cD++[g]).length c' (cH (c.cD++[g]));rw[wh,Uu];have:cH [g]=dy g:=by simp[cH]
 rw[this];exact v.a l λb a=>q b a;exact(d.nI.a j λb a e=>d.n b e a).a l λb a e=>d.f (e▸a);exact(d.oF.a j λb a e=>d.m b e a).a l λb a e=>d.d (e▸a);intro A o C r D;have:=d.oE A o C r D;have s:=d.c o.1 o.2 (Uo r);exact⟨(this.1.a j λa=>s (Up (Ur a))).a l λa=>s (Ur a),this.2⟩;intro b m t E;have n:=d.c b m t;have M:=w b (Up ⟨m,t⟩);obtain a|a|a|a:=E;exact n (Ur a);obtain e|e:=i b a;exact n (Up (Ur e));omega;exact n (Up (Up (Ur a)));exact n (Up (Up (Up a)));intro a G;obtain e|e:=UP.1 G;exact d.o a e;simp at e;subst e;exact u;show (c.cD++[g]).length<=65536;simp;omega;show c.dI<=(c.cD++[g]).length;have:=d.i;simp;omega;obtain a|a|a|a:=h;exact Ur (Ur a);exact(i b a).imp (λe=>Up (Ur e)) id;exact Ur (Up (Up (Ur a)));exact Ur (Up (Up (Up a)));exact(j.d (ex':=mI f p) λ_ _ c=>Up (Ur c)).e (p:=⟨f,0,N⟩) (λ_=>Ur rfl) _
def Rf.h(a:Rf)(b:Fr.cF):Rf:=(a.f b).a (max a.dI (min (a.cD.length+1) (a.eu+4)))
def G8(c b e a)(n:dC a)(d)(o:cV d c b e)(w:b.cD.length<65536)(x:(b.bD.length:Int)<5864061014000):
 Cr 85 #[P (S ⟨c,0,N⟩),mv a] d (.int J 0) λf=>∃g,cV f c (b.h a) g/\fR d f c e g:=by
 have X(_:=()):∀d,Cr 125 #[mv a] d (B T) λf=>ae aa d f:=λd=>by have:=pF (a.a:Int) (a.c:Int) (a.b:Int) a.d d;rwa [n.2.2.2]at this
 have Y:=@af _ o;have j:=@cf _ _ _ n w x;have ar:=o.cG.b;clear n o w x;go_enter func85,ntmps85;go_wp2_with fail;refine(X () _).mono ?_;rintro Z ab ⟨rfl,p⟩;have y:=@af _ (((ae.a aa d).b _).c p);have h:=(aq.e d (dy a).toArray 76).c p λq=>q;clear p;have i:=Y.a y λ_ _ q=>q;have ac:=@af _ i;have r:=i.cG.a 0;simp[fJ]at r;have z:=i.cG.d 0;have s:=i.cG.b;have A:=i.pw;have t:=i.h;obtain⟨au,C⟩:=ah d.heap.size;rw[<-C]at h|-;have D:=h.a 0;have E:=h.a 1;have G:=h.a 2;have H:=h.a 3;simp[dy]at D E G H;have ad:=h.b;clear i h C;go_upto_region 4 with fail;go_cut [15] λai aj=>ai=B F/\aj=ab;case first=>
  go_wp2;go_meet;case rel=>
   refine⟨?_,rfl⟩;have:=j.2.1;simp;omega
 case rest=>
 obtain⟨rfl,rfl⟩:=hcut;go_wp2_with fail;go_region_law (refine Cm rfl (.tmp 20) (.tmp 22) 112 rfl 76 (.agg #[I J 0,I J 0,I J 0,B F]) 4 32 underlying112 wv rfl e.sa b.cD.length e.sc rfl (cH b.cD) (A.drew.c _) ⟨wc.heap.size,0,N⟩ 1 1 (by omega) rfl (dy a) rfl (ke wc.drew (dy a) 76 _ (by simp)) (by simpa [cH]using wj [a]) (by have:=j.2.1;omega) (by have:=j.2.1;omega) ?_;intro k l u K M O;have m:ae (ag e.sa) wc u:=(((ae.a _ wc).drew).b _).c O;have ak:=(m.f c 0 s t).trans r;have al:=(m.h c 0 s t).trans z);all_goals
  have v:=ac.y a j.1 j.2.1 k l K (λam an=>(M am an).imp id λb=>by rw[b];simp) m;have Q:=@aC _ _ v.1 ((fR.c c e y).a v.2);have R(_:=()):Cr 130 #[P (S ⟨c,0,N⟩)] (u.setCell ⟨c,0,N⟩ (L k (b.cD.length+1) l)) (.tuple #[]) λf=>∃g,cV f c (b.h a) g/\fR (u.setCell ⟨c,0,N⟩ (L k (b.cD.length+1) l)) f c {e with sa:=k,sc:=l} g/\g.ka=e.ka/\g.kc=e.kc:=by
   have:=G9 c (b.f a) {e with sa:=k,sc:=l} _ Q.1 j.2.2;have ao:(b.f a).a (max (b.f a).dI (min (b.f a).cD.length ((b.f a).eu+4)))=b.h a:=by simp[Rf.h,Rf.f]
   rwa [ao]at this
  clear v K M O m ak al r z A t D E G H ad s;go_wp2_with fail;refine Uq R ?_;rintro Z av ⟨rfl,ap,U,V,_,_⟩;have W:=@aC _ _ U (Q.2.a V);clear U V R;go_wp2;go_ret;exact⟨rfl,ap,W.1,W.2⟩
structure Lk(l:En)(k:Rf):Prop where
 f:l.aJ=k.eu
 g:l.aI=k.cD.drop k.eu
 e:k.dI=k.eu+l.c
 a:l.aT=k.bu
 b:l.aA=k.bD
 c:l.aO.length=4
 d:∀m n,(m,n)∈k.cw↔k.bu<=m/\l.aO[m-k.bu]?=S (S n)
 i:(k.cw.map (·.1)).Nodup
 h:k.cw.length=l.aO.countP (·.isSome)
 j:k.eu<=k.cD.length
def Lk.l{c a}(b:Lk c a):a.cw.length<=4:=by rw[b.h,<-b.c];exact List.countP_le_length
def Lk.o:Lk En.e Rf.b:=by
 refine⟨rfl,rfl,rfl,rfl,rfl,rfl,λb c=>?_,Wz,rfl,UF _⟩;simp only[Rf.b,En.e,XI,U9,false_iff];rintro⟨_,a⟩;match b,a with
 |0,a=>simp at a
 |1,a=>simp at a
 |2,a=>simp at a
 |3,a=>simp at a
 |b+4,a=>simp at a
def Cf{d:Type}(b:List d)(a k c):(b.take (a+k)).drop (a+c)=((b.drop a).take k).drop c:=by rw[<-WA,List.drop_take,Wh]
def Lk.m{a c}(b:Lk a c):a.aJ+a.aI.length=c.cD.length:=by rw[b.f,b.g,U5];have:=b.j;omega
def Lk.s{b a}(c:Lk b a)(d):Lk (b.n d) (a.h d):=by
 have j:=c.m;have i:=c.j;have e:=c.f;have f:(a.cD++[d]).drop a.eu=b.aI++[d]:=by rw[VF i,c.g]
 have g:max a.dI (min (a.cD.length+1) (a.eu+4))=a.eu+min (b.aI.length+1) 4:=by have:=c.e;unfold En.c at this;omega
 refine⟨e,?_,?_,c.a,?_,c.c,c.d,c.i,c.h,?_⟩;show b.aI++[d]=(a.cD++[d]).drop a.eu;exact f.symm;show max a.dI (min (a.cD.length+1) (a.eu+4))=a.eu+min (b.aI++[d]).length 4;rw[g,Uu];rfl;show b.aA++En.gU (b.aJ+b.c) (((b.aI++[d]).take 4).drop b.c)=a.bD++En.gU a.dI (((a.cD++[d]).take (max a.dI (min (a.cD.length+1) (a.eu+4)))).drop a.dI);have h:=Cf (a.cD++[d]) a.eu (min (b.aI.length+1) 4) b.c;rw[f,<-c.e]at h;rw[c.b,g,h,e,<-c.e];congr 3;by_cases k:b.aI.length+1<=4;rw[US (by simp;omega),US (by simp;omega)];rw[show min (b.aI.length+1) 4=4 by omega];show a.eu<=(a.cD++[d]).length;simp;omega
def Rf.g(a:Rf)(b:Nat):Rf:=if a.eu<b/\b<=a.dI then ({a with eu:=b}:Rf).a (max a.dI (min a.cD.length (b+4)))else a
def Lk.x{a c}(d:Lk a c)(b):Lk (a.h b) (c.g b):=by
 have k:=d.e;have f:=d.f;have l:=d.m;unfold En.h Rf.g;by_cases g:c.eu<b/\b<=c.dI;rw[UG (by rw[f];omega),UG g];have m:a.c=min a.aI.length 4:=rfl;have n:b-a.aJ<=a.aI.length:=by omega
 have h:c.cD.drop b=a.aI.drop (b-a.aJ):=by rw[d.g,WA];congr 1;omega
 have i:max c.dI (min c.cD.length (b+4))=b+min (a.aI.length-(b-a.aJ)) 4:=by omega
 refine⟨?_,?_,?_,d.a,?_,d.c,d.d,d.i,d.h,?_⟩;show a.aJ+(b-a.aJ)=b;omega;show a.aI.drop (b-a.aJ)=c.cD.drop b;exact h.symm;show max c.dI (min c.cD.length (b+4))=b+min (a.aI.drop (b-a.aJ)).length 4;rw[i,U5];show a.aA++En.gU (a.aJ+(b-a.aJ)+(a.c-(b-a.aJ))) (((a.aI.drop (b-a.aJ)).take 4).drop (a.c-(b-a.aJ)))=c.bD++En.gU c.dI ((c.cD.take (max c.dI (min c.cD.length (b+4)))).drop c.dI);have j:=Cf c.cD b (min (a.aI.length-(b-a.aJ)) 4) (a.c-(b-a.aJ));rw[h,show b+(a.c-(b-a.aJ))=c.dI by omega]at j;rw[d.b,i,j,show a.aJ+(b-a.aJ)+(a.c-(b-a.aJ))=c.dI by omega];congr 3;by_cases e:(a.aI.drop (b-a.aJ)).length<=4;rw[US e,US (by rw[U5]at e|-;omega)];rw[U5]at e;rw[show min (a.aI.length-(b-a.aJ)) 4=4 by omega];show b<=c.cD.length;omega;rw[Us (by rw[f];omega),Us g];exact d
def Lk.w{c b}(a:Lk c b):Lk c.o (b.c b.dI):=by refine⟨a.f,a.g,a.e,a.a,?_,a.c,a.d,a.i,a.h,a.j⟩;show c.aA++En.gU (c.aJ+0) ((c.aI.take 4).drop 0)=b.bD++En.gU b.eu ((b.cD.take b.dI).drop b.eu);have d:=Cf b.cD b.eu c.c 0;rw[Vn,<-a.e,<-a.g]at d;rw[d,a.b,Vn,a.f];congr 2;simp only[XP];unfold En.c;by_cases e:c.aI.length<=4;rw[US e,US (by omega)];rw[show min c.aI.length 4=4 by omega]
def Lk.q{b c}(a:Lk b c):Lk b.f c.d:=⟨a.f,a.g,a.e,a.a,rfl,a.c,a.d,a.i,a.h,a.j⟩
def Lk.v{d c}(e:Lk d c)(b):(∃f∈c.cw,f.1=b)↔c.bu<=b/\∃a,d.aO[b-c.bu]?=S (S a):=by constructor;rintro⟨⟨g,a⟩,h,rfl⟩;have:=(e.d g a).1 h;exact⟨this.1,a,this.2⟩;rintro⟨i,a,j⟩;exact⟨(b,a),(e.d b a).2 ⟨i,j⟩,rfl⟩
def Rf.i(a:Rf)(b:Nat)(c:Fr.cF):Rf:= {a with cw:=a.cw++[(b,c)]}
def Lk.y{b d}(c:Lk b d)(a f)(r:d.bu<=a)(y:a<d.bu+4)(l:¬∃m∈d.cw,m.1=a):Lk (b.a a f) (d.i a f):=by
 have n:=c.a;have o:=c.c;have e:b.aO[a-b.aT]?=S N:=by
  have j:a-b.aT<b.aO.length:=by omega
  rw[Um j];cases g:b.aO[a-b.aT]with
  |none=>rfl
  |some h=>
   exfalso;exact l ((c.v a).2 ⟨r,h,by rw[<-n,Um j,g]⟩)
 have s:b.a a f= {b with aO:=b.aO.set (a-b.aT) (S f)}:=by unfold En.a;rw[UG (by omega),e]
 rw[s];refine⟨c.f,c.g,c.e,c.a,c.b,by simp[o],λi h=>?_,?_,?_,c.j⟩;show (i,h)∈d.cw++[(a,f)]↔d.bu<=i/\(b.aO.set (a-b.aT) (S f))[i-d.bu]?=S (S h);rw[UP];by_cases p:i=a;subst p;have t:(i,h)∉d.cw:=λg=>l ⟨_,g,rfl⟩;rw[<-n,UQ (by omega)];simp only[t,false_or,UY,VT,XT,VO];constructor;rintro rfl;exact⟨by omega,rfl⟩;rintro⟨_,rfl⟩;rfl;have:(i,h)∉[(a,f)]:=λg=>p (by simp at g;exact g.1);simp only[this,Wc];rw[c.d i h];refine XJ λz=>?_;rw[Vt (by omega)];show ((d.cw++[(a,f)]).map (·.1)).Nodup;rw[Vm,Wb];refine⟨c.i,by simp,λu v w q=>?_⟩;simp at q;subst q;rintro rfl;obtain⟨m,g,rfl⟩:=Vb.1 v;exact l ⟨m,g,rfl⟩
 .show (d.cw++[(a,f)]).length=(b.aO.set (a-b.aT) (S f)).countP (·.isSome);rw[Uu,c.h];obtain⟨u,w,A,C,x⟩:=ys b.aO o;rw[x]at e|-;have j:a-b.aT<4:=by omega
  generalize a-b.aT=k at e j;match k,j with
  |0,_=>simp at e;subst e;simp[VN]<;>omega
  |1,_=>simp at e;subst e;simp[VN]<;>omega
  |2,_=>simp at e;subst e;simp[VN]<;>omega
  |3,_=>simp at e;subst e;simp[VN]<;>omega
def Lk.A{c b}(d:Lk c b)(a f)(g:¬(b.bu<=a/\a<b.bu+4/\¬∃h∈b.cw,h.1=a)):c.a a f=c:=by have i:=d.a;have n:=d.c;unfold En.a;by_cases e:c.aT<=a;rw[UG e];by_cases j:a<b.bu+4;have k:=UC λl=>g ⟨by omega,j,l⟩;obtain⟨_,o,m⟩:=(d.v a).1 k;rw[i,m];rw[VI (by omega)];rw[Us e]
def Lk.u{f a}(g:Lk f a)(d)(j:f.aO[0]?=S (S d)):∃b e,a.cw=b++(a.bu,d)::e/\∀c∈b,c.1≠a.bu:=by have k:=(g.d a.bu d).2 ⟨UF _,by rw[Ww];exact j⟩;obtain⟨b,e,h⟩:=Xs k;refine⟨b,e,h,λc l m=>?_⟩;have i:=g.i;rw[h,Vm,Wb]at i;exact i.2.2 c.1 (Vb.2 ⟨c,l,rfl⟩) a.bu (by simp) m
def Lk.p{c b}(d:Lk c b)(e:c.aO[0]?=S N):∀a∈b.cw,a.1≠b.bu:=λa f g=>by have:=(d.d a.1 a.2).1 f;rw[g,Ww,e]at this;cases this.2
def Lk.r{g c}(a:Lk g c)(r)(s:g.aO[0]?=S (S r))(h i)(t:c.cw=h++(c.bu,r)::i):Lk g.v {c with cw:=h++i,bu:=c.bu+1}:=by
 obtain⟨E,v,w,x,l⟩:=ys g.aO a.c;rw[l]at s;simp at s;subst s;have j:=a.i;rw[t,Vm,WV,Wb,Xm]at j;have y:∀e,e∈c.cw↔e∈h++i\/e=(c.bu,r):=λe=>by rw[t,UP,UZ,UP];constructor;rintro (b|b|b);exact Ur (Ur b);exact Up b;exact Ur (Up b);rintro ((b|b)|b);exact Ur b;exact Up (Up b);exact Up (Ur b)
 have z:∀e∈h++i,e.1≠c.bu:=λe n k=>by obtain b|b:=UP.1 n;exact j.2.2 e.1 (Vb.2 ⟨e,b,rfl⟩) c.bu (by simp) k;exact j.2.1.1 (Vb.2 ⟨e,b,k⟩)
 refine⟨a.f,a.g,a.e,by show g.aT+1=c.bu+1;rw[a.a],a.b,by simp[En.v,l],λd o=>?_,?_,?_,a.j⟩;show (d,o)∈h++i↔c.bu+1<=d/\(g.aO.drop 1++[N])[d-(c.bu+1)]?=S (S o);have f:=a.d d o;rw[y]at f;rw[l]at f|-;simp only[Xl,XP,WN,VG];constructor
 .intro n;have p:=f.1 (Ur n);have q:=z _ n;simp only at q;refine⟨by omega,?_⟩;have k:d-c.bu=(d-(c.bu+1))+1:=by omega
  rw[k,UH]at p;generalize d-(c.bu+1)=m at p;match m,p.2 with
  |0,a=>exact a
  |1,a=>exact a
  |2,a=>exact a
  |m+3,a=>simp at a
 rintro⟨p,q⟩;have k:d-c.bu=(d-(c.bu+1))+1:=by omega
 rw[k,UH]at f;have A:[v,w,x][d-(c.bu+1)]?=S (S o):=by
  generalize d-(c.bu+1)=m at q;match m,q with
  |0,a=>exact a
  |1,a=>exact a
  |2,a=>exact a
  |3,a=>simp at a
  |m+4,a=>simp at a
 obtain b|b:=f.2 ⟨by omega,A⟩;exact b;simp at b;omega;show ((h++i).map (·.1)).Nodup;rw[Vm,Wb];exact⟨j.1,j.2.1.2,λb C D u=>j.2.2 b C D (by simp at u|-;exact Up u)⟩;show (h++i).length=(g.aO.drop 1++[N]).countP Option.isSome;have f:=a.h;rw[t,l]at f;rw[l];simp[VN]at f|-;omega
def Rf.e(a:Rf):Rf:=if a.bu<65536 then {a with bD:=a.bD++[⟨F,a.bu,Fr.dq⟩]}else a
def Lk.n{d b}(a:Lk d b):Lk d.p b.e:=by unfold En.p Rf.e;by_cases c:b.bu<65536;rw[UG (by rw[a.a];exact c),UG c];exact⟨a.f,a.g,a.e,a.a,by show d.aA++[_]=b.bD++[_];rw[a.b,a.a],a.c,a.d,a.i,a.h,a.j⟩;rw[Us (by rw[a.a];exact c),Us c];exact a
end Go.Proofs.YtlfijfodklhplaaGreat
