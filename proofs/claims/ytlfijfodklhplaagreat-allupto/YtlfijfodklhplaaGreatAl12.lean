import Derived.Test.YtlfijfodklhplaaGreatAl02
import Derived.Laws.ResultCell
set_option maxRecDepth 100000
set_option maxHeartbeats 4000000
set_option linter.all false
open Go.RowKit Go.Proofs.Tryz
open Go.Value renaming int->I,slice->L,pointer->P,bool->B
open Go.IntKind renaming i64->J
open Option renaming some->S,none->N
open Bool renaming true->T,false->F
namespace Go.Proofs.YtlfijfodklhplaaGreat
def mZ(a b:List Th):Prop:=a.length=b.length/\∀c,c∈a↔c∈b
def mZ.b(a):mZ a a:=⟨rfl,λ_=>Iff.rfl⟩
def mZ.a{a b c}(d:mZ c b)(e:mZ b a):mZ c a:=⟨d.1.trans e.1,λf=>(d.2 f).trans (e.2 f)⟩
def wG{c i b h j}(f:c[i]?=S h)(d:c[b]?=S j)(o:i≠b):mZ ((c.set i j).set b h) c:=by
 refine⟨by simp,λp=>?_⟩;have k:=(Ul.1 f).1;have l:=(Ul.1 d).1;constructor;intro g;obtain⟨e,a⟩:=VL g;rw[Vi]at a;split at a;rename_i q;rw[UA,UG l]at a;cases a;exact Uo f;rw[Vi]at a;split at a;first
  |(cases a;exact Uo d)
  |(rw[if_pos k]at a;cases a;exact List.mem_of_getElem? d)
 exact Uo a;intro g;obtain⟨e,a⟩:=VL g;by_cases m:e=i;subst m;rw[f]at a;cases a;exact Uo (i:=b) (by rw[Vi,UG rfl,UA,UG l]);by_cases n:e=b;subst n;rw[d]at a;cases a;exact Uo (i:=i) (by rw[Vi,Us (WO o),Vi,UG rfl,UG k]);exact Uo (i:=e) (by rw[Vi,Us (WO n),Vi,Us (WO m)];exact a)
abbrev yA(a b:Nat):Value:= .iface 239 (P (S ⟨a,b,N⟩))
def Bx(b c d e f a)(g:a.cell? ⟨b,c,N⟩=S (L d e f)):(loadVar 170 ⟨b,c,N⟩).run prog a= .ok (L d e f) a:=by unfold loadVar;go_simp
def CB(d a b e c):(Builtin.ssaWrapNilChk_ #[a] a #[P (S b),strVal "",strVal e]).run d c= .ok (P (S b)) c:=rfl
def Bt(k b c d e f a)(h:a.cell? ⟨b,c,N⟩=S (L d e f)):(method (k+1) 239 (P (S ⟨b,c,N⟩)) "Less").run prog a= .ok (245,L d e f) a:=by
 have m:=Bx b c d e f a h;have i:(t239.methods.find? λj=>j.name== "Less").map (λg=>(g.path,g.func))=S (#[],S (245,F)):=by kernel_rfl
 obtain⟨g,n,l⟩:=UD.1 i;simp only[VT]at l;unfold method;go_simp;unfold follow receiverAt;generalize ("Less".splitOn ".").getLast?.getD "Less" =nm;have o:=CB prog 239 ⟨b,c,N⟩ nm a;unfold Place.get;go_simp
def wM(k b c d e f a)(h:a.cell? ⟨b,c,N⟩=S (L d e f)):(method (k+1) 239 (P (S ⟨b,c,N⟩)) "Swap").run prog a= .ok (246,L d e f) a:=by
 have m:=Bx b c d e f a h;have i:(t239.methods.find? λj=>j.name== "Swap").map (λg=>(g.path,g.func))=S (#[],S (246,F)):=by kernel_rfl
 obtain⟨g,n,l⟩:=UD.1 i;simp only[VT]at l;unfold method;go_simp;unfold follow receiverAt;generalize ("Swap".splitOn ".").getLast?.getD "Swap" =nm;have o:=CB prog 239 ⟨b,c,N⟩ nm a;unfold Place.get;go_simp
def FL(k b c d e f a)(h:a.cell? ⟨b,c,N⟩=S (L d e f)):(method (k+1) 239 (P (S ⟨b,c,N⟩)) "Len").run prog a= .ok (244,L d e f) a:=by
 have m:=Bx b c d e f a h;have i:(t239.methods.find? λj=>j.name== "Len").map (λg=>(g.path,g.func))=S (#[],S (244,F)):=by kernel_rfl
 obtain⟨g,n,l⟩:=UD.1 i;simp only[VT]at l;unfold method;go_simp;unfold follow receiverAt;generalize ("Len".splitOn ".").getLast?.getD "Len" =nm;have o:=CB prog 239 ⟨b,c,N⟩ nm a;unfold Place.get;go_simp
def Q0(k a b c):(method (k+1) 239 (P (S ⟨a,b,N⟩)) "Push").run prog c= .ok (249,P (S ⟨a,b,N⟩)) c:=by kernel_rfl
def QW(k a b c):(method (k+1) 239 (P (S ⟨a,b,N⟩)) "Pop").run prog c= .ok (248,P (S ⟨a,b,N⟩)) c:=by kernel_rfl
def TP(j k x ab e l f m s p)(y:aq p j x ab)(z:x[k]?=S (L (S ⟨e,0,N⟩) f l))(ac:j≠e)(A:iQ p e m l)(C:m.length=f)(D:s<f)(E:(f:Int)<1000000):
 Cr 220 #[yA j k,.int J s] p (.tuple #[]) λG=>∃c,mZ c m/\iQ G e c l/\ae (ap e) p G:=by
 have H:=@aC _ _ y z;have n:=@gA _ _ _ _ A C D E;clear y z A C D E;go_enter func220,ntmps220;go_wp2_with fail;go_loopw [1] (λt wr=>∃(a:Nat)(c:List Th),a<f/\t= .int J a/\mZ c m/\iQ wr e c l/\ae (ap e) p wr) λt _=>(intOf t).toNat;case atStart=>exact⟨s,m,n.2.2.1,rfl,mZ.b m,n.1,ae.a _ _⟩
 case round=>
  obtain⟨a,c,al,rfl,K,M,u⟩:=hrel;have d:=@cf _ _ _ K M u;have q:=((H.1.c u λb=>ac b).a k).trans H.2;have O:(a:Int)<f:=by omega
  clear K M u;by_cases ad:a=0
  .subst ad;go_wp2;go_end0;exact⟨rfl,c,d.1,d.2.1,d.2.2⟩
  .obtain⟨g,ag⟩:=ah ((a-1)/2);have am:g<a:=by omega
   have an:wrap64 ((a:Int)-1)=((a-1:Nat):Int):=by unfold wrap64;have:=n;omega
   have ao:wrap64 (((a-1:Nat):Int)/2)=(g:Int):=by unfold wrap64;have:=n;omega
   have ar:(((a-1:Nat):Int)).tdiv 2=((a-1:Nat):Int)/2:=rfl;have Q:¬g=a:=by omega
   obtain⟨h,R⟩:∃h,c[a]?=S h:=⟨_,Um (by have:=d.1.1;have:=n.2.1;omega)⟩
   obtain⟨i,U⟩:∃i,c[g]?=S i:=⟨_,Um (by have:=d.1.1;have:=n.2.1;omega)⟩
   have ai:=λv=>Bt v j k _ _ _ wr q;have o:=@aC _ _ R U;have V:(g:Int)<f:=by omega
   have au:((g:Int)==(a:Int))=F:=by simp;omega
   clear R U ag;go_wp2_with fail;refine(vY e f l c a g h i o.1 o.2 wr d.2.1 O V).mono ?_;rintro b av ⟨rfl,W,rfl⟩;have w:=(ae.a aa wr).drewN W;have aj:=(w.f j k (UL wr _ q) λb=>b).trans q;have aw:=λv=>wM v j k _ _ _ (wr.drewN W) aj;have r:=@af _ w;clear ai q w;by_cases X:h.w<i.w
   .go_wp2_with fail;refine(wL e f l c g a i h o.2 o.1 _ (d.2.1.a r λb=>b) V O Q).mono ?_;rintro b ax ⟨rfl,Y,Z⟩;have ak:=@cf _ _ _ ((wG o.2 o.1 Q).a d.1) Y ((d.2.2.c (r.d λ_ _ b=>b.elim)).c Z);clear Y Z;go_wp2;go_roundw;case rel=>exact⟨g,_,by omega,rfl,ak⟩
    case measure=>simp[intOf];omega
   .have ay:decide (h.w<i.w)=F:=by simp only[Vh];exact X
    have az:i.w<=h.w:=by omega
    clear X;go_wp2;go_end0;exact⟨rfl,c,d.1,d.2.1.a r λb=>b,d.2.2.c (r.d λ_ _ b=>b.elim)⟩
def Mo(n o ai aF k q i G j M)(aj:aq M n ai aF)(ak:ai[o]?=S (L (S ⟨k,0,N⟩) i q))(aG:n≠k)(al:iQ M k G q)(am:G.length=i)(an:j<=i)(ao:(i:Int)<1000000):
 Calls prog 186 #[yA n o,.int J 0,.int J j] M λb ar=>(∃aH,b= .returned (B aH))/\∃f,mZ f G/\iQ ar k f q/\ae (ap k) M ar:=by
 have au:=@aC _ _ aj ak;have r:=@gA _ _ _ _ al am an ao;clear aj ak al am an ao;go_enter func186,ntmps186;go_wp2_with fail;go_loopw [7] (λZ wr=>∃(a:Nat)(f:List Th),(a<j\/a=0)/\Z= .int J a/\mZ f G/\iQ wr k f q/\ae (ap k) M wr) λZ _=>j-(intOf Z).toNat;case atStart=>exact⟨0,G,Up rfl,rfl,mZ.b G,r.1,ae.a _ _⟩
 case round=>
  obtain⟨a,f,aR,rfl,av,aw,ab⟩:=hrel;have e:=@cf _ _ _ av aw ab;have t:=((au.1.c ab λb=>aG b).a o).trans au.2;have ax:(a:Int)<1000000:=by have:=r;omega
  have aS:wrap64 (2*(a:Int))=2*(a:Int):=by unfold wrap64;omega
  have aI:wrap64 (2*(a:Int)+1)=2*(a:Int)+1:=by unfold wrap64;omega
  have aT:wrap64 (2*(a:Int)+1+1)=2*(a:Int)+1+1:=by unfold wrap64;omega
  have aU:=@af _ ax;clear av aw ab ax;by_cases aJ:2*a+1<j;have aK:2*(a:Int)+1<(j:Int):=by omega
  have aV:(0:Int)<=2*(a:Int)+1:=by omega
  have aW:decide ((j:Int)<=2*(a:Int)+1)=F:=by simp;omega
  have aX:decide (2*(a:Int)+1<0)=F:=by simp;omega
  have O:∀m,m<j->∃aL,f[m]?=S aL:=λm aY=>⟨_,Um (by have:=e.1.1;have:=r;omega)⟩
  obtain⟨h,Y⟩:=O a (by omega);obtain⟨H,Q⟩:=O (2*a+1) aJ;have C:((2*a+1:Nat):Int)=2*(a:Int)+1:=by omega
  have R:((2*a+1+1:Nat):Int)=2*(a:Int)+1+1:=by omega
  have ay:=λm=>Bt m n o _ _ _ wr t;by_cases aM:2*a+1+1<j
  .have aN:2*(a:Int)+1+1<(j:Int):=by omega
   obtain⟨U,ac⟩:=O (2*a+1+1) aM;have ad:=@af _ (vY k i q f (2*a+1+1) (2*a+1) U H ac Q wr e.2.1 (by have:=r;omega) (by have:=r;omega));have D:=@cf _ _ _ Y Q ac;clear O Y Q ac;go_wp2_with fail;rw[C,R]at ad;refine ad.mono ?_;rintro b K ⟨rfl,aO,az⟩;have ag:ae aa wr K:=by rw[az];exact(ae.a aa wr).drewN aO
   clear az;have aP:=(ag.f n o (UL wr _ t) λb=>b).trans t;have aZ:=λm=>Bt m n o _ _ _ K aP;have E:=@af _ ag;clear ag ad ay;by_cases aA:U.w<H.w
   .go_wp2_with fail;rw[<-R];obtain⟨d,p⟩:=ah (2*a+1+1);obtain⟨g,u⟩:=ah U;have c(_:=()):f[d]?=S g/\f[a]?=S h/\(a<d/\d<j)/\(d:Int)<i/\(a:Int)<i/\a≠d:=by rw[p,u];exact⟨D.2.2,D.1,by omega,by have:=r;omega,by have:=r;omega,by omega⟩
    rw[<-p];clear p u C R;refine(vY k i q f d a g h c.1 c.2.1 K (e.2.1.a E λb=>b) c.2.2.2.1 c.2.2.2.2.1).mono ?_;rintro b v ⟨rfl,V,w⟩;have s:ae aa wr v:=by rw[w];exact E.c ((ae.a aa K).drewN V)
    clear w;have x:=(s.f n o (UL wr _ t) λb=>b).trans t;have W:=λm=>wM m n o _ _ _ v x;have l:=@af _ s;clear s;by_cases y:g.w<h.w
    .go_wp2_with fail;refine(wL k i q f a d h g c.2.1 c.1 _ (e.2.1.a l λb=>b) c.2.2.2.2.1 c.2.2.2.1 c.2.2.2.2.2).mono ?_;rintro b aB ⟨rfl,z,A⟩;have X:=@cf _ _ _ ((wG c.2.1 c.1 c.2.2.2.2.2).a e.1) z ((e.2.2.c (l.d λ_ _ b=>b.elim)).c A);clear z A x W;go_wp2;go_roundw;case rel=>exact⟨d,_,Ur c.2.2.1.2,rfl,X⟩
     case measure=>simp[intOf];have:=c.2.2.1;omega
    .have aD:decide (g.w<h.w)=F:=by simp only[Vh];exact y
     have aE:h.w<=g.w:=by omega
     clear y;go_wp2;go_ret;exact⟨⟨_,rfl⟩,f,e.1,e.2.1.a l λb=>b,e.2.2.c (l.d λ_ _ b=>b.elim)⟩
   .have a0:decide (U.w<H.w)=F:=by simp only[Vh];exact aA
    have a1:H.w<=U.w:=by omega
    clear aA;go_wp2_with fail;rw[<-C];obtain⟨d,p⟩:=ah (2*a+1);obtain⟨g,u⟩:=ah H;have c(_:=()):f[d]?=S g/\f[a]?=S h/\(a<d/\d<j)/\(d:Int)<i/\(a:Int)<i/\a≠d:=by rw[p,u];exact⟨D.2.1,D.1,by omega,by have:=r;omega,by have:=r;omega,by omega⟩
    rw[<-p];clear p u C R;refine(vY k i q f d a g h c.1 c.2.1 K (e.2.1.a E λb=>b) c.2.2.2.1 c.2.2.2.2.1).mono ?_;rintro b v ⟨rfl,V,w⟩;have s:ae aa wr v:=by rw[w];exact E.c ((ae.a aa K).drewN V)
    clear w;have x:=(s.f n o (UL wr _ t) λb=>b).trans t;have W:=λm=>wM m n o _ _ _ v x;have l:=@af _ s;clear s;by_cases y:g.w<h.w
    .go_wp2_with fail;refine(wL k i q f a d h g c.2.1 c.1 _ (e.2.1.a l λb=>b) c.2.2.2.2.1 c.2.2.2.1 c.2.2.2.2.2).mono ?_;rintro b aB ⟨rfl,z,A⟩;have X:=@cf _ _ _ ((wG c.2.1 c.1 c.2.2.2.2.2).a e.1) z ((e.2.2.c (l.d λ_ _ b=>b.elim)).c A);clear z A x W;go_wp2;go_roundw;case rel=>exact⟨d,_,Ur c.2.2.1.2,rfl,X⟩
     case measure=>simp[intOf];have:=c.2.2.1;omega
    .have aD:decide (g.w<h.w)=F:=by simp only[Vh];exact y
     have aE:h.w<=g.w:=by omega
     clear y;go_wp2;go_ret;exact⟨⟨_,rfl⟩,f,e.1,e.2.1.a l λb=>b,e.2.2.c (l.d λ_ _ b=>b.elim)⟩
  .have aN:(j:Int)<=2*(a:Int)+1+1:=by omega
   have a2:decide (2*(a:Int)+1+1<(j:Int))=F:=by simp;omega
   have D:=@aC _ _ Y Q;have E:=@af _ (ae.a aa wr);clear O Y Q;go_wp2_with fail;rw[<-C];obtain⟨d,p⟩:=ah (2*a+1);obtain⟨g,u⟩:=ah H;have c(_:=()):f[d]?=S g/\f[a]?=S h/\(a<d/\d<j)/\(d:Int)<i/\(a:Int)<i/\a≠d:=by rw[p,u];exact⟨D.2,D.1,by omega,by have:=r;omega,by have:=r;omega,by omega⟩
   rw[<-p];have aQ:wrap64 (d:Int)=d:=by rw[p,C];exact aI
   try simp only[aQ]
   clear p u C R ay;refine(vY k i q f d a g h c.1 c.2.1 wr (e.2.1.a E λb=>b) c.2.2.2.1 c.2.2.2.2.1).mono ?_;rintro b v ⟨rfl,V,w⟩;have s:ae aa wr v:=by rw[w];exact E.c ((ae.a aa wr).drewN V)
   clear w;have x:=(s.f n o (UL wr _ t) λb=>b).trans t;have W:=λm=>wM m n o _ _ _ v x;have l:=@af _ s;clear s;by_cases y:g.w<h.w
   .go_wp2_with fail;refine(wL k i q f a d h g c.2.1 c.1 _ (e.2.1.a l λb=>b) c.2.2.2.2.1 c.2.2.2.1 c.2.2.2.2.2).mono ?_;rintro b aB ⟨rfl,z,A⟩;have X:=@cf _ _ _ ((wG c.2.1 c.1 c.2.2.2.2.2).a e.1) z ((e.2.2.c (l.d λ_ _ b=>b.elim)).c A);clear z A x W;go_wp2;go_roundw;case rel=>exact⟨d,_,Ur c.2.2.1.2,rfl,X⟩
    case measure=>simp[intOf];have:=c.2.2.1;omega
   .have aD:decide (g.w<h.w)=F:=by simp only[Vh];exact y
    have aE:h.w<=g.w:=by omega
    clear y;go_wp2;go_ret;exact⟨⟨_,rfl⟩,f,e.1,e.2.1.a l λb=>b,e.2.2.c (l.d λ_ _ b=>b.elim)⟩
  .have aK:(j:Int)<=2*(a:Int)+1:=by omega
   go_wp2;go_ret;exact⟨⟨_,rfl⟩,f,e.1,e.2.1,e.2.2⟩
@[go_sem] theorem Uh (a b c e d):(Instr.field 237 (.agg #[a,b,c,e]) 0).run prog d= .ok (.agg #[a,b,c]) d:=by kernel_rfl
structure rQ(j:World)(k n:Nat)(l:Array Value)(o:TypeId)(h:Option Addr)(f g:Nat)(m:List Th):Prop where
 a:aq j k l o
 c:l[n]?=S (L h f g)
 b:m.length=f
 e:f<=g
 d:(h=N/\f=0/\g=0)\/∃i,h=S ⟨i,0,N⟩/\k≠i/\iQ j i m g
def rR(c w':World)(d e:Nat)(j:Array Value)(k:TypeId)(f:Option Addr)(l:List Th->Prop):Prop:=
 ∃b g h i,rQ w' d e (j.setIfInBounds e (L b g h)) k b g h i/\l i/\(∀a,b=S ⟨a,0,N⟩->f=S ⟨a,0,N⟩\/c.heap.size<=a)/\ae (λa=>a=d\/f=S ⟨a,0,N⟩) c w'
def sq{b:Array Value}{a d c}(e:b[a]?=S d):(b.setIfInBounds a c)[a]?=S c:=by have f:=(Xp.1 e).1;simp[WC,f]
def NT(c e r o v d E s t h)(i:rQ h c e r o v d E s)(G:(d:Int)<100000):
 Cr 185 #[yA c e,vc t] h (.tuple #[]) λp=>rR h p c e r o v (λu=>mZ u (s++[t])):=by
 have K:Unit->Cr 249 #[P (S ⟨c,e,N⟩),vc t] h (.tuple #[]) λp=>∃b g,aq p c (r.setIfInBounds e (L (S ⟨b,0,N⟩) (d+1) g)) o/\
  iQ p b (s++[t]) g/\d+1<=g/\(v=S ⟨b,0,N⟩\/h.heap.size<=b)/\b≠c/\ae (λx=>x=c\/v=S ⟨x,0,N⟩) h p:=λ_=>by
  obtain⟨rfl,rfl,rfl⟩|⟨M,rfl,O,Q⟩:=i.d;have R:=U1 i.b;subst R;refine(Q1 c e r o t h i.a i.c).mono ?_;rintro a p ⟨y,b,g,j,q,l,f,k,m⟩;exact⟨y,b,g,j,q,l,Up f,k,m.d λ_ _ a=>Ur a⟩;have U:=i.b;subst U;refine(Q2 c e r o M E s t h i.a i.c O Q (by omega)).mono ?_;rintro a p ⟨y,b,g,j,q,l,f,k,m⟩;refine⟨y,b,g,j,q,l,f.imp (λa=>by rw[a]) id,k,m.d λ_ _ a=>a.imp id λa=>by rw[a]⟩
 have n:=@aC _ _ i G;have V:=λz=>Q0 z c e h;clear i G;go_enter func185,ntmps185;go_wp2_with fail;refine(K ()).mono ?_;rintro a A ⟨rfl,b,g,j,q,l,f,k,m⟩;have w:=@nh _ _ _ _ _ _ j q l f k m;have W:=(j.a e).trans (sq n.1.c);have ab:=λz=>FL z c e _ _ _ A W;have ac:wrap64 ((d:Int)+1-1)=(d:Int):=by unfold wrap64;have:=n.2;omega
 have ad:wrap64 (d:Int)=d:=by unfold wrap64;have:=n.2;omega
 clear j q l f k m V;go_wp2_with fail;refine(FK (S ⟨b,0,N⟩) (d+1) g A).mono ?_;rintro a ag ⟨rfl,rfl⟩;have X:=@af _ (TP c e _ o b g (d+1) (s++[t]) d A w.1 (sq n.1.c) (WO w.2.2.2.2.1) w.2.1 (by rw[Uu,n.1.b];rfl) (by omega) (by have:=n.2;omega));go_wp2_with fail;refine X.mono ?_;rintro a Y ⟨rfl,u,C,H,D⟩;have Z(_:=()):rR h Y c e r o v (λu=>mZ u (s++[t])):=by
  obtain⟨j,q,l,f,k,m⟩:=w;have aa:u.length=d+1:=by rw[C.1,Uu,n.1.b];rfl
  refine⟨S ⟨b,0,N⟩,d+1,g,u,⟨j.c D λa=>k a.symm,sq n.1.c,aa,l,Up ⟨b,rfl,WO k,H⟩⟩,C,λx a=>?_,m.g D λah ai a=>?_⟩;cases a;exact f;simp only[ap]at a;subst a;obtain f|f:=f;exact Up f;omega
 clear C H D;go_wp2;go_end0;exact⟨rfl,Z⟩
def AR(b:List Th)(t:Th)(d:Nat)(c:List Th):Prop:=c.length=d/\(∀a,a∈b->a=t\/a∈c)/\(∀a,a∈c->a∈b)/\t∈b
def NQ(g h r s y a j e d)(l:rQ d g h r s y (a+1) j e)(R:(a:Int)<100000):
 Calls prog 148 #[yA g h] d λb q=>∃k,b= .returned (vc k)/\rR d q g h r s y (λz=>AR e k a z):=by
 obtain⟨c,rfl,t,v⟩:∃c,y=S ⟨c,0,N⟩/\g≠c/\iQ d c e j:=by obtain⟨_,U,_⟩|l:=l.d;omega;exact l
 have f:=@cf _ _ _ l v R;have A:=(l.a.a h).trans l.c;have am:=λm=>FL m g h _ _ _ d A;have an:=λm=>wM m g h _ _ _ d A;have ax:wrap64 ((a:Int)+1-1)=(a:Int):=by unfold wrap64;omega
 have ay:wrap64 (a:Int)=a:=by unfold wrap64;omega
 have V(_:=()):Cr 246 #[L (S ⟨c,0,N⟩) (a+1) j,I J 0,I J a] d (.tuple #[]) λq=>∃w,mZ w e/\iQ q c w j/\ae (ap c) d q:=by
  have az:=l.b;obtain⟨n,o⟩:∃n,e[0]?=S n:=⟨_,Um (by omega)⟩
  obtain⟨C,W⟩:∃C,e[a]?=S C:=⟨_,Um (by omega)⟩
  by_cases U:a=0;subst U;refine(Ti c (0+1) j e 0 n o d v (by omega)).mono ?_;rintro b q ⟨D,p,u⟩;exact⟨D,e,mZ.b e,p,u⟩;refine(wL c (a+1) j e 0 a n C o W d v (by omega) (by omega) (by omega)).mono ?_;rintro b q ⟨D,p,u⟩;exact⟨D,_,wG o W (by omega),p,u⟩
 clear l v R;go_enter func148,ntmps148;go_wp2_with fail;refine(FK (S ⟨c,0,N⟩) (a+1) j d).mono ?_;rintro b aA ⟨rfl,rfl⟩;go_wp2_with fail;refine V.mono ?_;rintro b ao ⟨rfl,w,E,X,G⟩;have Y:=@af _ (Mo g h r s c j (a+1) w a ao (f.1.a.c G λb=>t b) f.1.c t X (E.1.trans f.1.b) (by omega) (by have:=f.2.2;omega));have Z:=@aC _ _ E G;clear E X G am an A V;go_wp2_with fail;refine Y.mono ?_;rintro b aa ⟨⟨aq,rfl⟩,H,ab,ac,ad⟩;have K:=ab.a Z.1;have M:=Z.2.c ad;have ag:=f.1.a.c M λb=>t b;have O:=K.1.trans f.1.b;obtain⟨k,Q⟩:∃k,H[a]?=S k:=⟨_,Um (by omega)⟩
 have ah:=@af _ (QV g h r s c j a H k aa ag f.1.c t ac O f.1.e Q (by have:=f.2.2;omega));have ar:=@gA _ _ _ _ K M Q O;have aB:=λm=>QW m g h aa;clear ab ac ad K M ag O Q Y;go_wp2_with fail;refine ah.mono ?_;rintro b au ⟨rfl,ai,aj,ak⟩;have av(_:=()):rR d au g h r s (S ⟨c,0,N⟩) (λz=>AR e k a z):=by obtain⟨p,u,al,aD⟩:=ar;refine⟨S ⟨c,0,N⟩,a,j,H.take a,⟨ai,sq f.1.c,by rw[UK];omega,by have:=f.1.e;omega,Up ⟨c,rfl,t,aj⟩⟩,⟨by rw[UK];omega,λn o=>?_,λn o=>(p.2 n).1 (Wr o),(p.2 k).1 (Uo al)⟩,λaq b=>Ur b,(u.d λ_ _ b=>Up (by rw[b])).c (ak.d λ_ _ b=>Ur b)⟩;obtain⟨m,x⟩:=VL ((p.2 n).2 o);have aE:=(Ul.1 x).1;by_cases aw:m=a;subst aw;rw[al]at x;cases x;exact Ur rfl;exact Up (Uo (i:=m) (by rw[V2 (by omega)];exact x))
 clear ai aj ak ah;go_wp2;go_ret;exact⟨k,rfl,av⟩
def Eh(c e f g h l q i a m b)(d:rQ b c e f g h l q i)(t:(l:Int)<100000):
 Cr 147 #[P (S ⟨c,e,N⟩),.agg #[.int J a.a,.int J a.b,.int J a.c],.int J m] b (.tuple #[]) λy=>rR b y c e f g h (λj=>mZ j (i++[⟨a,m⟩])):=by
 have z(_:=()):∀r,ae aa b r->rQ r c e f g h l q i:=λr u=>⟨d.a.c u λa=>a,d.c,d.b,d.e,d.d.imp id λ⟨A,C,n,D⟩=>⟨A,C,n,D.a u λa=>a⟩⟩
 have E:=@af _ t;clear d t;go_enter func147,ntmps147;go_wp2_with fail;obtain⟨o,p⟩:=ah (b.alloc (.cells #[I J a.a,I J a.b,I J a.c] 30));have k:aq o b.heap.size #[I J a.a,I J a.b,I J a.c] 30:=by rw[p];exact aq.e _ _ _
 have v:ae aa b o:=by rw[p];exact(ae.a aa b).b _
 rw[<-p];obtain⟨ab,w⟩:=ah b.heap.size;rw[<-w]at k|-;have G:=k.a 0;have H:=k.a 1;have K:=k.a 2;simp at G H K;have s:=@af _ v;clear p k v w;have x:=@af _ (NT c e f g h l q i ⟨a,m⟩ o.drew (z () o.drew s.drew) E);go_still_tail 8,(by kernel_rfl)
 go_wp2_with fail;refine x.mono ?_;rintro ac M ⟨rfl,n⟩;have O(_:=()):rR b M c e f g h (λj=>mZ j (i++[⟨a,m⟩])):=by obtain⟨Q,R,U,j,V,W,X,Y⟩:=n;exact⟨Q,R,U,j,V,W,λZ c=>(X Z c).imp id λd=>UM s.size d,(s.drew.d λ_ _ a=>a.elim).c Y⟩
 clear n x;go_wp2;go_end0;exact⟨rfl,O⟩
def Tn(b c d e a)(f:a.cell? ⟨b,c,N⟩=S (L d 0 e)):
 Cr 103 #[P (S ⟨b,c,N⟩)] a (.tuple #[.agg #[.int J 0,.int J 0,.int J 0],B F]) λg=>ae aa a g:=by
 have h:=UL a _ f;simp only at h;go_enter func103,ntmps103;go_wp2;refine UO (v:= .tuple #[.agg #[I J 0,I J 0,I J 0],B F]) ?_ rfl ?_
 .rw[Xg rfl];unfold loadVar;go_simp
 exact⟨rfl,(ae.a aa a).b _⟩
def To(h k o q m l y r d)(b:rQ d h k o q m (l+1) y r)(K:(l:Int)<100000):
 Calls prog 103 #[P (S ⟨h,k,N⟩)] d λM W=>∃c,M= .returned (.tuple #[.agg #[.int J c.e.a,.int J c.e.b,.int J c.e.c],B T])/\rR d W h k o q m (λz=>AR r c l z):=by
 have X(_:=()):∀A,ae aa d A->rQ A h k o q m (l+1) y r:=λA O=>⟨b.a.c O λa=>a,b.c,b.b,b.e,b.d.imp id λ⟨f,s,i,C⟩=>⟨f,s,i,C.a O λa=>a⟩⟩
 have Y:=@af _ K;have ao:=(b.a.a k).trans b.c;have ar:=b.a.b;have Q:∀f,m=S ⟨f,0,N⟩->f<d.heap.size:=λf a=>by obtain⟨D,_⟩|⟨au,D,_,Z⟩:=b.d;rw[D]at a;cases a;rw[D]at a;cases a;exact Z.b
 have R:=@af _ Q;have av:¬((l:Int)+1=0):=by omega
 clear b K Q;go_enter func103,ntmps103;go_wp2_with fail;obtain⟨t,u⟩:=ah (d.alloc (.cells #[I J 0,I J 0,I J 0] 30));have w:aq t d.heap.size #[I J 0,I J 0,I J 0] 30:=by rw[u];exact aq.e _ _ _
 have U:ae aa d t:=by rw[u];exact(ae.a aa d).b _
 rw[<-u];obtain⟨e,E⟩:=ah d.heap.size;rw[<-E]at w|-;have j:=@cf _ _ _ w U E;clear u w U E;refine(NQ h k o q m l y r t (X () t j.2.1) Y).mono ?_;rintro M x ⟨c,rfl,i⟩;have g:aq x e #[I J 0,I J 0,I J 0] 30:=by obtain⟨_,_,_,_,_,_,_,G⟩:=i;exact j.1.c G λa=>by have ab:=j.2.2;obtain a|a:=a;omega;have:=R () e a;omega
 have ac:=g.a 0;have ad:=g.a 1;have ag:=g.a 2;have aw:=g.d 0;have ax:=g.d 1;have ay:=g.d 2;simp at ac ad ag;have ai:=@aC _ _ i g;clear i g;go_wp2;refine UO (v:= .tuple #[.agg #[I J c.e.a,I J c.e.b,I J c.e.c],B T]) ?_ rfl ?_
 .rw[Xg rfl];unfold loadVar;go_simp
 refine⟨c,rfl,?_⟩;obtain⟨⟨aj,ak,al,z,n,am,V,G⟩,w⟩:=ai;have ab:=j.2.2;have az:=j.2.1.size;have H:ae (ap e) x (((x.setCell ⟨e,0,N⟩ (I J c.e.a)).setCell ⟨e,1,N⟩ (I J c.e.b)).setCell ⟨e,2,N⟩ (I J c.e.c)):=(((ae.a (ap e) x).e (p:=⟨e,0,N⟩) (λ_=>rfl) _).e (p:=⟨e,1,N⟩) (λ_=>rfl) _).e (p:=⟨e,2,N⟩) (λ_=>rfl) _;have aA:=j.1.b;refine⟨aj,ak,al,z,⟨n.a.c H (λa=>by simp only[ap]at a;omega),n.c,n.b,n.e,n.d.imp id λ⟨f,s,i,C⟩=>⟨f,s,i,C.a H λa=>by simp only[ap]at a;obtain b|b:=V f s;have:=R () f b;omega;omega⟩⟩,am,λan h=>(V an h).imp id (λb=>by omega),?_⟩
 exact((j.2.1.d λ_ _ a=>a.elim).c G).g H λaB aD a=>by simp only[ap]at a;omega
end Go.Proofs.YtlfijfodklhplaaGreat
