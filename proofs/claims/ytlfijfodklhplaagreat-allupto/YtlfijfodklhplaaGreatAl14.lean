import Derived.Test.YtlfijfodklhplaaGreatAl07
set_option maxRecDepth 100000
set_option maxHeartbeats 4000000
set_option linter.all false
open Go.RowKit Go.Proofs.Tryz
open Go.Value renaming slice->L,bool->B
open Go.IntKind renaming i64->J
open Option renaming some->S,none->N
open Bool renaming false->F
namespace Go.Proofs.YtlfijfodklhplaaGreat.HI
def sN(d:Nat)(b c:List Th):Prop:=sL b c/\∀a,d<=a->b[a]?=c[a]?
def sN.b(b a):sN b a a:=⟨sL.a a,λ_ _=>rfl⟩
def sN.a{a b c d}(e:sN a d c)(f:sN a c b):sN a d b:=⟨e.1.b f.1,λg h=>(e.2 g h).trans (f.2 g h)⟩
def AD{d a b c e f}(g:a[b]?=S e)(h:a[c]?=S f)(i:b≠c)(j:b<d)(k:c<d):sN d ((a.set b f).set c e) a:=
 ⟨DX g h i,λl m=>by rw[Vt (by omega),Vt (by omega)]⟩
def JK(n o ai aF k q j G h M)(aj:aq M n ai aF)(ak:ai[o]?=S (L (S ⟨k,0,N⟩) j q))(aG:n≠k)(al:jk M k G q)(am:G.length=j)(an:h<=j)(ao:(j:Int)<1000000):
 Calls prog 186 #[xI n o,.int J 0,.int J h] M λc ar=>(∃aH,c= .returned (B aH))/\∃f,sN h f G/\jk ar k f q/\ae (ap k) M ar:=by
 have au:=@aC _ _ aj ak;have r:=@gA _ _ _ _ al am an ao;clear aj ak al am an ao;go_enter func186,ntmps186;go_wp2_with fail;go_loopw [7] (λZ wr=>∃(a:Nat)(f:List Th),(a<h\/a=0)/\Z= .int J a/\sN h f G/\jk wr k f q/\ae (ap k) M wr) λZ _=>h-(intOf Z).toNat;case atStart=>exact⟨0,G,Up rfl,rfl,sN.b h G,r.1,ae.a _ _⟩
 case round=>
  obtain⟨a,f,aR,rfl,av,aw,ab⟩:=hrel;have e:=@cf _ _ _ av aw ab;have t:=((au.1.c ab λc=>aG c).a o).trans au.2;have ax:(a:Int)<1000000:=by have:=r;omega
  have aS:wrap64 (2*(a:Int))=2*(a:Int):=by unfold wrap64;omega
  have aI:wrap64 (2*(a:Int)+1)=2*(a:Int)+1:=by unfold wrap64;omega
  have aT:wrap64 (2*(a:Int)+1+1)=2*(a:Int)+1+1:=by unfold wrap64;omega
  have aU:=@af _ ax;clear av aw ab ax;by_cases aJ:2*a+1<h;have aK:2*(a:Int)+1<(h:Int):=by omega
  have aV:(0:Int)<=2*(a:Int)+1:=by omega
  have aW:decide ((h:Int)<=2*(a:Int)+1)=F:=by simp;omega
  have aX:decide (2*(a:Int)+1<0)=F:=by simp;omega
  have O:∀m,m<h->∃aL,f[m]?=S aL:=λm aY=>⟨_,Um (by have:=e.1.1.1;have:=r;omega)⟩
  obtain⟨i,Y⟩:=O a (by omega);obtain⟨H,Q⟩:=O (2*a+1) aJ;have C:((2*a+1:Nat):Int)=2*(a:Int)+1:=by omega
  have R:((2*a+1+1:Nat):Int)=2*(a:Int)+1+1:=by omega
  have ay:=λm=>AA m n o _ _ _ wr t;by_cases aM:2*a+1+1<h
  .have aN:2*(a:Int)+1+1<(h:Int):=by omega
   obtain⟨U,ac⟩:=O (2*a+1+1) aM;have ad:=@af _ (vz k j q f (2*a+1+1) (2*a+1) U H ac Q wr e.2.1 (by have:=r;omega) (by have:=r;omega));have D:=@cf _ _ _ Y Q ac;clear O Y Q ac;go_wp2_with fail;rw[C,R]at ad;refine ad.mono ?_;rintro c K ⟨rfl,aO,az⟩;have ag:ae aa wr K:=by rw[az];exact(ae.a aa wr).drewN aO
   clear az;have aP:=(ag.f n o (UL wr _ t) λc=>c).trans t;have aZ:=λm=>AA m n o _ _ _ K aP;have E:=@af _ ag;clear ag ad ay;by_cases aA:U.w<H.w
   .go_wp2_with fail;rw[<-R];obtain⟨d,p⟩:=ah (2*a+1+1);obtain⟨g,u⟩:=ah U;have b(_:=()):f[d]?=S g/\f[a]?=S i/\(a<d/\d<h)/\(d:Int)<j/\(a:Int)<j/\a≠d:=by rw[p,u];exact⟨D.2.2,D.1,by omega,by have:=r;omega,by have:=r;omega,by omega⟩
    rw[<-p];clear p u C R;refine(vz k j q f d a g i b.1 b.2.1 K (e.2.1.a E λc=>c) b.2.2.2.1 b.2.2.2.2.1).mono ?_;rintro c v ⟨rfl,V,w⟩;have s:ae aa wr v:=by rw[w];exact E.c ((ae.a aa K).drewN V)
    clear w;have x:=(s.f n o (UL wr _ t) λc=>c).trans t;have W:=λm=>xL m n o _ _ _ v x;have l:=@af _ s;clear s;by_cases y:g.w<i.w
    .go_wp2_with fail;refine(xK k j q f a d i g b.2.1 b.1 _ (e.2.1.a l λc=>c) b.2.2.2.2.1 b.2.2.2.1 b.2.2.2.2.2).mono ?_;rintro c aB ⟨rfl,z,A⟩;have X:=@cf _ _ _ ((AD b.2.1 b.1 b.2.2.2.2.2 (by have:=b.2.2.1;omega) (by have:=b.2.2.1;omega)).a e.1) z ((e.2.2.c (l.d λ_ _ c=>c.elim)).c A);clear z A x W;go_wp2;go_roundw;case rel=>exact⟨d,_,Ur b.2.2.1.2,rfl,X⟩
     case measure=>simp[intOf];have:=b.2.2.1;omega
    .have aD:decide (g.w<i.w)=F:=by simp only[Vh];exact y
     have aE:i.w<=g.w:=by omega
     clear y;go_wp2;go_ret;exact⟨⟨_,rfl⟩,f,e.1,e.2.1.a l λc=>c,e.2.2.c (l.d λ_ _ c=>c.elim)⟩
   .have a0:decide (U.w<H.w)=F:=by simp only[Vh];exact aA
    have a1:H.w<=U.w:=by omega
    clear aA;go_wp2_with fail;rw[<-C];obtain⟨d,p⟩:=ah (2*a+1);obtain⟨g,u⟩:=ah H;have b(_:=()):f[d]?=S g/\f[a]?=S i/\(a<d/\d<h)/\(d:Int)<j/\(a:Int)<j/\a≠d:=by rw[p,u];exact⟨D.2.1,D.1,by omega,by have:=r;omega,by have:=r;omega,by omega⟩
    rw[<-p];clear p u C R;refine(vz k j q f d a g i b.1 b.2.1 K (e.2.1.a E λc=>c) b.2.2.2.1 b.2.2.2.2.1).mono ?_;rintro c v ⟨rfl,V,w⟩;have s:ae aa wr v:=by rw[w];exact E.c ((ae.a aa K).drewN V)
    clear w;have x:=(s.f n o (UL wr _ t) λc=>c).trans t;have W:=λm=>xL m n o _ _ _ v x;have l:=@af _ s;clear s;by_cases y:g.w<i.w
    .go_wp2_with fail;refine(xK k j q f a d i g b.2.1 b.1 _ (e.2.1.a l λc=>c) b.2.2.2.2.1 b.2.2.2.1 b.2.2.2.2.2).mono ?_;rintro c aB ⟨rfl,z,A⟩;have X:=@cf _ _ _ ((AD b.2.1 b.1 b.2.2.2.2.2 (by have:=b.2.2.1;omega) (by have:=b.2.2.1;omega)).a e.1) z ((e.2.2.c (l.d λ_ _ c=>c.elim)).c A);clear z A x W;go_wp2;go_roundw;case rel=>exact⟨d,_,Ur b.2.2.1.2,rfl,X⟩
     case measure=>simp[intOf];have:=b.2.2.1;omega
    .have aD:decide (g.w<i.w)=F:=by simp only[Vh];exact y
     have aE:i.w<=g.w:=by omega
     clear y;go_wp2;go_ret;exact⟨⟨_,rfl⟩,f,e.1,e.2.1.a l λc=>c,e.2.2.c (l.d λ_ _ c=>c.elim)⟩
  .have aN:(h:Int)<=2*(a:Int)+1+1:=by omega
   have a2:decide (2*(a:Int)+1+1<(h:Int))=F:=by simp;omega
   have D:=@aC _ _ Y Q;have E:=@af _ (ae.a aa wr);clear O Y Q;go_wp2_with fail;rw[<-C];obtain⟨d,p⟩:=ah (2*a+1);obtain⟨g,u⟩:=ah H;have b(_:=()):f[d]?=S g/\f[a]?=S i/\(a<d/\d<h)/\(d:Int)<j/\(a:Int)<j/\a≠d:=by rw[p,u];exact⟨D.2,D.1,by omega,by have:=r;omega,by have:=r;omega,by omega⟩
   rw[<-p];have aQ:wrap64 (d:Int)=d:=by rw[p,C];exact aI
   try simp only[aQ]
   clear p u C R ay;refine(vz k j q f d a g i b.1 b.2.1 wr (e.2.1.a E λc=>c) b.2.2.2.1 b.2.2.2.2.1).mono ?_;rintro c v ⟨rfl,V,w⟩;have s:ae aa wr v:=by rw[w];exact E.c ((ae.a aa wr).drewN V)
   clear w;have x:=(s.f n o (UL wr _ t) λc=>c).trans t;have W:=λm=>xL m n o _ _ _ v x;have l:=@af _ s;clear s;by_cases y:g.w<i.w
   .go_wp2_with fail;refine(xK k j q f a d i g b.2.1 b.1 _ (e.2.1.a l λc=>c) b.2.2.2.2.1 b.2.2.2.1 b.2.2.2.2.2).mono ?_;rintro c aB ⟨rfl,z,A⟩;have X:=@cf _ _ _ ((AD b.2.1 b.1 b.2.2.2.2.2 (by have:=b.2.2.1;omega) (by have:=b.2.2.1;omega)).a e.1) z ((e.2.2.c (l.d λ_ _ c=>c.elim)).c A);clear z A x W;go_wp2;go_roundw;case rel=>exact⟨d,_,Ur b.2.2.1.2,rfl,X⟩
    case measure=>simp[intOf];have:=b.2.2.1;omega
   .have aD:decide (g.w<i.w)=F:=by simp only[Vh];exact y
    have aE:i.w<=g.w:=by omega
    clear y;go_wp2;go_ret;exact⟨⟨_,rfl⟩,f,e.1,e.2.1.a l λc=>c,e.2.2.c (l.d λ_ _ c=>c.elim)⟩
  .have aK:(h:Int)<=2*(a:Int)+1:=by omega
   go_wp2;go_ret;exact⟨⟨_,rfl⟩,f,e.1,e.2.1,e.2.2⟩
end Go.Proofs.YtlfijfodklhplaaGreat.HI
