import Derived.Test.YtlfijfodklhplaaGreatAl09
set_option maxRecDepth 100000
set_option maxHeartbeats 8000000
set_option linter.all false
open Go.RowKit Go.Proofs.Tryz
open Go.Value renaming pointer->P,bool->B
open Go.IntKind renaming i64->J
open Option renaming some->S,none->N
open Bool renaming true->T,false->F
namespace Go.Proofs.YtlfijfodklhplaaGreat
def Hb(k b a d)(x:1<=k/\k<=7):
 (b<0/\Hid (bJ k b a d=F))\/(9<b/\Hid (bJ k b a d=F))\/(3<k/\0<b/\b<=9/\Hid (bJ k b a d=F))\/
 (0<=b/\b<=9/\(3<k->b=0)/\((a<0/\Hid (bJ k b a d=F))\/(1000<a/\Hid (bJ k b a d=F))\/(k≠2/\k≠3/\k≠6/\0<a/\a<=1000/\Hid (bJ k b a d=F))\/(k=2/\a=0/\Hid (bJ k b a d=F))\/(0<=a/\a<=1000/\(k≠2->k≠3->k≠6->a=0)/\(k=2->0<a)/\((d=F/\Hid (bJ k b a d=T))\/(d=T/\k=2/\Hid (bJ k b a d=T))\/(d=T/\k≠2/\Hid (bJ k b a d=F)))))):=by
 have no:∀g:Bool,(g=T->False)->g=F:=λg c=>by cases g;rfl;exact(c rfl).elim
 have e:∀l:Prop,(bJ k b a d=T->l)->(¬l)->Hid (bJ k b a d=F):=λl c y=>no _ λh=>y (c h);have f:bJ k b a d=T->(0<=b/\b<=bL k/\bm k<=a/\a<=bM k/\(d=T->k=2)):=λc=>by simp only[bJ,UV]at c;exact c.2
 have r:0<=b->b<=bL k->bm k<=a->a<=bM k->(d=T->k=2)->Hid (bJ k b a d=T):=λm g s z h=>by show bJ k b a d=T;simp only[bJ,UV];exact⟨x,m,g,s,z,h⟩
 have n:bL k=if k<=3 then 9 else 0:=by unfold bL;split<;>split<;>omega
 have o:bm k=if k=2 then 1 else 0:=rfl
 have p:bM k=if k=2\/k=3\/k=6 then 1000 else 0:=rfl
 by_cases A:b<0;exact Ur ⟨A,e _ (λc=>(f c).1) (by omega)⟩;by_cases C:9<b;exact Up (Ur ⟨C,e _ (λc=>(f c).2.1) (by rw[n];split<;>omega)⟩);by_cases t:3<k/\0<b;exact Up (Up (Ur ⟨t.1,t.2,by omega,e _ (λc=>(f c).2.1) (by rw[n];split<;>omega)⟩));have u:b<=bL k:=by rw[n];split<;>omega
 refine Up (Up (Up ⟨by omega,by omega,λ_=>by omega,?_⟩));by_cases D:a<0;exact Ur ⟨D,e _ (λc=>(f c).2.2.1) (by rw[o];split<;>omega)⟩;by_cases E:1000<a;exact Up (Ur ⟨E,e _ (λc=>(f c).2.2.2.1) (by rw[p];split<;>omega)⟩);by_cases i:k≠2/\k≠3/\k≠6/\0<a;exact Up (Up (Ur ⟨i.1,i.2.1,i.2.2.1,i.2.2.2,by omega,e _ (λc=>(f c).2.2.2.1) (by rw[p,Us (by omega)];omega)⟩));by_cases q:k=2/\a=0;exact Up (Up (Up (Ur ⟨q.1,q.2,e _ (λc=>(f c).2.2.1) (by rw[o,UG q.1];omega)⟩)));have v:bm k<=a:=by rw[o];split<;>omega
 have w:a<=bM k:=by rw[p];split<;>omega
 refine Up (Up (Up (Up ⟨by omega,by omega,λm g s=>by omega,λm=>by omega,?_⟩)));cases d;exact Ur ⟨rfl,r (by omega) u v w λh=>by cases h⟩;by_cases j:k=2;exact Up (Ur ⟨rfl,j,r (by omega) u v w λ_=>j⟩);exact Up (Up ⟨rfl,j,e _ (λc=>(f c).2.2.2.2 rfl) j⟩)
def RI(k c d e)(j:k=1\/k=3\/k=4)(h):
 Cr 125 #[.agg #[.int J k,.int J c,.int J d,B e]] h (B (bJ k c d e)) λl=>ae aa h l:=by
 have m:=Hb k c d e (by omega);obtain rfl|rfl|rfl:=j;all_goals
  obtain⟨f,a⟩|⟨f,a⟩|⟨r,f,n,a⟩|⟨f,n,s,⟨b,a⟩|⟨b,a⟩|⟨b,i,o,p,g,a⟩|⟨b,i,a⟩|⟨b,i,o,p,⟨g,a⟩|⟨g,q,a⟩|⟨g,q,a⟩⟩⟩:=m;all_goals first
   |(exfalso;omega)
   |(go_enter func125,ntmps125;go_wp2;go_ret;exact⟨pG a.out.symm,(ae.a _ _).b _⟩)
def TJ(b a c):(b<0/\Hid (bJ 2 b a c=F))\/(0<=b/\9<b/\Hid (bJ 2 b a c=F))\/(0<=b/\b<=9/\a<0/\Hid (bJ 2 b a c=F))\/(0<=b/\b<=9/\0<=a/\1000<a/\Hid (bJ 2 b a c=F))\/
 (0<=b/\b<=9/\a=0/\Hid (bJ 2 b 0 c=F))\/(0<=b/\b<=9/\0<a/\a<=1000/\Hid (bJ 2 b a c=T)):=by
 have e:bL 2=9:=rfl;have f:bm 2=1:=rfl;have g:bM 2=1000:=rfl;have no:∀a,¬(0<=b/\b<=9/\1<=a/\a<=1000)->Hid (bJ 2 b a c=F):=λa h=>by show bJ 2 b a c=F;simp only[bJ,Vh,e,f,g];exact λd=>h ⟨d.2.1,d.2.2.1,d.2.2.2.1,d.2.2.2.2.1⟩
 by_cases i:b<0;exact Ur ⟨i,no a (by omega)⟩;by_cases j:9<b;exact Up (Ur ⟨by omega,j,no a (by omega)⟩);by_cases k:a<0;exact Up (Up (Ur ⟨by omega,by omega,k,no a (by omega)⟩));by_cases l:1000<a;exact Up (Up (Up (Ur ⟨by omega,by omega,by omega,l,no a (by omega)⟩)));by_cases m:a=0;exact Up (Up (Up (Up (Ur ⟨by omega,by omega,m,no 0 (by omega)⟩))));refine Up (Up (Up (Up (Up ⟨by omega,by omega,by omega,by omega,?_⟩))));show bJ 2 b a c=T;simp only[bJ,UV,e,f,g];exact⟨by omega,by omega,by omega,by omega,by omega,λ_=>VU⟩
def RL(f c d g):
 Cr 125 #[.agg #[.int J 2,.int J f,.int J c,B d]] g (B (bJ 2 f c d)) λi=>ae aa g i:=by
 obtain⟨b,a⟩|⟨b,e,a⟩|⟨b,e,h,a⟩|⟨b,e,h,j,a⟩|⟨b,e,rfl,a⟩|⟨b,e,h,j,a⟩:=TJ f c d
 .go_enter func125,ntmps125;go_wp2;go_ret;exact⟨pG a.out.symm,(ae.a _ _).b _⟩
 .go_enter func125,ntmps125;go_wp2;go_ret;exact⟨pG a.out.symm,(ae.a _ _).b _⟩
 .go_enter func125,ntmps125;go_wp2;go_ret;exact⟨pG a.out.symm,(ae.a _ _).b _⟩
 .go_enter func125,ntmps125;go_wp2;go_ret;exact⟨pG a.out.symm,(ae.a _ _).b _⟩
 .go_enter func125,ntmps125;go_wp2;go_ret;exact⟨pG a.out.symm,(ae.a _ _).b _⟩
 .have k:(c==0)=F:=by rw[Uy];omega
  cases d;all_goals
   go_enter func125,ntmps125;go_wp2;go_ret;exact⟨pG a.out.symm,(ae.a _ _).b _⟩
def En.s(a:En)(k b:Nat):En:= {a with aA:=a.aA++En.gU (a.aJ+k) (((a.aI.take 4).drop k).take b)}
def SK(a:En)(k):a.s k 0=a:=by simp[En.s,En.gU]
def SH(a:En)(k b)(c:a.c<=k+b):a.s k b=a.r k:=by unfold En.s En.r;rw[US];simp[En.c]at c|-;omega
def SJ(b:En)(k a c)(e:k+a<4)(d:b.aI[k+a]?=S c): {b.s k a with aA:=(b.s k a).aA++[⟨T,b.aJ+(k+a),c⟩]}=b.s k (a+1):=by
 unfold En.s;have h:=(Ul.1 d).1;have f:((b.aI.take 4).drop k).take (a+1)=((b.aI.take 4).drop k).take a++[c]:=by rw[Vz,VC,V2 e,d];rfl
 have g:(((b.aI.take 4).drop k).take a).length=a:=by simp;omega
 rw[f,Bh,g];simp[En.gU,UI]
def SI(a:En)(k b):(a.s k b).aA.length<=a.aA.length+4:=by simp[En.s,uF];omega
def Cg(o t d h a p)(k:Nat)(q)(E:bO q o t d h a p)(ao:(a.aA.length:Int)<1099511627000)(ap:(k:Int)<=4):
 Cr 165 #[P (S ⟨d,h,N⟩),.int J k] q (.tuple #[]) λG=>∃H,bO G o t d h (a.r k) H/\fG q G d p H:=by
 have m:=@af _ E;clear E;go_enter func165,ntmps165;go_wp2_with fail;go_loopw [4] (λw wr=>∃(b e:Nat)(c:Pl),b=k+e/\b<=4/\w= .int J b/\bO wr o t d h (a.s k e) c/\fG q wr d p c) λw _=>4-(intOf w).toNat;case atStart=>exact⟨k,0,p,rfl,by omega,rfl,by rw[SK];exact m,fG.f _ _ _⟩
 case round=>
  obtain⟨b,e,c,K,aq,rfl,r,M⟩:=hrel;have s:=r.e;have O:(a.aI.length:Int)<=65536:=by have:=m.jn;omega
  have ac:(a.aJ:Int)<=65536:=by have:=m.jn;omega
  have Q:=r.h;have u:=@af _ r;have R:=@af _ M;have U:(a.s k e).aI=a.aI:=rfl;have V:(a.s k e).aJ=a.aJ:=rfl;rw[U]at s;rw[V]at Q;clear r M U V;have n:=@af _ K;clear K;go_wp2_with fail;refine(ze d h a.aI.length c.wc c.wa _ s O).mono ?_;rintro W X ⟨rfl,rfl⟩;by_cases ar:b<min a.aI.length 4
  .have au:(b:Int)<4:=by omega
   have av:(b:Int)<((min a.aI.length 4:Nat):Int):=by omega
   generalize x:min a.aI.length 4=mn at *;have y:=@af _ x;clear x;have z:b<a.aI.length:=by have:=y;omega
   obtain⟨i,j,A⟩:∃i j,c.wa=S ⟨i,j,N⟩:=by obtain⟨_,f,_⟩|⟨i,j,f,_⟩:=u.jR.2.2;have:a.aI.length=0:=f;omega;exact⟨i,j,f⟩
   have Y:lz wr i j 76 4 (cH a.aI) c.wc:=by obtain⟨f,_⟩|⟨aw,ax,f,ad⟩:=u.jR.2.2;rw[A]at f;cases f;rw[A]at f;cases f;exact ad
   rw[A]at s;have C:∀l v,(dy a.aI[b])[l]?=S v->wr.cell? ⟨i,j+b*4+l,N⟩=S v:=λl v Z=>by
    have ae:l<4:=by have:=(Ul.1 Z).1;simpa [dy]using this
    have:=Y.a (b*4+l) v (by rw[yJ a.aI b _ (Um z) l ae];exact Z);rw[<-UI]at this;exact this
   obtain⟨g,D⟩:∃g,a.aI[b]=g:=⟨_,rfl⟩
   rw[D]at C;have aa(_:=()):a.aI[b]?=S g:=by rw[Um z,D]
   have ag:=@af _ C;clear C D Y;go_wp2_with fail;refine(NB d h i j a.aJ b a.aI.length c.wc g wr Q s ac z O ag).mono ?_;rintro W X ⟨rfl,ab⟩;have ah:dx ⟨T,a.aJ+b,g⟩:=by have ai:=m.lH g (Uo aa);have ay:=m.jn;exact⟨by simp only;omega,Ur ⟨rfl,ai⟩⟩
   have aj:=u.a ab λ_ _ ak=>ak;go_wp2_with fail;refine(Fx o t d h (a.s k e) c ⟨T,a.aJ+b,g⟩ ah X aj ?_).mono ?_;have:=SI a k e;omega;rintro W az ⟨rfl,al,am,an⟩;go_wp2;go_roundw;case rel=>
    refine⟨b+1,e+1,al,by have:=n;omega,by have:=y;omega,by go_num,?_,?_⟩;have:=SJ a k e g (by have:=y;have:=n;omega) (by rw[<-n];exact aa);rw[<-n]at this;rw[<-this];exact am;exact R.a ((fG.b d c ab).a an)
   case measure=>simp[intOf];omega
  .have aA:((min a.aI.length 4:Nat):Int)<=(b:Int):=by omega
   generalize x:min a.aI.length 4=mn at *;go_wp2;go_end0;refine⟨rfl,c,?_,R⟩;rw[<-SH a k e (by simp only[En.c];have:=n;omega)];exact u
end Go.Proofs.YtlfijfodklhplaaGreat
