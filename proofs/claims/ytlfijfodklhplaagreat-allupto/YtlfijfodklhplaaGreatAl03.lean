import Derived.Test.YtlfijfodklhplaaGreatAl01
set_option maxHeartbeats 400000
set_option linter.all false
open Go.RowKit Go.Proofs.Tryz
open Go.Value renaming int->I,slice->L,pointer->P
open Go.IntKind renaming i64->J
open Option renaming some->S,none->N
open Bool renaming false->F
namespace Go.Proofs.YtlfijfodklhplaaGreat
structure Rd(d:World)(f:Nat)(c g l:Nat)(b:List Nat)(k:Nat):Prop where
 a:aq d f #[L (S ⟨c,g,N⟩) b.length l,.int J (k:Int)] 330
 i:fE d c g b
 h:c≠f
 c:c<d.heap.size
 j:b.length<140737488355328
 e:∀m∈b,m<256
def Rd.f{b f w' c d g h i k}(a:Rd f c d g h i k)(e:ae b f w')(j:¬b c)(l:¬b d):Rd w' c d g h i k:=
 ⟨a.a.c e j,a.i.a e a.c l,a.h,Un a.c e.size,a.j,a.e⟩
def Rd.l{c b d e f g k}(a:Rd c b d e f g k):Rd (c.setCell ⟨b,1,N⟩ (.int J ((k:Int)+1))) b d e f g (k+1):=by have h:ae (ap b) c (c.setCell ⟨b,1,N⟩ (I J ((k:Int)+1))):=(ae.a (ap b) c).e (p:=⟨b,1,N⟩) (λ_=>rfl) _;exact⟨by simpa using a.a.f 1 (I J ((k:Int)+1)),a.i.a h a.c a.h,a.h,by simpa using a.c,a.j,a.e⟩
def Rd.drewN{a c d e f g k}(i:Rd a c d e f g k)(h):Rd (a.drewN h) c d e f g k:=
 i.f ((ae.a aa a).drewN h) (λb=>b) λb=>b
def Rd.b{a c d e f g k}(i:Rd a c d e f g k)(h):Rd (a.alloc h) c d e f g k:=
 i.f ((ae.a aa a).b h) (λb=>b) λb=>b
def Rd.d{b c d f g h k}(j:Rd b c d f g h k)(a i)(l:a.block≠c)(m:a.block≠d):Rd (b.setCell a i) c d f g h k:=
 j.f ((ae.a (ap a.block) b).e (λ_=>rfl) i) (λe=>l e.symm) λe=>m e.symm
def Rd.g{a b c d e f k}(g:Rd a b c d e f k):b<a.heap.size:=g.a.b
def uU(b e f h c k d)(a:Rd d b e f h c k)(i:k<c.length):
 Cr 225 #[P (S ⟨b,0,N⟩)] d (.int J ((c[k]:Nat):Int)) λj=>Rd j b e f h c (k+1)/\ae (ap b) d j:=by
 have l:=a.a.a 0;have m:=a.a.a 1;have n:=a.a.d 1;simp at l m;have o:=a.j;have q:=a.e _ (Vk i);have r:=a.h;have s:∀g,((d.drewN g).setCell ⟨b,1,N⟩ (I J ((k:Int)+1))).cell? ⟨e,f+k,N⟩=S (I .u8 ((c[k]:Nat):Int)):=λg=>(a.drewN g).l.i k i;go_enter func225,ntmps225;go_wp2;go_quiet ((go_at_call 210;exact Calls.quiet_of_same (qs _)));go_wp2;go_quiet (fail);go_wp2;go_ret;exact⟨rfl,(a.drewN _).l.drewN _,(((ae.a (ap b) d).drewN _).e (p:=⟨b,1,N⟩) (λ_=>rfl) _).drewN _⟩
def uT(a g h i b k c)(d:Rd c a g h i b k)(j:b.length<=k):
 Calls prog 225 #[P (S ⟨a,0,N⟩)] c λe f=>e= .panicked oT/\ae (ap a) c f:=by
 have l:=d.a.a 0;have m:=d.a.a 1;simp at l m;have n:decide (k<b.length)=F:=by simpa using j
 go_enter func225,ntmps225;go_wp2;go_region_dies;all_goals
  refine(tt _).mono ?_;rintro e f ⟨rfl,rfl⟩;exact⟨rfl,rfl,(ae.a _ _).drew⟩
end Go.Proofs.YtlfijfodklhplaaGreat
