import Derived.Test.YtlfijfodklhplaaGreatAl05
set_option maxRecDepth 100000
set_option maxHeartbeats 1000000
set_option linter.all false
open Go.RowKit Go.Proofs.Tryz
open Go.Value renaming slice->L
open Option renaming some->S,none->N
open Bool renaming true->T,false->F
namespace Go.Proofs.YtlfijfodklhplaaGreat
def EN(d:World)(e f z)(g h i:Nat)(k:e=(g:Int))(l:f=(h:Int))(m:z=(i:Int))(t j)(n:j=d.heap.size):
 ∀b c,([g,h,i].map bv)[b]?=S c->(d.alloc (.cells #[.int .u8 e,.int .u8 f,.int .u8 z] t)).drew.cell? ((⟨j,0,N⟩:Addr).add b)=S c:=by
 intro b c a;subst k l m n;rw[Va,Ve,Xf,Vf];match b,a with
 |0,a=>simpa [bv]using a
 |1,a=>simpa [bv]using a
 |2,a=>simpa [bv]using a
def KK(b d f e)(h:f.length=e)(k a g:Nat)(c)(i:eB c b f d)(r:e+5<=d)(s:k<256)(t:a<256)(n:g<65536):
 Cr 178 #[L (S ⟨b,0,N⟩) e d,.agg (mc (k:Int) (a:Int) (g:Int) T)] c (L (S ⟨b,0,N⟩) (e+5) d) λj=>eB j b (f++[k,a,1]++[g/256,g%256]) d/\ae (ap b) c j:=by
 have u:=i.c;have l:Hid (f.length=e):=h;have v:IntKind.u8.wrap (k:Int)=k:=by rw[Wf];omega
 have w:IntKind.u8.wrap (a:Int)=a:=by rw[Wf];omega
 clear h;go_enter func178,ntmps178;go_wp2;go_region_law (first|(refine zg rfl (.tmp 8) (.tmp 16) rfl b d f e l.out rfl (((i.b _).b _).drew) ⟨c.heap.size+1,0,N⟩ 3 3 rfl [k,a,1] rfl (EN (c.alloc (.cells (mc (k:Int) (a:Int) (g:Int) T) 76)) (k:Int) (a:Int) 1 k a 1 rfl rfl rfl 5 (c.heap.size+1) (Uv _ _).symm) (by omega) ?_;intro x o m;have y:=m.f c.heap.size 2 (by simp only[Uv,UR];omega) (by simp only[ap];omega))|(go_simp;refine(uw b d (f++[k,a,1]) (e+3) (by simp[l.out]) g _ o (by omega) n).mono ?_;rintro z A ⟨rfl,p,q⟩));all_goals
  go_wp2;go_ret;exact⟨rfl,p,((((ae.a (ap b) c).b _).b _).drew.c m).c q⟩
def KI(b d f e)(h:f.length=e)(k a g:Nat)(c)(i:eB c b f d)(r:e+5<=d)(s:k<256)(t:a<256)(n:g<65536):
 Cr 178 #[L (S ⟨b,0,N⟩) e d,.agg (mc (k:Int) (a:Int) (g:Int) F)] c (L (S ⟨b,0,N⟩) (e+5) d) λj=>eB j b (f++[k,a,0]++[g/256,g%256]) d/\ae (ap b) c j:=by
 have u:=i.c;have l:Hid (f.length=e):=h;have v:IntKind.u8.wrap (k:Int)=k:=by rw[Wf];omega
 have w:IntKind.u8.wrap (a:Int)=a:=by rw[Wf];omega
 clear h;go_enter func178,ntmps178;go_wp2;go_region_law (first|(refine zg rfl (.tmp 8) (.tmp 16) rfl b d f e l.out rfl (((i.b _).b _).drew) ⟨c.heap.size+1,0,N⟩ 3 3 rfl [k,a,0] rfl (EN (c.alloc (.cells (mc (k:Int) (a:Int) (g:Int) F) 76)) (k:Int) (a:Int) 0 k a 0 rfl rfl rfl 5 (c.heap.size+1) (Uv _ _).symm) (by omega) ?_;intro x o m;have y:=m.f c.heap.size 2 (by simp only[Uv,UR];omega) (by simp only[ap];omega))|(go_simp;refine(uw b d (f++[k,a,0]) (e+3) (by simp[l.out]) g _ o (by omega) n).mono ?_;rintro z A ⟨rfl,p,q⟩));all_goals
  go_wp2;go_ret;exact⟨rfl,p,((((ae.a (ap b) c).b _).b _).drew.c m).c q⟩
def KH(a b e c)(i:e.length=c)(k f d:Nat)(h g)(j:eB g a e b)(l:c+5<=b)(m:k<256)(n:f<256)(o:d<65536):
 Cr 178 #[L (S ⟨a,0,N⟩) c b,.agg (mc (k:Int) (f:Int) (d:Int) h)] g (L (S ⟨a,0,N⟩) (c+5) b) λp=>eB p a (e++[k,f,h.toNat]++[d/256,d%256]) b/\ae (ap a) g p:=by
 cases h;exact KI a b e c i k f d g j l m n o;exact KK a b e c i k f d g j l m n o
end Go.Proofs.YtlfijfodklhplaaGreat
