import Derived.WalkKit
import Derived.WalkLawsBesides
import Derived.WalkSpells
import Derived.Laws.BitsAllLaws
import Derived.Laws.Shifts
import Derived.Deep.QuietTactic
import Derived.BigQuiet
import Derived.Deep.RegionWith
import Derived.RegionDies
import Derived.Laws.AppendOwn
import Derived.OwnWalk
import Derived.Laws.BitsLemmas
import Derived.Test.YtlfijfodklhplaaGreatRows
import Derived.Deep.RegionLaw
set_option maxHeartbeats 1000000
set_option linter.all false
open Go.RowKit Go.Proofs.Tryz
open Go.Value renaming int->I,slice->L,pointer->P,bool->B
open Go.IntKind renaming i64->J
open Option renaming some->S,none->N
open Bool renaming true->T,false->F
namespace Go.Proofs.YtlfijfodklhplaaGreat
def Ul:=@List.getElem?_eq_some_iff
def Um:=@List.getElem?_eq_getElem
def Un:=@Nat.lt_of_lt_of_le
def Uo:=@List.mem_of_getElem?
def Up:=@Or.inr
def Uq:=@Go.Calls.mono
def Ur:=@Or.inl
def Us:=@if_neg
def Ut:=@List.getElem?_append_right
def Uu:=@List.length_append
def Uv:=@Go.World.size_alloc
def Uw:=@List.setIfInBounds_toArray
def Ux:=@List.getElem?_append_left
def Uy:=@beq_eq_false_iff_ne
def Uz:=@List.getElem?_map
def UA:=@List.length_set
def UB:=@List.set_cons_succ
def UC:=@Classical.byContradiction
def UD:=@Option.map_eq_some_iff
def UE:=@List.set_cons_zero
def UF:=@Nat.le_refl
def UG:=@if_pos
def UH:=@List.getElem?_cons_succ
def UI:=@Nat.add_assoc
def UJ:=@List.append_assoc
def UK:=@List.length_take
def UL:=@Go.World.block_lt_of_cell?
def UM:=@Nat.le_trans
def UN:=@List.getElem?_toArray
def UO:=@Go.bodyPost_ret
def UP:=@List.mem_append
def UQ:=@List.getElem?_set_self
def UR:=@Go.World.size_drew
def US:=@List.take_of_length_le
def UT:=@List.getElem_cons_zero
def UU:=@List.getElem_cons_succ
def UV:=@decide_eq_true_eq
def UW:=@List.getElem_toArray
def UX:=@List.length_map
def UY:=@List.mem_singleton
def UZ:=@List.mem_cons
def U0:=@List.countP_append
def U1:=@List.eq_nil_of_length_eq_zero
def U2:=@List.filter_append
def U3:=@List.getElem_of_mem
def U4:=@decide_eq_true
def U5:=@List.length_drop
def U6:=@List.drop_of_length_le
def U7:=@decide_eq_false
def U8:=@List.getElem?_cons_zero
def U9:=@List.not_mem_nil
def Va:=@Go.Addr.add_lit
def Vb:=@List.mem_map
def Vc:=@List.ext_getElem?
def Vd:=@List.take_append_drop
def Ve:=@Nat.zero_add
def Vf:=@Go.World.cell?_alloc_new
def Vg:=@List.length_cons
def Vh:=@decide_eq_false_iff_not
def Vi:=@List.getElem?_set
def Vj:=@congrArg
def Vk:=@List.getElem_mem
def Vl:=@Nat.zero_le
def Vm:=@List.map_append
def Vn:=@Nat.add_zero
def Vo:=@List.eraseIdx_eq_take_drop_succ
def Vp:=@List.eq_nil_iff_forall_not_mem
def Vq:=@Go.Lib.run_eql_slice_nil
def Vr:=@List.filter_cons
def Vs:=@List.flatMap_cons
def Vt:=@List.getElem?_set_ne
def Vu:=@List.take_length
def Vv:=@List.pairwise_iff_getElem
def Vw:=@List.mem_filter
def Vx:=@List.mem_of_mem_eraseIdx
def Vy:=@List.set_append_right
def Vz:=@List.take_add_one
def VC:=@List.getElem?_drop
def VD:=@List.length_nil
def VE:=@List.getElem?_modify
def VF:=@List.drop_append_of_le_length
def VG:=@List.nil_append
def VH:=@List.length_singleton
def VI:=@List.getElem?_eq_none
def VJ:=@List.append_nil
def VK:=@List.mem_or_eq_of_mem_set
def VL:=@List.getElem?_of_mem
def VM:=@Go.IntKind.wrap_i64
def VN:=@List.countP_cons
def VO:=@Option.some.injEq
def VP:=@List.length_filter_le
def VQ:=@List.length_eraseIdx_of_lt
def VR:=@if_true
def VS:=@Go.World.size_setCell
def VT:=@Prod.mk.injEq
def VU:=@trivial
def VV:=@Int.toNat_of_nonneg
def VW:=@List.mem_flatMap
def VX:=@Go.results_none
def VY:=@List.drop_eq_getElem_cons
def VZ:=@Go.DataW.trod_int
def V1:=@List.countP_eq_zero
def V2:=@List.getElem?_take_of_lt
def V3:=@List.getElem_append_left
def V4:=@List.size_toArray
def V5:=@List.foldl_append
def V6:=@Nat.add_mul
def V7:=@Bool.false_eq_true
def V8:=@Nat.mul_le_mul_right
def V9:=@beq_iff_eq
def Wa:=@Classical.not_not
def Wb:=@List.nodup_append
def Wc:=@or_false
def Wd:=@List.getElem?_zipWith
def We:=@List.drop_append
def Wf:=@Go.IntKind.wrap_u8'
def Wg:=@List.pairwise_append
def Wh:=@Nat.add_sub_cancel_left
def Wi:=@List.countP_eq_length_filter
def Wj:=@List.map_map
def Wk:=@Go.run_underlying
def Wl:=@List.map_set
def Wm:=@List.pairwise_map
def Wn:=@Option.some.inj
def Wo:=@List.append_eq_nil_iff
def Wp:=@List.take_left
def Wq:=@List.append_eq_append_iff
def Wr:=@List.mem_of_mem_take
def Ws:=@List.set_append_left
def Wt:=@List.range_succ
def Wu:=@Function.comp_def
def Wv:=@Option.map_some
def Ww:=@Nat.sub_self
def Wx:=@Int.eq_ofNat_of_zero_le
def Wy:=@List.flatMap_append
def Wz:=@List.nodup_nil
def WA:=@List.drop_drop
def WB:=@List.drop_left
def WC:=@Array.getElem?_setIfInBounds
def WD:=@List.pairwise_cons
def WE:=@List.foldl_cons
def WG:=@Bool.eq_iff_iff
def WH:=@of_decide_eq_true
def WI:=@Array.getElem?_append_left
def WJ:=@List.mem_of_mem_drop
def WK:=@List.mem_cons_of_mem
def WL:=@Go.World.cell?_setCell_other
def WM:=@List.getElem?_zip_eq_some
def WN:=@List.cons_append
def WO:=@Ne.symm
def WP:=@List.countP_pos_iff
def WQ:=@Go.setRow_other
def WR:=@Go.wpList_plain
def WT:=@Go.World.cell?_setCell_same
def WU:=@List.take_left'
def WV:=@List.map_cons
def WW:=@List.pairwise_singleton
def WX:=@List.mem_cons_self
def WY:=@List.take_succ_eq_append_getElem
def W6:=@Go.DataW.weights_mem_each
def Xa:=@Go.setRow_heap
def Xb:=@Nat.mul_one
def Xc:=@List.Pairwise.nil
def Xd:=@Go.DataW.trod_struct
def Xe:=@Array.getElem?_modify
def Xf:=@Go.World.cell?_drew
def Xg:=@Go.results_cell_tmp
def Xh:=@List.any_eq_true
def Xi:=@if_false
def Xj:=@Go.info_parts
def Xk:=@List.map_congr_left
def Xl:=@List.drop_succ_cons
def Xm:=@List.nodup_cons
def Xn:=@List.getElem?_range
def Xo:=@Nat.add_lt_add_left
def Xp:=@Array.getElem?_eq_some_iff
def Xq:=@Nat.xor_lt_two_pow
def Xr:=@Nat.zero_mul
def Xs:=@List.append_of_mem
def Xt:=@Nat.lt_or_ge
def Xu:=@List.set_set
def Xv:=@Nat.succ_mul
def Xw:=@List.foldl_nil
def Xx:=@Go.run_storeCells_at
def Xy:=@List.getElem_take
def Xz:=@List.getElem?_inj
def XA:=@Nat.lt_trichotomy
def XB:=@Go.grownCap_ge
def XC:=@List.length_eq_zero_iff
def XD:=@Bool.and_eq_true
def XE:=@Nat.le_add_right
def XF:=@Go.World.cell?_spot
def XG:=@List.getElem_cons_drop
def XH:=@Go.run_append_grow
def XI:=@Nat.sub_zero
def XJ:=@and_congr_right
def XK:=@Nat.lt_trans
def XL:=@List.cons.injEq
def XM:=@Bool.true_or
def XN:=@List.filter_nil
def XO:=@Go.growslice_fits
def XP:=@List.drop_zero
def XQ:=@List.mem_range
def XR:=@List.map_take
def XS:=@Array.ext'
def XT:=@true_and
def XU:=@and_true
structure ae(c:Nat->Prop)(a w':World):Prop where
 l:w'.os=a.os
 n:w'.tape=a.tape
 m:w'.output=a.output
 size:a.heap.size<=w'.heap.size
 j:∀b,b<a.heap.size->¬c b->w'.heap[b]?=a.heap[b]?
def aa(_:Nat):Prop:=False
def ap(a:Nat)(k:Nat):Prop:=k=a
def ae.a(b a):ae b a a:=⟨rfl,rfl,rfl,UF _,λ_ _ _=>rfl⟩
def ae.c{b c d e}(a:ae b c d)(k:ae b d e):ae b c e:=
 ⟨k.l.trans a.l,k.n.trans a.n,k.m.trans a.m,UM a.size k.size,λf g h=>(k.j f (Un g a.size) h).trans (a.j f g h)⟩
def ae.g{c ex' d f g}(b:ae c d f)(k:ae ex' f g)(i:∀a,a<d.heap.size->ex' a->c a):ae c d g:=
 ⟨k.l.trans b.l,k.n.trans b.n,k.m.trans b.m,UM b.size k.size,λa e h=>(k.j a (Un e b.size) λj=>h (i a e j)).trans (b.j a e h)⟩
def ae.d{d ex' b w'}(a:ae d b w')(g:∀c,c<b.heap.size->d c->ex' c):ae ex' b w':=
 ⟨a.l,a.n,a.m,a.size,λe f h=>a.j e f λi=>h (g e f i)⟩
def ae.drew{b c d}(a:ae b c d):ae b c d.drew:=⟨a.l,a.n,a.m,a.size,a.j⟩
def ae.drewN{c d a}(e:ae c d a)(b):ae c d (a.drewN b):=by
 induction b generalizing a with
 |zero=>exact e
 |succ b f=>exact(f e).drew
def ae.b{a b c}(d:ae a b c)(e):ae a b (c.alloc e):=
 d.c ⟨rfl,rfl,rfl,by simp,λg f _=>Below.heap_alloc _ _ _ f⟩
def ae.e{b c d}(a:ae b c d){p}(i:p.block<c.heap.size->b p.block)(e):ae b c (d.setCell p e):=
 ⟨a.l,a.n,a.m,by simpa using a.size,λf g h=>(Below.heap_setCell d p e f λj=>by subst j;exact h (i g)).trans (a.j f g h)⟩
def ae.f{b w w'}(d:ae b w w')(a c)(e:a<w.heap.size)(f:¬b a):w'.cell? ⟨a,c,N⟩=w.cell? ⟨a,c,N⟩:=World.cell?_of_block (w:=w) (d.j a e f)
def ae.h{b w w'}(d:ae b w w')(a c)(e:a<w.heap.size)(f:¬b a):w'.frozen? ⟨a,c,N⟩=w.frozen? ⟨a,c,N⟩:=World.frozen?_of_block (w:=w) (d.j a e f)
def ae.o{b w'}(a:ae aa b w'):Below b.heap.size b w':=⟨a.l,a.n,a.m,a.size,λc d=>a.j c d λe=>e⟩
def aq(a:World)(b:Nat)(c:Array Value)(t:TypeId):Prop:=a.heap[b]?=S (.cells c t)
def aq.b{a b c t}(d:aq a b c t):b<a.heap.size:=by unfold aq at d;grind
def aq.a{a b c t}(d:aq a b c t)(e):a.cell? ⟨b,e,N⟩=c[e]?:=by unfold aq at d;simp[World.cell?,d]
def aq.d{a b d t}(c:aq a b d t)(e):a.frozen? ⟨b,e,N⟩=F:=by unfold aq at c;simp[World.frozen?,c]
def aq.c{b c w' a d t}(e:aq c a d t)(k:ae b c w')(f:¬b a):aq w' a d t:=(k.j a e.b f).trans e
def aq.drew{a b c t}(d:aq a b c t):aq a.drew b c t:=d
def aq.f{b a c t}(d:aq b a c t)(e f):aq (b.setCell ⟨a,e,N⟩ f) a (c.setIfInBounds e f) t:=by unfold aq at d|-;simp[World.setCell,Xe,d]
def aq.e(a:World)(b t):aq (a.alloc (.cells b t)) a.heap.size b t:=by show (a.heap.push _)[a.heap.size]?=_;simp
def aq.h(a:World)(b t c)(d:c=a.heap.size):aq (a.alloc (.cells b t)) c b t:=by subst d;exact aq.e a b t
def aq.g{a b c t}(d:aq a b c t)(e):aq (a.alloc e) b c t:=(Below.heap_alloc _ _ _ d.b).trans d
def fE(c:World)(d e:Nat)(b:List Nat):Prop:=∀a (f:a<b.length),c.cell? ⟨d,e+a,N⟩=S (I .u8 (b[a]:Nat))
def fE.a{d b w' a c e}(g:fE b a c e)(k:ae d b w')(h:a<b.heap.size)(i:¬d a):fE w' a c e:=
 λf j=>(k.f a (c+f) h i).trans (g f j)
def af{a:Prop}(b:a):(_:Unit:=())->a:=λ_=>b
def aC{a b}(c:a)(d:b):(_:Unit:=())->a/\b:=λ_=>⟨c,d⟩
def cf{a b c}(d:a)(e:b)(f:c):(_:Unit:=())->a/\b/\c:=λ_=>⟨d,e,f⟩
def gA{a b c d}(e:a)(f:b)(g:c)(h:d):(_:Unit:=())->a/\b/\c/\d:=λ_=>⟨e,f,g,h⟩
def lP{a b c d t}(e:a)(f:b)(g:c)(h:d)(i:t):(_:Unit:=())->a/\b/\c/\d/\t:=λ_=>⟨e,f,g,h,i⟩
def nh{a b c d t e}(f:a)(g:b)(h:c)(i:d)(j:t)(k:e):(_:Unit:=())->a/\b/\c/\d/\t/\e:=λ_=>⟨f,g,h,i,j,k⟩
def zr{a b c d t e f}(g:a)(h:b)(i:c)(j:d)(k:t)(l:e)(m:f):(_:Unit:=())->a/\b/\c/\d/\t/\e/\f:=λ_=>⟨g,h,i,j,k,l,m⟩
def zu{a b c d t e f g}(h:a)(i:b)(j:c)(k:d)(l:t)(m:e)(n:f)(o:g):(_:Unit:=())->a/\b/\c/\d/\t/\e/\f/\g:=λ_=>⟨h,i,j,k,l,m,n,o⟩
def ah{b:Type}(a:b):∃c,c=a:=⟨a,rfl⟩
def dL(c:World)(d:Nat)(e:TypeId)(f:Nat)(a:List Value)(g:Nat):Prop:=∃b:List Value,aq c d (a++b).toArray e/\a.length+b.length=g*f
def dL.a{b c w' a d e f g}(h:dL c a d e f g)(k:ae b c w')(i:¬b a):dL w' a d e f g:=
 let ⟨j,l,m⟩:=h;⟨j,l.c k i,m⟩
def dL.b{a b c d e f}(g:dL a b c d e f):b<a.heap.size:=let ⟨_,h,_⟩:=g;h.b
def dL.drew{a b c d e f}(g:dL a b c d e f):dL a.drew b c d e f:=g
def dL.d{b c a d e f}(h:dL b c a d e f)(g):dL (b.alloc g) c a d e f:=h.a ((ae.a aa b).b g) λa=>a
def dL.c{a b g h c i}(j:dL a b g h c i)(d e)(f:c[d]?=S e):a.cell? ⟨b,d,N⟩=S e:=by obtain⟨l,k,_⟩:=j;rw[k.a,UN,Ux ((Ul.1 f).1),f]
def dL.f{a b d e f g}(h:dL a b d e f g)(c):a.frozen? ⟨b,c,N⟩=F:=let ⟨_,i,_⟩:=h;i.d c
def dL.g{b c d e a f}(h:dL b c d e a f)(g):dL b c d e (a.take g) f:=by obtain⟨i,j,k⟩:=h;refine⟨a.drop g++i,?_,?_⟩;rw[<-UJ,Vd];exact j;simp;omega
def zx(z a):(Builtin.zeroCells z a).toList.length=a*z.size:=by simp[size_zeroCells]
def Hi{P}(c t v e z f C)(D:P.underlying t=S (.slice e))(K:(P.info? e).map (λj=>(j.zero,j.size,j.bytes))=S (S z,f,C))(M:z.cells.size=f)(h b d g)(k:g.length=b*f)(l:dL c h e f g d)(p a c' i)(m:i.length=a*f)(E:∀w q,i[w]?=S q->c.cell? (p.add w)=S q)(O:∀q∈i,q.oneCell'=T)(Q:(b+a)*C<=140737488355328)(ab:b+a<=9223372036854775807):
 ∃r s u,(Builtin.append_ #[t,t] v #[L (S ⟨h,0,N⟩) b d,L (S p) a c']).run P c= .ok (L (S ⟨r,0,N⟩) (b+a) s) u/\dL u r e f (g++i) s/\b+a<=s/\((r=h/\s=d)\/(r=c.heap.size/\d<b+a/\ae aa c u))/\ae (ap h) c u:=by
 obtain⟨j,G,R,n,U⟩:=Xj K;obtain⟨o,l,ac⟩:=l;by_cases x:b+a<=d;have ad:a*f<=o.length:=by have:(b+a)*f<=d*f:=V8 _ x;rw[V6]at this;omega
 have y:=run_append_room (P:=P) c t v e j D G h b d (g++o).toArray l p a c' i (by rw[m,n]) E O x (by simp[n,m,k];omega);refine⟨h,d,_,y,⟨o.drop (a*f),?_,by simp[m,k];omega⟩,x,Ur ⟨rfl,rfl⟩,?_⟩;unfold aq at l|-;rw[Xa c h _ _ _ _ l];have V:(g++o).take (b*j.size)=g:=by rw[n,<-k];exact Wp
 have W:(g++o).drop (b*j.size+i.length)=o.drop (a*f):=by rw[n,<-k,m,We,U6 (by omega)];simp
 rw[V,W];exact⟨rfl,rfl,rfl,by simp[World.setRow],λX af k=>WQ c h X _ k⟩;have A:d<b+a:=by omega
 have y:=XH (P:=P) c t v e j z D G R ⟨h,0,N⟩ b d g (by rw[k,n]) (λw ag H=>by rw[Va,Ve];rw[aq.a l,UN,Ux ((Ul.1 H).1),H]) p a c' i (by rw[m,n]) E A (by omega) (by rw[U];exact XO A Q)
 have Y:=XB c (b+a) d e;refine⟨c.heap.size,_,_,y,⟨(Builtin.zeroCells z.cells (grownCap c (b+a) d e-(b+a))).toList,?_,?_⟩,Y,Up ⟨rfl,A,((ae.a aa c).drew).b _⟩,((ae.a (ap h) c).drew).b _⟩;have:=aq.e c.drew (g.toArray++i.toArray++Builtin.zeroCells z.cells (grownCap c (b+a) d e-(b+a))) e;have Z:g.toArray++i.toArray++Builtin.zeroCells z.cells (grownCap c (b+a) d e-(b+a))=(g++i++(Builtin.zeroCells z.cells (grownCap c (b+a) d e-(b+a))).toList).toArray:=by simp
 rw[Z]at this|-;exact this;rw[zx,M,Uu,k,m,<-V6,<-V6];congr 1;omega
def y9{P}(b t j c z f k)(o:P.underlying t=S (.slice c))(p:(P.info? c).map (λe=>(e.zero,e.size,e.bytes))=S (S z,f,k))(q:z.cells.size=f)(g a c')(r:0<a)(d)(l:d.length=a*f)(s:∀m n,d[m]?=S n->b.cell? (g.add m)=S n)(D:a*k<=140737488355328)(E:a<=9223372036854775807):
 ∃h i,(Builtin.append_ #[t,t] j #[L N 0 0,L (S g) a c']).run P b= .ok (L (S ⟨b.heap.size,0,N⟩) a h) i/\dL i b.heap.size c f d h/\a<=h/\ae aa b i:=by
 obtain⟨e,u,v,w,x⟩:=Xj p;have y:=run_append_nil (P:=P) b t j c e z o u v g a c' d (by rw[l,w]) s r (by omega) (by rw[x];omega);have A:=XB b a 0 c;refine⟨_,_,y,⟨(Builtin.zeroCells z.cells (grownCap b a 0 c-a)).toList,?_,?_⟩,A,((ae.a aa b).drew).b _⟩;have:=aq.e b.drew (d.toArray++Builtin.zeroCells z.cells (grownCap b a 0 c-a)) c;have C:d.toArray++Builtin.zeroCells z.cells (grownCap b a 0 c-a)=(d++(Builtin.zeroCells z.cells (grownCap b a 0 c-a)).toList).toArray:=by simp
 rw[C]at this|-;exact this;rw[zx,q,l,<-V6];congr 1;omega
def pP{P}(a){l o h i p}(u:h.guard=N)(q r t)(v:h.op=Op.call {callee:=Callee.builtin Builtin.append,args:= #[q,r],argTypes:= #[t,t]})(e z size bytes)(w:P.underlying t=S (.slice e))(x:(P.info? e).map (λk=>(k.zero,k.size,k.bytes))=S (S z,size,bytes))(y:z.cells.size=size)(g n c)(A:i.eval q=L (S ⟨g,0,N⟩) n c)(vs)(C:vs.length=n*size)(D:dL a g e size vs c)(ad m c')(E:i.eval r=L (S ad) m c')(news)(G:news.length=m*size)(H:∀s j,news[s]?=S j->a.cell? (ad.add s)=S j)(K:∀j∈news,j.oneCell'=T)(M:(n+m)*bytes<=140737488355328)(O:n+m<=9223372036854775807)(Q:∀b d f,dL f b e size (vs++news) d->n+m<=d->((b=g/\d=c)\/(b=a.heap.size/\c<n+m/\ae aa a f))->ae (ap g) a f->wpList P l p o (i.put h.dst (L (S ⟨b,0,N⟩) (n+m) d)) f):
 wpList P l p (h::o) i a:=by
 refine WR u λZ R=>?_;obtain⟨b,d,f,U,V,W,X,Y⟩:=Hi (P:=P) a t h.type e z size bytes w x y g n c vs C D ad m c' news G H K M O;unfold Oper.wp;simp[execOp,v,resolve,invoke,builtin,A,E,U,Result.andThen];exact R _ _ (Q b d f V W X Y)
def vd{P}(a){h i b f j}(p:b.guard=N)(k l t)(q:b.op=Op.call {callee:=Callee.builtin Builtin.append,args:= #[k,l],argTypes:= #[t,t]})(e z size bytes)(r:P.underlying t=S (.slice e))(s:(P.info? e).map (λg=>(g.zero,g.size,g.bytes))=S (S z,size,bytes))(u:z.cells.size=size)(v:f.eval k=L N 0 0)(ad m c')(w:0<m)(x:f.eval l=L (S ad) m c')(news)(y:news.length=m*size)(A:∀n o,news[n]?=S o->a.cell? (ad.add n)=S o)(C:m*bytes<=140737488355328)(D:m<=9223372036854775807)(E:∀c d,dL d a.heap.size e size news c->m<=c->ae aa a d->wpList P h j i (f.put b.dst (L (S ⟨a.heap.size,0,N⟩) m c)) d):
 wpList P h j (b::i) f a:=by
 refine WR p λQ G=>?_;obtain⟨c,d,H,K,M,O⟩:=y9 (P:=P) a t b.type e z size bytes r s u ad m c' w news y A C D;unfold Oper.wp;simp[execOp,q,resolve,invoke,builtin,v,x,H,Result.andThen];exact G _ _ (E c d K M O)
end Go.Proofs.YtlfijfodklhplaaGreat
namespace Go.Proofs.YtlfijfodklhplaaGreat.Fr
def Ix(a b:Nat)(c:a<256)(d:b<256):bits .or J ((a:Int)*256) (b:Int)=((a*256+b:Nat):Int):=by show IntKind.i64.wrap ((BitVec.ofInt 64 ((a*256:Nat):Int)|||BitVec.ofInt 64 (b:Int)).toNat:Int)=_;rw[BitVec.toNat_or,ofInt_u64 _ (by omega),ofInt_u64 _ (by omega),nat_join 8 (a*256) b (by omega) (by omega)];rw[VM];omega
def kC(a:Nat):Nat:=if 32768<=a then (a*2%65536) ^^^ 4129 else a*2
def lC:Nat->Nat->Nat
 |0,a=>a
 |b+1,a=>kC (lC b a)
def qG(a b:Nat):Nat:=lC 8 (a ^^^ (b*256))
def n7(a:Nat)(b:List Nat):Nat:=b.foldl qG a
def cI(a:List Nat):Nat:=n7 65535 a
def qH{a b}(c:a<65536)(d:b<65536):a ^^^ b<65536:=Xq (n:=16) c d
def Iz{a}(b:a<65536):kC a<65536:=by unfold kC;split;exact qH (by omega) (by omega);omega
def tO{b}(c:b<65536):∀a,lC a b<65536
 |0=>c
 |a+1=>Iz (tO c a)
def vi{a b}(c:a<65536)(d:b<256):qG a b<65536:=tO (qH c (by omega)) 8
def zE(a b c):n7 a (b::c)=n7 (qG a b) c:=by simp[n7]
def CG{n}(a)(c:n<65536)(d:∀b∈a,b<256):n7 n a<65536:=by
 induction a generalizing n with
 |nil=>exact c
 |cons b e f=>
  rw[zE];have g:=vi c (d b (by simp));grind
def CI:65535<65536:=by omega
def n8(a)(b:∀c∈a,c<256):cI a<65536:=by exact CG (n:=65535) a CI b
def CJ(a)(b:a%2=0):(a ^^^ 4129)%2=1:=by simp_all
def zG{b c a:Nat}(d:b ^^^ a=c ^^^ a):b=c:=by have:=Vj (· ^^^ a) d;simpa [Nat.xor_assoc]using this
def Iy{a b}(d:a<65536)(e:b<65536)(c:kC a=kC b):a=b:=by unfold kC at c;split at c<;>split at c;have:=zG c;omega;have:=CJ (a*2%65536) (by omega);omega;have:=CJ (b*2%65536) (by omega);omega;omega
def zF{b c}(e:b<65536)(f:c<65536):∀a,lC a b=lC a c->b=c
 |0,d=>d
 |a+1,d=>zF e f a (Iy (tO e a) (tO f a) d)
def It{a b c}(d:a<65536)(e:b<65536)(g:c<256)(f:qG a c=qG b c):a=b:=
 zG (zF (qH d (by omega)) (qH e (by omega)) 8 f)
def Iu{a b c}(d:a<65536)(f:b<256)(g:c<256)(e:qG a b=qG a c):b=c:=by have:=zF (qH d (by omega)) (qH d (by omega)) 8 e;rw[Nat.xor_comm a,Nat.xor_comm a]at this;have:=zG this;omega
def Iv{a b}(c)(g:a<65536)(h:b<65536)(i:∀d∈c,d<256)(e:n7 a c=n7 b c):a=b:=by
 induction c generalizing a b with
 |nil=>exact e
 |cons d o j=>
  have f:=i d (by simp);rw[zE,zE]at e;have k:=vi g f;have l:=vi h f;refine It g h f ?_;exact j k l (λm n=>i m (by simp[n])) e
def Iw(a k)(j:k<a.length)(c)(l:c<256)(e:∀b∈a,b<256)(d:cI (a.set k c)=cI a):c=a[k]:=by
 have p:a=a.take k++a[k]::a.drop (k+1):=by simp
 have q:a.set k c=a.take k++c::a.drop (k+1):=List.set_eq_take_append_cons_drop .. |>.trans (by rw[UG j]);rw[q]at d;conv at d=>rhs;rw[p]
 unfold cI at d;have m:∀(n:Nat)(f g:List Nat)(b:Nat),n7 n (f++b::g)=n7 (qG (n7 n f) b) g:=λn f g b=>by simp[n7]
 rw[m,m]at d;have h:=CG (n:=65535) (a.take k) CI λb i=>e b (Wr i);have o:=e _ (Vk j);have:=Iv (a.drop (k+1)) (vi h l) (vi h o) (λb i=>e b (WJ i)) d;exact Iu h l o this
def CH(a b):cI (a++[b])=qG (cI a) b:=by simp[cI,n7]
structure cF where
 a:Nat
 c:Nat
 b:Nat
 d:Bool
structure ff where
 b:Bool
 a:Nat
 m:cF
def dq:cF:=⟨0,0,0,F⟩
def gO(a:ff):List Nat:=
 if a.b then [1,a.a/256,a.a%256,a.m.a,a.m.c,a.m.d.toNat,a.m.b/256,a.m.b%256]else [2,a.a/256,a.a%256]
def jZ(a:List Nat):List Nat:=a++[cI a/256,cI a%256]
def bi(a:ff):List Nat:=jZ (gO a)
end Go.Proofs.YtlfijfodklhplaaGreat.Fr
namespace Go.Proofs.YtlfijfodklhplaaGreat
abbrev Cr(a:FuncId)(b:Array Value)(c:World)(d:Value)(e:World->Prop):Prop:=Calls prog a b c λf g=>f= .returned d/\e g
def oT:List PanicEntry:=[{v:= .iface 279 (.agg #[]),recovered:=F}]
def Ta(a:Nat)(b:32768<=a):bits .xor .u16 (IntKind.u16.wrap ((a:Int)*2)) 4129=((Fr.kC a:Nat):Int):=by
 have c:IntKind.u16.wrap ((a:Int)*2)=((a*2%65536:Nat):Int):=by rw[IntKind.wrap_u16];omega
 rw[c];have:=u16_xor_nat (a*2%65536) 4129 (by omega) (by omega);simp only[Fr.kC,UG b];exact this
def Tc(a:Nat)(b:a<32768):(a:Int)*2=((Fr.kC a:Nat):Int):=by simp only[Fr.kC,Us (by omega:¬32768<=a)];omega
def pG{a b}(c:a=b):Ending.returned (B a)= .returned (B b):=by rw[c]
def rn{k a b}(c:a=b):Ending.returned (.int k a)= .returned (.int k b):=by rw[c]
def LK(a)(e:32768<=a)(f:a<65536)(b):
 Calls prog 208 #[.int .u16 a] b λc d=>c= .returned (.int .u16 (bits .xor .u16 (IntKind.u16.wrap (a*2)) 4129))/\d=b:=by
 go_enter func208,ntmps208;go_wp2;go_ret;exact⟨rfl,rfl⟩
def LL(a)(e:0<=a)(f:a<32768)(b):
 Calls prog 208 #[.int .u16 a] b λc d=>c= .returned (.int .u16 (a*2))/\d=b:=by
 go_enter func208,ntmps208;go_wp2;go_ret;exact⟨rfl,rfl⟩
def LJ(a:Nat)(f:a<65536)(b):
 Calls prog 208 #[.int .u16 (a:Int)] b λc d=>c= .returned (.int .u16 ((Fr.kC a:Nat):Int))/\d=b:=by
 by_cases e:32768<=a;rw[<-Ta a e];exact LK _ (by omega) (by omega) b;rw[<-Tc a (by omega)];exact LL _ (by omega) (by omega) b
def qs(a):
 Calls prog 210 #[B T] a λb c=>b= .returned (.tuple #[])/\c=a:=by
 go_enter func210,ntmps210;go_wp2;go_end0;exact⟨rfl,rfl⟩
def tt(a):
 Calls prog 210 #[B F] a λb c=>b= .panicked oT/\c=a:=by
 go_enter func210,ntmps210;go_wp2;exact⟨rfl,rfl,rfl⟩
def bv(a:Nat):Value:=I .u8 (a:Int)
def eB(c:World)(d:Nat)(a:List Nat)(e:Nat):Prop:=∃b:List Value,aq c d (a.map bv++b).toArray 5/\a.length+b.length=e
def eB.a{b c w' a d e}(f:eB c a d e)(k:ae b c w')(g:¬b a):eB w' a d e:=
 let ⟨h,i,j⟩:=f;⟨h,i.c k g,j⟩
def eB.c{a b c d}(e:eB a b c d):b<a.heap.size:=let ⟨_,f,_⟩:=e;f.b
def eB.drew{a b c d}(e:eB a b c d):eB a.drew b c d:=e
def eB.b{a b c d}(f:eB a b c d)(e):eB (a.alloc e) b c d:=f.a ((ae.a aa a).b e) λg=>g
def eB.d{a b c e}(f:eB a b c e):fE a b 0 c:=by obtain⟨h,g,_⟩:=f;intro i d;rw[Ve,g.a,UN,Ux (by simpa using d)];simp[d,bv]
def rZ(b:List Nat):∀a∈b.map bv,a.oneCell'=T:=by intro a c;obtain⟨d,_,rfl⟩:=Vb.1 c;rfl
def ng:(prog.info? 5).map (λa=>(a.zero,a.size,a.bytes))=S (S (.int .u8 0),1,1):=by kernel_rfl
def Hj(c n b e a)(g:eB c b a e)(j d c' f)(k:f.length=d)(q:∀o p,(f.map bv)[o]?=S p->c.cell? (j.add o)=S p)(r:a.length+d<=e):
 ∃l,(Builtin.append_ #[56,56] n #[L (S ⟨b,0,N⟩) a.length e,L (S j) d c']).run prog c= .ok (L (S ⟨b,0,N⟩) (a.length+d) e) l/\eB l b (a++f) e/\ae (ap b) c l:=by
 obtain⟨m,s,y,i,z⟩:=Xj ng;obtain⟨h,g,A⟩:=g;have t:=run_append_room (P:=prog) c 56 n 5 m underlying56 s b a.length e (a.map bv++h).toArray g j d c' (f.map bv) (by simp[i,k]) q (rZ f) r (by simp[i,k];omega);refine⟨_,t,⟨h.drop d,?_,by simp;omega⟩,?_⟩;unfold aq at g|-;rw[Xa c b _ _ _ _ g];have u:(a.map bv++h).take (a.length*m.size)=a.map bv:=by rw[i,Xb];exact WU (by simp)
 have v:(a.map bv++h).drop (a.length*m.size+(f.map bv).length)=h.drop d:=by rw[i,Xb,UX,k,We,U6 (by simp)];simp
 rw[u,v,Vm];exact⟨rfl,rfl,rfl,by simp[World.setRow],λw C x=>WQ c b w _ x⟩
def TX(a){f h b e i}(p:b.guard=N)(j k)(q:b.op=Op.call {callee:=Callee.builtin Builtin.append,args:= #[j,k],argTypes:= #[56,56]})(g c l)(r:e.eval j=L (S ⟨g,0,N⟩) l.length c)(s:eB a g l c)(ad m c')(t:e.eval k=L (S ad) m c')(news)(u:news.length=m)(v:∀n o,(news.map bv)[n]?=S o->a.cell? (ad.add n)=S o)(w:l.length+m<=c)(x:∀d,eB d g (l++news) c->ae (ap g) a d->wpList prog f i h (e.put b.dst (L (S ⟨g,0,N⟩) (l.length+m) c)) d):
 wpList prog f i (b::h) e a:=by
 refine WR p λD y=>?_;obtain⟨d,z,A,C⟩:=Hj a b.type g c l s ad m c' news u v w;unfold Oper.wp;simp[execOp,q,resolve,invoke,builtin,r,t,z,Result.andThen];exact y _ _ (x d A C)
def zg{f a b d h p q}(r:a.guard=N)(i j)(s:a.op=Op.call {callee:=Callee.builtin Builtin.append,args:= #[i,j],argTypes:= #[56,56]})(g c l k)(t:l.length=k)(u:b.eval i=L (S ⟨g,0,N⟩) k c)(v:eB d g l c)(ad m c')(w:b.eval j=L (S ad) m c')(news)(x:news.length=m)(y:∀n o,(news.map bv)[n]?=S o->d.cell? (ad.add n)=S o)(z:k+m<=c)(A:∀e,eB e g (l++news) c->ae (ap g) d e->h (b.put a.dst (L (S ⟨g,0,N⟩) (k+m) c)) e):
 if Region.wanted a (yielded f b.tmps)=T then Oper.wp prog a b d h p else q:=by
 subst t;have C:Region.wanted a (yielded f b.tmps)=T:=by simp[Region.wanted,r]
 rw[UG C];obtain⟨e,D,E,G⟩:=Hj d a.type g c l v ad m c' news x y z;unfold Oper.wp;simp[execOp,s,resolve,invoke,builtin,u,w,D,Result.andThen];exact A e E G
def LI(d:World)(e f)(g h:Nat)(i:e=(g:Int))(j:f=(h:Int))(t):
 ∀b c,([g,h].map bv)[b]?=S c->(d.alloc (.cells #[.int .u8 e,.int .u8 f] t)).cell? ((⟨d.heap.size,0,N⟩:Addr).add b)=S c:=by
 intro b c a;subst i j;rw[Va,Ve,Vf];match b,a with
 |0,a=>simpa [bv]using a
 |1,a=>simpa [bv]using a
def KL(a b c)(d:Nat)(e)(g:eB e a c b)(h:c.length+2<=b)(k:d<65536):
 Cr 177 #[L (S ⟨a,0,N⟩) c.length b,.int J d] e (L (S ⟨a,0,N⟩) (c.length+2) b) λf=>eB f a (c++[d/256,d%256]) b/\ae (ap a) e f:=by
 go_enter func177,ntmps177;go_wp2_with (at_builtin;refine TX _ rfl (.tmp 5) (.tmp 11) rfl a b c rfl (g.b _) ⟨e.heap.size,0,N⟩ 2 2 rfl [d/256,d%256] rfl (LI e _ _ _ _ (by omega) (by omega) _) h ?_;intro l i j);go_ret;exact⟨rfl,i,((ae.a _ _).b _).c j⟩
def uw(a b d k)(g:d.length=k)(c:Nat)(e)(h:eB e a d b)(i:k+2<=b)(j:c<65536):
 Cr 177 #[L (S ⟨a,0,N⟩) k b,.int J c] e (L (S ⟨a,0,N⟩) (k+2) b) λf=>eB f a (d++[c/256,c%256]) b/\ae (ap a) e f:=by
 subst g;exact KL a b d c e h i j
abbrev gp(a:World)(b:Nat)(c:List Nat)(d:Nat):Prop:=dL a b 5 1 (c.map bv) d
def lI{a b c d}(e:gp a b c d):fE a b 0 c:=by intro f g;rw[Ve];exact e.c f _ (by simp[g,bv])
def ke(c:World)(d:List Value)(t e)(f:e=c.heap.size):∀a b,d[a]?=S b->(c.alloc (.cells d.toArray t)).cell? ((⟨e,0,N⟩:Addr).add a)=S b:=by intro a b g;subst f;rw[Va,Ve,Vf,UN];exact g
def EL{c d e f}(h:fE c d e f):∀a b,(f.map bv)[a]?=S b->c.cell? ((⟨d,e,N⟩:Addr).add a)=S b:=by intro a b g;rw[Uz]at g;obtain⟨k,i,rfl⟩:=UD.1 g;obtain⟨j,rfl⟩:=Ul.1 i;rw[Va];exact h a j
end Go.Proofs.YtlfijfodklhplaaGreat
