import Derived.Test.YtlfijfodklhplaaGreatTn07
import Derived.StillTailTactics
import Derived.Deep.QuietTactic
import Derived.BigQuiet
import Derived.BigRegion
import Derived.Deep.RegionLaw
set_option maxRecDepth 100000
set_option maxHeartbeats 4000000
set_option linter.unusedVariables false
set_option linter.unusedSimpArgs false
namespace Go.Proofs.YtlfijfodklhplaaGreat
open Go.RowKit
theorem step_append_any{P:Program}{ops:Array Oper}{o:Oper}{a:Act}{w:World}{K:Act→World→Prop}{Q:Exit→Act→World→Prop}{E:Prop}
 (hg:o.guard=none) (s x:Operand) (t:TypeId) (hop:o.op=Op.call { callee:=Callee.builtin Builtin.append,args:=#[s,x],argTypes:=#[t,t]})
 (e:TypeId) (z:Value) (size bytes:Nat) (ht:P.underlying t=some (.slice e)) (hinfo:(P.info? e).map (fun i=>(i.zero,i.size,i.bytes))=some (some z,size,bytes)) (hzs:z.cells.size=size)
 (g n c:Nat) (hs:a.eval s=.slice (some ⟨g,0,none⟩) n c) (vs:List Value) (hn:vs.length=n * size) (hb:VBuf w g e size vs c) (ad:Addr) (m c':Nat) (hx:a.eval x=.slice (some ad) m c') (news:List Value) (hm:news.length=m * size)
 (hc:∀j u,news[j]?=some u→w.cell? (ad.add j)=some u) (h1:∀u∈news,u.oneCell'=true) (hbytes:(n+m) * bytes≤140737488355328) (h63:n+m≤9223372036854775807)
 (hK:∀g' k' w',VBuf w' g' e size (vs++news) k'→n+m≤k'→((g'=g∧k'=c)∨(g'=w.heap.size∧c<n+m∧Keep nil w w'))→Keep (only g) w w'→K (a.put o.dst (.slice (some ⟨g',0,none⟩) (n+m) k')) w'):
 if Region.wanted o (yielded ops a.tmps)=true then Oper.wp P o a w K Q else E:=by
 have hw:Region.wanted o (yielded ops a.tmps)=true:=by simp[Region.wanted,hg]
 rw[if_pos hw]
 obtain⟨g',k',w',hrun,r1,r2,r3,r4⟩:=run_append_any (P:=P) w t o.type e z size bytes ht hinfo hzs g n c vs hn hb ad m c' news hm hc h1 hbytes h63
 unfold Oper.wp
 simp[execOp,hop,resolve,invoke,builtin,hs,hx,hrun,Result.andThen]
 exact hK g' k' w' r1 r2 r3 r4
structure At(B:Nat)(w:World)(N:Nat)(vs:List Value):Prop where
 ge:B≤N
 lt:N<w.heap.size
 cell:∀j u,vs[j]?=some u→w.cell? ((⟨N,0,none⟩:Addr).add j)=some u
theorem At.new{B:Nat}{w:World}{N:Nat}{vs:List Value}{t:TypeId}(hN:N=w.heap.size)(hB:B≤w.heap.size):At B (w.alloc (.cells vs.toArray t)) N vs:=
 ⟨by omega,by simp;omega,cells_elist w vs t N hN⟩
theorem At.newd{B:Nat}{w:World}{N:Nat}{vs:List Value}{t:TypeId}(hN:N=w.heap.size)(hB:B≤w.heap.size):At B (w.alloc (.cells vs.toArray t)).drew N vs:=
 ⟨by omega,by simp;omega,cells_elist w vs t N hN⟩
structure Th where
 e:Ed
 w:Int
def Th.cells(t:Th):List Value:=[.int .i64 t.e.a,.int .i64 t.e.b,.int .i64 t.e.wt,.int .i64 t.w]
def tcells(l:List Th):List Value:=l.flatMap Th.cells
theorem tcells_cons(t:Th)(l:List Th):tcells (t::l)=t.cells++tcells l:=by simp[tcells]
theorem tcells_len(l:List Th):(tcells l).length=l.length * 4:=by
 induction l with
 |nil=>rfl
 |cons e t ih=>rw[tcells_cons,List.length_append,ih,List.length_cons];simp[Th.cells];omega
theorem tcells_append(l m:List Th):tcells (l++m)=tcells l++tcells m:=by simp[tcells]
theorem tcells_one(l:List Th):∀u∈tcells l,u.oneCell'=true:=by
 intro u hu
 obtain⟨e,_,h⟩:=List.mem_flatMap.1 hu
 simp only[Th.cells,List.mem_cons,List.not_mem_nil,or_false]at h
 rcases h with rfl|rfl|rfl|rfl<;>rfl
theorem tcells_get(l:List Th):∀(k:Nat) (t:Th),l[k]?=some t→(tcells l)[k * 4]?=some (.int .i64 t.e.a)∧(tcells l)[k * 4+1]?=some (.int .i64 t.e.b)∧(tcells l)[k * 4+2]?=some (.int .i64 t.e.wt)∧(tcells l)[k * 4+3]?=some (.int .i64 t.w):=by
 induction l with
 |nil=>intro k e h;simp at h
 |cons x t ih=>
  intro k e h
  rw[tcells_cons]
  cases k with
  |zero=>
   simp at h
   subst h
   exact⟨rfl,rfl,rfl,rfl⟩
  |succ k=>
   rw[List.getElem?_cons_succ]at h
   have:=ih k e h
   have hl:x.cells.length=4:=rfl
   rw[List.getElem?_append_right (by omega),List.getElem?_append_right (by omega),List.getElem?_append_right (by omega),List.getElem?_append_right (by omega),hl]
   rw[show (k+1) * 4 - 4=k * 4 by omega,show (k+1) * 4+1 - 4=k * 4+1 by omega,show (k+1) * 4+2 - 4=k * 4+2 by omega,show (k+1) * 4+3 - 4=k * 4+3 by omega]
   exact this
theorem tcells_set(l:List Th):∀(k:Nat) (t:Th),((((tcells l).set (k * 4) (.int .i64 t.e.a)).set (k * 4+1) (.int .i64 t.e.b)).set (k * 4+2) (.int .i64 t.e.wt)).set (k * 4+3) (.int .i64 t.w)=tcells (l.set k t):=by
 induction l with
 |nil=>intro k t;simp[tcells]
 |cons x r ih=>
  intro k t
  cases k with
  |zero=>simp[tcells,Th.cells]
  |succ k=>
   rw[List.set_cons_succ,tcells_cons,tcells_cons,←ih k t]
   have hl:x.cells.length=4:=rfl
   rw[List.set_append_right _ _ (by omega),List.set_append_right _ _ (by omega),List.set_append_right _ _ (by omega),List.set_append_right _ _ (by omega),hl]
   rw[show (k+1) * 4 - 4=k * 4 by omega,show (k+1) * 4+1 - 4=k * 4+1 by omega,show (k+1) * 4+2 - 4=k * 4+2 by omega,show (k+1) * 4+3 - 4=k * 4+3 by omega]
abbrev TBuf(w:World)(g:Nat)(l:List Th)(c:Nat):Prop:=VBuf w g 237 4 (tcells l) c
theorem tbuf_get{w:World}{g c:Nat}{l:List Th}(h:TBuf w g l c)(k:Nat)(t:Th)(hk:l[k]?=some t):
 w.cell? ⟨g,k * 4,none⟩=some (.int .i64 t.e.a)∧w.cell? ⟨g,k * 4+1,none⟩=some (.int .i64 t.e.b)∧w.cell? ⟨g,k * 4+2,none⟩=some (.int .i64 t.e.wt)∧w.cell? ⟨g,k * 4+3,none⟩=some (.int .i64 t.w):=by
 obtain⟨h0,h1,h2,h3⟩:=tcells_get l k t hk
 exact⟨h.cell _ _ h0,h.cell _ _ h1,h.cell _ _ h2,h.cell _ _ h3⟩
theorem VBuf.put{w:World}{g:Nat}{e:TypeId}{size:Nat}{vs:List Value}{c:Nat}(h:VBuf w g e size vs c)(p:Nat)(hp:p<vs.length)(v:Value):VBuf (w.setCell ⟨g,p,none⟩ v) g e size (vs.set p v) c:=by
 obtain⟨sp,hb,hc⟩:=h
 refine⟨sp,?_,by rw[List.length_set];exact hc⟩
 have:=hb.set p v
 rw[List.setIfInBounds_toArray,List.set_append_left _ _ hp]at this
 exact this
def put4(w:World)(g k:Nat)(t:Th):World:=(((w.setCell ⟨g,k * 4,none⟩ (.int .i64 t.e.a)).setCell ⟨g,k * 4+1,none⟩ (.int .i64 t.e.b)).setCell ⟨g,k * 4+2,none⟩ (.int .i64 t.e.wt)).setCell ⟨g,k * 4+3,none⟩ (.int .i64 t.w)
theorem tbuf_put{w:World}{g c:Nat}{l:List Th}(h:TBuf w g l c)(k:Nat)(hk:k<l.length)(t:Th):TBuf (put4 w g k t) g (l.set k t) c:=by
 have hl:=tcells_len l
 have h0:=VBuf.put h (k * 4) (by omega) (.int .i64 t.e.a)
 have h1:=VBuf.put h0 (k * 4+1) (by rw[List.length_set];omega) (.int .i64 t.e.b)
 have h2:=VBuf.put h1 (k * 4+2) (by rw[List.length_set,List.length_set];omega) (.int .i64 t.e.wt)
 have h3:=VBuf.put h2 (k * 4+3) (by rw[List.length_set,List.length_set,List.length_set];omega) (.int .i64 t.w)
 rw[tcells_set]at h3
 exact h3
theorem keep_put4(w:World)(g k:Nat)(t:Th):Keep (only g) w (put4 w g k t):=
 ((((Keep.refl (only g) w).setCell (p:=⟨g,k * 4,none⟩) (fun _=>rfl) _).setCell (p:=⟨g,k * 4+1,none⟩) (fun _=>rfl) _).setCell (p:=⟨g,k * 4+2,none⟩) (fun _=>rfl) _).setCell (p:=⟨g,k * 4+3,none⟩) (fun _=>rfl) _
theorem len_any(a:Option Addr)(n c:Nat)(w:World):Calls Tryz.prog 244 #[.slice a n c] w fun e w'=>e=.returned (.int .i64 (n:Int))∧w=w':=by
 go_enter Tryz.func244,Tryz.ntmps244
 go_wp2
 go_ret
 exact⟨rfl,rfl⟩
theorem less_any(pb n c:Nat)(L:List Th)(i j:Nat)(x y:Th)(hi:L[i]?=some x)(hj:L[j]?=some y)(w:World)(hb:TBuf w pb L c)(hin:(i:Int)<(n:Int))(hjn:(j:Int)<(n:Int)):
 Calls Tryz.prog 245 #[.slice (some ⟨pb,0,none⟩) n c,.int .i64 (i:Int),.int .i64 (j:Int)] w fun e w'=>e=.returned (.bool (decide (x.w<y.w)))∧∃m,w'=w.drewN m:=by
 have c1:=(tbuf_get hb i x hi).2.2.2
 have c2:=(tbuf_get hb j y hj).2.2.2
 clear hb hi hj
 go_enter Tryz.func245,Tryz.ntmps245
 go_wp2_with fail
 go_quiet (fail)
 go_wp2
 go_ret
 exact⟨rfl,nq,rfl⟩
theorem swap_any(pb n c:Nat)(L:List Th)(i j:Nat)(x y:Th)(hi:L[i]?=some x)(hj:L[j]?=some y)(w:World)(hb:TBuf w pb L c)(hin:(i:Int)<(n:Int))(hjn:(j:Int)<(n:Int))(hij:i≠j):
 Calls Tryz.prog 246 #[.slice (some ⟨pb,0,none⟩) n c,.int .i64 (i:Int),.int .i64 (j:Int)] w fun e w'=>e=.returned (.tuple #[])∧TBuf w' pb ((L.set i y).set j x) c∧Keep (only pb) w w':=by
 obtain⟨a0,a1,a2,a3⟩:=tbuf_get hb i x hi
 obtain⟨b0,b1,b2,b3⟩:=tbuf_get hb j y hj
 have f0:=fun p=>hb.frozen p
 have fi0:=f0 (i * 4)
 have fi1:=f0 (i * 4+1)
 have fi2:=f0 (i * 4+2)
 have fi3:=f0 (i * 4+3)
 have fj0:=f0 (j * 4)
 have fj1:=f0 (j * 4+1)
 have fj2:=f0 (j * 4+2)
 have fj3:=f0 (j * 4+3)
 have HP:Unit→TBuf (put4 (put4 w pb i y) pb j x) pb ((L.set i y).set j x) c∧Keep (only pb) w (put4 (put4 w pb i y) pb j x):=fun _=>
  ⟨tbuf_put (tbuf_put hb i (List.getElem?_eq_some_iff.1 hi).1 y) j (by rw[List.length_set];exact(List.getElem?_eq_some_iff.1 hj).1) x,(keep_put4 w pb i y).trans (keep_put4 _ pb j x)⟩
 clear hb hi hj f0
 go_enter Tryz.func246,Tryz.ntmps246
 go_wp2_with fail
 go_region
 all_goals go_end0
 exact⟨rfl,(HP ()).1.drew,(HP ()).2.drew⟩
theorem swap_same(pb n c:Nat)(L:List Th)(i:Nat)(x:Th)(hi:L[i]?=some x)(w:World)(hb:TBuf w pb L c)(hin:(i:Int)<(n:Int)):
 Calls Tryz.prog 246 #[.slice (some ⟨pb,0,none⟩) n c,.int .i64 (i:Int),.int .i64 (i:Int)] w fun e w'=>e=.returned (.tuple #[])∧TBuf w' pb L c∧Keep (only pb) w w':=by
 obtain⟨a0,a1,a2,a3⟩:=tbuf_get hb i x hi
 have f0:=fun p=>hb.frozen p
 have fi0:=f0 (i * 4)
 have fi1:=f0 (i * 4+1)
 have fi2:=f0 (i * 4+2)
 have fi3:=f0 (i * 4+3)
 have hset:(L.set i x)=L:=by
  refine List.ext_getElem? (fun k=>?_)
  rw[List.getElem?_set]
  split
  ·rename_i h;subst h;rw[hi,if_pos (List.getElem?_eq_some_iff.1 hi).1]
  ·rfl
 have HP:Unit→TBuf (put4 (put4 w pb i x) pb i x) pb L c∧Keep (only pb) w (put4 (put4 w pb i x) pb i x):=fun _=>
  ⟨by
   have h1:=tbuf_put hb i (List.getElem?_eq_some_iff.1 hi).1 x
   rw[hset]at h1
   have h2:=tbuf_put h1 i (List.getElem?_eq_some_iff.1 hi).1 x
   rw[hset]at h2
   exact h2,(keep_put4 w pb i x).trans (keep_put4 _ pb i x)⟩
 clear hb hi f0 hset
 go_enter Tryz.func246,Tryz.ntmps246
 go_wp2_with fail
 go_region
 all_goals go_end0
 exact⟨rfl,(HP ()).1.drew,(HP ()).2.drew⟩
theorem thing_info:(Tryz.prog.info? 237).map (fun i=>(i.zero,i.size,i.bytes))=some (some (.agg #[.int .i64 0,.int .i64 0,.int .i64 0,.int .i64 0]),4,32):=by kernel_rfl
@[go_sem] theorem assert_thing (v:Value) (w:World):(Instr.typeAssert (.iface 237 v) 20 237 false).run Tryz.prog w=.ok v w:=by kernel_rfl
abbrev thv(t:Th):Value:=.iface 237 (.agg #[.int .i64 t.e.a,.int .i64 t.e.b,.int .i64 t.e.wt,.int .i64 t.w])
theorem step_append_new{P:Program}{ops:Array Oper}{o:Oper}{a:Act}{w:World}{K:Act→World→Prop}{Q:Exit→Act→World→Prop}{E:Prop}
 (hg:o.guard=none) (s x:Operand) (t:TypeId) (hop:o.op=Op.call { callee:=Callee.builtin Builtin.append,args:=#[s,x],argTypes:=#[t,t]})
 (e:TypeId) (z:Value) (size bytes:Nat) (ht:P.underlying t=some (.slice e)) (hinfo:(P.info? e).map (fun i=>(i.zero,i.size,i.bytes))=some (some z,size,bytes)) (hzs:z.cells.size=size)
 (hs:a.eval s=.slice none 0 0) (ad:Addr) (m c':Nat) (h0:0<m) (hx:a.eval x=.slice (some ad) m c') (news:List Value) (hm:news.length=m * size)
 (hc:∀j u,news[j]?=some u→w.cell? (ad.add j)=some u) (hbytes:m * bytes≤140737488355328) (h63:m≤9223372036854775807)
 (hK:∀k' w',VBuf w' w.heap.size e size news k'→m≤k'→Keep nil w w'→K (a.put o.dst (.slice (some ⟨w.heap.size,0,none⟩) m k')) w'):
 if Region.wanted o (yielded ops a.tmps)=true then Oper.wp P o a w K Q else E:=by
 have hw:Region.wanted o (yielded ops a.tmps)=true:=by simp[Region.wanted,hg]
 rw[if_pos hw]
 obtain⟨k',w',hrun,r1,r2,r3⟩:=run_append_new (P:=P) w t o.type e z size bytes ht hinfo hzs ad m c' h0 news hm hc hbytes h63
 unfold Oper.wp
 simp[execOp,hop,resolve,invoke,builtin,hs,hx,hrun,Result.andThen]
 exact hK k' w' r1 r2 r3
theorem push_end{w w0 w1:World}{hb ho pb' c' n:Nat}{cs:Array Value}{ty:TypeId}{G:Nat→Prop}{vs:List Value}(hbk:Blk w hb cs ty)(k0:Keep nil w w0)(hk:Keep G w0 w1)(hG:¬G hb)(ht:VBuf w1 pb' 237 4 vs c')(hp:pb'≠hb):
 Blk (w1.setCell ⟨hb,ho,none⟩ (.slice (some ⟨pb',0,none⟩) n c')) hb (cs.setIfInBounds ho (.slice (some ⟨pb',0,none⟩) n c')) ty∧VBuf (w1.setCell ⟨hb,ho,none⟩ (.slice (some ⟨pb',0,none⟩) n c')) pb' 237 4 vs c'∧
  Keep (fun b=>b=hb∨G b) w (w1.setCell ⟨hb,ho,none⟩ (.slice (some ⟨pb',0,none⟩) n c')):=by
 have ks:Keep (only hb) w1 (w1.setCell ⟨hb,ho,none⟩ (.slice (some ⟨pb',0,none⟩) n c')):=(Keep.refl (only hb) w1).setCell (p:=⟨hb,ho,none⟩) (fun _=>rfl) _
 refine⟨((hbk.keep k0 (fun e=>e)).keep hk hG).set ho _,ht.keep ks (fun e=>hp e),?_⟩
 exact(((k0.mono (fun _ _ e=>e.elim)).trans (hk.mono (ex':=fun b=>b=hb∨G b) (fun _ _ e=>Or.inr e)))).setCell (p:=⟨hb,ho,none⟩) (fun _=>Or.inl rfl) _
theorem push_some(hb ho:Nat)(cs:Array Value)(ty:TypeId)(pb c:Nat)(L:List Th)(t:Th)(w:World)(hbk:Blk w hb cs ty)(hcs:cs[ho]?=some (.slice (some ⟨pb,0,none⟩) L.length c))(hne:hb≠pb)(ht:TBuf w pb L c)(hlen:(L.length:Int)<1000000):
 Calls Tryz.prog 249 #[.pointer (some ⟨hb,ho,none⟩),thv t] w fun e w'=>e=.returned (.tuple #[])∧∃pb' c',Blk w' hb (cs.setIfInBounds ho (.slice (some ⟨pb',0,none⟩) (L.length+1) c')) ty∧
  TBuf w' pb' (L++[t]) c'∧L.length+1≤c'∧(pb'=pb∨w.heap.size≤pb')∧pb'≠hb∧Keep (fun b=>b=hb∨b=pb) w w':=by
 have h0:=(hbk.cell ho).trans hcs
 have f0:=hbk.frozen ho
 have hpl:=ht.lt
 have hhl:=hbk.lt
 have HB:Unit→Blk w hb cs ty∧TBuf w pb L c:=fun _=>⟨hbk,ht⟩
 have HL:Unit→(L.length:Int)<1000000:=fun _=>hlen
 have HC:Unit→cs[ho]?=some (.slice (some ⟨pb,0,none⟩) L.length c):=fun _=>hcs
 clear hbk hcs ht hlen
 go_enter Tryz.func249,Tryz.ntmps249
 go_wp2_with fail
 go_region_law (refine step_append_any rfl (.tmp 7) (.tmp 10) 170 rfl 237 (.agg #[.int .i64 0,.int .i64 0,.int .i64 0,.int .i64 0]) 4 32 Tryz.underlying170 thing_info rfl pb L.length c (by simp[Act.eval,Act.put]) (tcells L) (tcells_len L) (((HB ()).2.alloc _).drew) ⟨w.heap.size,0,none⟩ 1 1 (by simp[Act.eval,Act.put]) (tcells [t]) rfl (At.cell (B:=0) (At.newd rfl (Nat.zero_le _))) (tcells_one _) (by have:=HL ();omega) (by have:=HL ();omega) ?_;intro pb' c' w1 hb1 hc1 hd1 hk1;have h1:=((((HB ()).1.old _).drew.keep hk1 (fun e=>hne e)).cell ho).trans (HC ());have f1:=(((HB ()).1.old _).drew.keep hk1 (fun e=>hne e)).frozen ho)
 all_goals
  go_end0
  have hp:pb'≠hb:=by
   rcases hd1 with⟨e,_⟩|⟨e,_⟩
   ·rw[e];exact Ne.symm hne
   ·simp only[World.size_drew,World.size_alloc]at e;omega
  obtain⟨e1,e2,e3⟩:=push_end (ho:=ho) (n:=L.length+1) (HB ()).1 (((Keep.refl nil w).alloc _).drew) hk1 (fun e=>hne e) hb1 hp
  rw[←tcells_append]at e2
  refine⟨rfl,pb',c',e1,e2,hc1,?_,hp,e3⟩
  rcases hd1 with⟨e,_⟩|⟨e,_⟩
  ·exact Or.inl e
  ·simp only[World.size_drew,World.size_alloc]at e;exact Or.inr (by omega)
theorem push_nil(hb ho:Nat)(cs:Array Value)(ty:TypeId)(t:Th)(w:World)(hbk:Blk w hb cs ty)(hcs:cs[ho]?=some (.slice none 0 0)):
 Calls Tryz.prog 249 #[.pointer (some ⟨hb,ho,none⟩),thv t] w fun e w'=>e=.returned (.tuple #[])∧∃pb' c',Blk w' hb (cs.setIfInBounds ho (.slice (some ⟨pb',0,none⟩) 1 c')) ty∧
  TBuf w' pb' [t] c'∧1≤c'∧w.heap.size≤pb'∧pb'≠hb∧Keep (only hb) w w':=by
 have h0:=(hbk.cell ho).trans hcs
 have f0:=hbk.frozen ho
 have hhl:=hbk.lt
 have HB:Unit→Blk w hb cs ty:=fun _=>hbk
 have HC:Unit→cs[ho]?=some (.slice none 0 0):=fun _=>hcs
 clear hbk hcs
 go_enter Tryz.func249,Tryz.ntmps249
 go_wp2_with fail
 go_region_law (refine step_append_new rfl (.tmp 7) (.tmp 10) 170 rfl 237 (.agg #[.int .i64 0,.int .i64 0,.int .i64 0,.int .i64 0]) 4 32 Tryz.underlying170 thing_info rfl (by simp[Act.eval,Act.put]) ⟨w.heap.size,0,none⟩ 1 1 (by omega) (by simp[Act.eval,Act.put]) (tcells [t]) rfl (At.cell (B:=0) (At.newd rfl (Nat.zero_le _))) (by omega) (by omega) ?_;intro c' w1 hb1 hc1 hk1;have h1:=((((HB ()).old _).drew.keep hk1 (fun e=>e)).cell ho).trans (HC ());have f1:=(((HB ()).old _).drew.keep hk1 (fun e=>e)).frozen ho)
 all_goals
  go_end0
  simp only[World.size_drew,World.size_alloc]at hb1⊢
  obtain⟨e1,e2,e3⟩:=push_end (ho:=ho) (n:=1) (HB ()) (((Keep.refl nil w).alloc _).drew) hk1 (fun e=>e) hb1 (by omega)
  exact⟨trivial,_,c',e1,e2,hc1,by omega,by omega,e3.mono (fun _ _ e=>e.elim id (fun e=>e.elim))⟩
theorem pop_any(hb ho:Nat)(cs:Array Value)(ty:TypeId)(pb c n:Nat)(L:List Th)(t:Th)(w:World)(hbk:Blk w hb cs ty)(hcs:cs[ho]?=some (.slice (some ⟨pb,0,none⟩) (n+1) c))(hne:hb≠pb)(ht:TBuf w pb L c)(hl:L.length=n+1)(hnc:n+1≤c)(hlast:L[n]?=some t)(hlen:(n:Int)<1000000):
 Calls Tryz.prog 248 #[.pointer (some ⟨hb,ho,none⟩)] w fun e w'=>e=.returned (thv t)∧Blk w' hb (cs.setIfInBounds ho (.slice (some ⟨pb,0,none⟩) n c)) ty∧
  TBuf w' pb (L.take n) c∧Keep (only hb) w w':=by
 have h0:=(hbk.cell ho).trans hcs
 have f0:=hbk.frozen ho
 have hhl:=hbk.lt
 have hpl:=ht.lt
 obtain⟨q0,q1,q2,q3⟩:=tbuf_get ht n t hlast
 have hcI:(n:Int)≤(c:Int):=by omega
 have hwn:wrap64 (n:Int)=(n:Int):=by unfold wrap64;omega
 have HB:Unit→Blk w hb cs ty∧TBuf w pb (L.take n) c:=fun _=>⟨hbk,by
  have:=ht.less (n * 4)
  have e:(tcells L).take (n * 4)=tcells (L.take n):=by
   have h1:tcells L=tcells (L.take n)++tcells (L.drop n):=by rw[←tcells_append,List.take_append_drop]
   have h2:(tcells (L.take n)).length=n * 4:=by rw[tcells_len,List.length_take];omega
   rw[h1,←h2,List.take_left]
  rw[e]at this
  exact this⟩
 clear hbk hcs ht hl hlast hlen
 go_enter Tryz.func248,Tryz.ntmps248
 go_wp2
 go_ret
 obtain⟨e1,e2,e3⟩:=push_end (ho:=ho) (n:=n) (w1:=w) (HB ()).1 (Keep.refl nil w) (Keep.refl nil _) (fun e=>e) (HB ()).2 (Ne.symm hne)
 exact⟨rfl,e1.old _,e2.alloc _,(e3.mono (fun _ _ e=>e.elim id (fun e=>e.elim))).alloc _⟩
end Go.Proofs.YtlfijfodklhplaaGreat
namespace Go.Proofs.YtlfijfodklhplaaGreat.HI
open Go.RowKit
structure Th where
 e:Int
 w:Int
def Th.cells(t:Th):List Value:=[.int .i64 t.e,.int .i64 t.w]
def tcells(l:List Th):List Value:=l.flatMap Th.cells
theorem tcells_cons(t:Th)(l:List Th):tcells (t::l)=t.cells++tcells l:=by simp[tcells]
theorem tcells_len(l:List Th):(tcells l).length=l.length * 2:=by
 induction l with
 |nil=>rfl
 |cons e t ih=>rw[tcells_cons,List.length_append,ih,List.length_cons];simp[Th.cells];omega
theorem tcells_append(l m:List Th):tcells (l++m)=tcells l++tcells m:=by simp[tcells]
theorem tcells_one(l:List Th):∀u∈tcells l,u.oneCell'=true:=by
 intro u hu
 obtain⟨e,_,h⟩:=List.mem_flatMap.1 hu
 simp only[Th.cells,List.mem_cons,List.not_mem_nil,or_false]at h
 rcases h with rfl|rfl<;>rfl
theorem tcells_get(l:List Th):∀(k:Nat) (t:Th),l[k]?=some t→(tcells l)[k * 2]?=some (.int .i64 t.e)∧(tcells l)[k * 2+1]?=some (.int .i64 t.w):=by
 induction l with
 |nil=>intro k e h;simp at h
 |cons x t ih=>
  intro k e h
  rw[tcells_cons]
  cases k with
  |zero=>
   simp at h
   subst h
   exact⟨rfl,rfl⟩
  |succ k=>
   rw[List.getElem?_cons_succ]at h
   have:=ih k e h
   have hl:x.cells.length=2:=rfl
   rw[List.getElem?_append_right (by omega),List.getElem?_append_right (by omega),hl]
   rw[show (k+1) * 2 - 2=k * 2 by omega,show (k+1) * 2+1 - 2=k * 2+1 by omega]
   exact this
theorem tcells_set(l:List Th):∀(k:Nat) (t:Th),((tcells l).set (k * 2) (.int .i64 t.e)).set (k * 2+1) (.int .i64 t.w)=tcells (l.set k t):=by
 induction l with
 |nil=>intro k t;simp[tcells]
 |cons x r ih=>
  intro k t
  cases k with
  |zero=>simp[tcells,Th.cells]
  |succ k=>
   rw[List.set_cons_succ,tcells_cons,tcells_cons,←ih k t]
   have hl:x.cells.length=2:=rfl
   rw[List.set_append_right _ _ (by omega),List.set_append_right _ _ (by omega),hl]
   rw[show (k+1) * 2 - 2=k * 2 by omega,show (k+1) * 2+1 - 2=k * 2+1 by omega]
abbrev TBuf(w:World)(g:Nat)(l:List Th)(c:Nat):Prop:=VBuf w g 304 2 (tcells l) c
theorem tbuf_get{w:World}{g c:Nat}{l:List Th}(h:TBuf w g l c)(k:Nat)(t:Th)(hk:l[k]?=some t):
 w.cell? ⟨g,k * 2,none⟩=some (.int .i64 t.e)∧w.cell? ⟨g,k * 2+1,none⟩=some (.int .i64 t.w):=by
 obtain⟨h0,h1⟩:=tcells_get l k t hk
 exact⟨h.cell _ _ h0,h.cell _ _ h1⟩
def put4(w:World)(g k:Nat)(t:Th):World:=(w.setCell ⟨g,k * 2,none⟩ (.int .i64 t.e)).setCell ⟨g,k * 2+1,none⟩ (.int .i64 t.w)
theorem tbuf_put{w:World}{g c:Nat}{l:List Th}(h:TBuf w g l c)(k:Nat)(hk:k<l.length)(t:Th):TBuf (put4 w g k t) g (l.set k t) c:=by
 have hl:=tcells_len l
 have h0:=VBuf.put h (k * 2) (by omega) (.int .i64 t.e)
 have h1:=VBuf.put h0 (k * 2+1) (by rw[List.length_set];omega) (.int .i64 t.w)
 rw[tcells_set]at h1
 exact h1
theorem keep_put4(w:World)(g k:Nat)(t:Th):Keep (only g) w (put4 w g k t):=
 ((Keep.refl (only g) w).setCell (p:=⟨g,k * 2,none⟩) (fun _=>rfl) _).setCell (p:=⟨g,k * 2+1,none⟩) (fun _=>rfl) _
theorem len_any(a:Option Addr)(n c:Nat)(w:World):Calls Tryz.prog 250 #[.slice a n c] w fun e w'=>e=.returned (.int .i64 (n:Int))∧w=w':=by
 go_enter Tryz.func250,Tryz.ntmps250
 go_wp2
 go_ret
 exact⟨rfl,rfl⟩
theorem less_any(pb n c:Nat)(L:List Th)(i j:Nat)(x y:Th)(hi:L[i]?=some x)(hj:L[j]?=some y)(w:World)(hb:TBuf w pb L c)(hin:(i:Int)<(n:Int))(hjn:(j:Int)<(n:Int)):
 Calls Tryz.prog 251 #[.slice (some ⟨pb,0,none⟩) n c,.int .i64 (i:Int),.int .i64 (j:Int)] w fun e w'=>e=.returned (.bool (decide (x.w<y.w)))∧∃m,w'=w.drewN m:=by
 have c1:=(tbuf_get hb i x hi).2
 have c2:=(tbuf_get hb j y hj).2
 clear hb hi hj
 go_enter Tryz.func251,Tryz.ntmps251
 go_wp2_with fail
 go_quiet (fail)
 go_wp2
 go_ret
 exact⟨rfl,nq,rfl⟩
theorem swap_any(pb n c:Nat)(L:List Th)(i j:Nat)(x y:Th)(hi:L[i]?=some x)(hj:L[j]?=some y)(w:World)(hb:TBuf w pb L c)(hin:(i:Int)<(n:Int))(hjn:(j:Int)<(n:Int))(hij:i≠j):
 Calls Tryz.prog 252 #[.slice (some ⟨pb,0,none⟩) n c,.int .i64 (i:Int),.int .i64 (j:Int)] w fun e w'=>e=.returned (.tuple #[])∧TBuf w' pb ((L.set i y).set j x) c∧Keep (only pb) w w':=by
 obtain⟨a0,a1⟩:=tbuf_get hb i x hi
 obtain⟨b0,b1⟩:=tbuf_get hb j y hj
 have f0:=fun p=>hb.frozen p
 have fi0:=f0 (i * 2)
 have fi1:=f0 (i * 2+1)
 have fj0:=f0 (j * 2)
 have fj1:=f0 (j * 2+1)
 have HP:Unit→TBuf (put4 (put4 w pb i y) pb j x) pb ((L.set i y).set j x) c∧Keep (only pb) w (put4 (put4 w pb i y) pb j x):=fun _=>
  ⟨tbuf_put (tbuf_put hb i (List.getElem?_eq_some_iff.1 hi).1 y) j (by rw[List.length_set];exact(List.getElem?_eq_some_iff.1 hj).1) x,(keep_put4 w pb i y).trans (keep_put4 _ pb j x)⟩
 clear hb hi hj f0
 go_enter Tryz.func252,Tryz.ntmps252
 go_wp2_with fail
 go_region
 all_goals go_end0
 exact⟨rfl,(HP ()).1.drew,(HP ()).2.drew⟩
theorem swap_same(pb n c:Nat)(L:List Th)(i:Nat)(x:Th)(hi:L[i]?=some x)(w:World)(hb:TBuf w pb L c)(hin:(i:Int)<(n:Int)):
 Calls Tryz.prog 252 #[.slice (some ⟨pb,0,none⟩) n c,.int .i64 (i:Int),.int .i64 (i:Int)] w fun e w'=>e=.returned (.tuple #[])∧TBuf w' pb L c∧Keep (only pb) w w':=by
 obtain⟨a0,a1⟩:=tbuf_get hb i x hi
 have f0:=fun p=>hb.frozen p
 have fi0:=f0 (i * 2)
 have fi1:=f0 (i * 2+1)
 have hset:(L.set i x)=L:=by
  refine List.ext_getElem? (fun k=>?_)
  rw[List.getElem?_set]
  split
  ·rename_i h;subst h;rw[hi,if_pos (List.getElem?_eq_some_iff.1 hi).1]
  ·rfl
 have HP:Unit→TBuf (put4 (put4 w pb i x) pb i x) pb L c∧Keep (only pb) w (put4 (put4 w pb i x) pb i x):=fun _=>
  ⟨by
   have h1:=tbuf_put hb i (List.getElem?_eq_some_iff.1 hi).1 x
   rw[hset]at h1
   have h2:=tbuf_put h1 i (List.getElem?_eq_some_iff.1 hi).1 x
   rw[hset]at h2
   exact h2,(keep_put4 w pb i x).trans (keep_put4 _ pb i x)⟩
 clear hb hi f0 hset
 go_enter Tryz.func252,Tryz.ntmps252
 go_wp2_with fail
 go_region
 all_goals go_end0
 exact⟨rfl,(HP ()).1.drew,(HP ()).2.drew⟩
theorem thing_info:(Tryz.prog.info? 304).map (fun i=>(i.zero,i.size,i.bytes))=some (some (.agg #[.int .i64 0,.int .i64 0]),2,16):=by kernel_rfl
@[go_sem] theorem assert_thing (v:Value) (w:World):(Instr.typeAssert (.iface 304 v) 20 304 false).run Tryz.prog w=.ok v w:=by kernel_rfl
abbrev thv(t:Th):Value:=.iface 304 (.agg #[.int .i64 t.e,.int .i64 t.w])
theorem push_end{w w0 w1:World}{hb ho pb' c' n:Nat}{cs:Array Value}{ty:TypeId}{G:Nat→Prop}{vs:List Value}(hbk:Blk w hb cs ty)(k0:Keep nil w w0)(hk:Keep G w0 w1)(hG:¬G hb)(ht:VBuf w1 pb' 304 2 vs c')(hp:pb'≠hb):
 Blk (w1.setCell ⟨hb,ho,none⟩ (.slice (some ⟨pb',0,none⟩) n c')) hb (cs.setIfInBounds ho (.slice (some ⟨pb',0,none⟩) n c')) ty∧VBuf (w1.setCell ⟨hb,ho,none⟩ (.slice (some ⟨pb',0,none⟩) n c')) pb' 304 2 vs c'∧
  Keep (fun b=>b=hb∨G b) w (w1.setCell ⟨hb,ho,none⟩ (.slice (some ⟨pb',0,none⟩) n c')):=by
 have ks:Keep (only hb) w1 (w1.setCell ⟨hb,ho,none⟩ (.slice (some ⟨pb',0,none⟩) n c')):=(Keep.refl (only hb) w1).setCell (p:=⟨hb,ho,none⟩) (fun _=>rfl) _
 refine⟨((hbk.keep k0 (fun e=>e)).keep hk hG).set ho _,ht.keep ks (fun e=>hp e),?_⟩
 exact(((k0.mono (fun _ _ e=>e.elim)).trans (hk.mono (ex':=fun b=>b=hb∨G b) (fun _ _ e=>Or.inr e)))).setCell (p:=⟨hb,ho,none⟩) (fun _=>Or.inl rfl) _
theorem push_some(hb ho:Nat)(cs:Array Value)(ty:TypeId)(pb c:Nat)(L:List Th)(t:Th)(w:World)(hbk:Blk w hb cs ty)(hcs:cs[ho]?=some (.slice (some ⟨pb,0,none⟩) L.length c))(hne:hb≠pb)(ht:TBuf w pb L c)(hlen:(L.length:Int)<1000000):
 Calls Tryz.prog 254 #[.pointer (some ⟨hb,ho,none⟩),thv t] w fun e w'=>e=.returned (.tuple #[])∧∃pb' c',Blk w' hb (cs.setIfInBounds ho (.slice (some ⟨pb',0,none⟩) (L.length+1) c')) ty∧
  TBuf w' pb' (L++[t]) c'∧L.length+1≤c'∧(pb'=pb∨w.heap.size≤pb')∧pb'≠hb∧Keep (fun b=>b=hb∨b=pb) w w':=by
 have h0:=(hbk.cell ho).trans hcs
 have f0:=hbk.frozen ho
 have hpl:=ht.lt
 have hhl:=hbk.lt
 have HB:Unit→Blk w hb cs ty∧TBuf w pb L c:=fun _=>⟨hbk,ht⟩
 have HL:Unit→(L.length:Int)<1000000:=fun _=>hlen
 have HC:Unit→cs[ho]?=some (.slice (some ⟨pb,0,none⟩) L.length c):=fun _=>hcs
 clear hbk hcs ht hlen
 go_enter Tryz.func254,Tryz.ntmps254
 go_wp2_with fail
 go_region_law (refine step_append_any rfl (.tmp 7) (.tmp 10) 253 rfl 304 (.agg #[.int .i64 0,.int .i64 0]) 2 16 Tryz.underlying253 thing_info rfl pb L.length c (by simp[Act.eval,Act.put]) (tcells L) (tcells_len L) (((HB ()).2.alloc _).drew) ⟨w.heap.size,0,none⟩ 1 1 (by simp[Act.eval,Act.put]) (tcells [t]) rfl (At.cell (B:=0) (At.newd rfl (Nat.zero_le _))) (tcells_one _) (by have:=HL ();omega) (by have:=HL ();omega) ?_;intro pb' c' w1 hb1 hc1 hd1 hk1;have h1:=((((HB ()).1.old _).drew.keep hk1 (fun e=>hne e)).cell ho).trans (HC ());have f1:=(((HB ()).1.old _).drew.keep hk1 (fun e=>hne e)).frozen ho)
 all_goals
  go_end0
  have hp:pb'≠hb:=by
   rcases hd1 with⟨e,_⟩|⟨e,_⟩
   ·rw[e];exact Ne.symm hne
   ·simp only[World.size_drew,World.size_alloc]at e;omega
  obtain⟨e1,e2,e3⟩:=push_end (ho:=ho) (n:=L.length+1) (HB ()).1 (((Keep.refl nil w).alloc _).drew) hk1 (fun e=>hne e) hb1 hp
  rw[←tcells_append]at e2
  refine⟨rfl,pb',c',e1,e2,hc1,?_,hp,e3⟩
  rcases hd1 with⟨e,_⟩|⟨e,_⟩
  ·exact Or.inl e
  ·simp only[World.size_drew,World.size_alloc]at e;exact Or.inr (by omega)
theorem push_nil(hb ho:Nat)(cs:Array Value)(ty:TypeId)(t:Th)(w:World)(hbk:Blk w hb cs ty)(hcs:cs[ho]?=some (.slice none 0 0)):
 Calls Tryz.prog 254 #[.pointer (some ⟨hb,ho,none⟩),thv t] w fun e w'=>e=.returned (.tuple #[])∧∃pb' c',Blk w' hb (cs.setIfInBounds ho (.slice (some ⟨pb',0,none⟩) 1 c')) ty∧
  TBuf w' pb' [t] c'∧1≤c'∧w.heap.size≤pb'∧pb'≠hb∧Keep (only hb) w w':=by
 have h0:=(hbk.cell ho).trans hcs
 have f0:=hbk.frozen ho
 have hhl:=hbk.lt
 have HB:Unit→Blk w hb cs ty:=fun _=>hbk
 have HC:Unit→cs[ho]?=some (.slice none 0 0):=fun _=>hcs
 clear hbk hcs
 go_enter Tryz.func254,Tryz.ntmps254
 go_wp2_with fail
 go_region_law (refine step_append_new rfl (.tmp 7) (.tmp 10) 253 rfl 304 (.agg #[.int .i64 0,.int .i64 0]) 2 16 Tryz.underlying253 thing_info rfl (by simp[Act.eval,Act.put]) ⟨w.heap.size,0,none⟩ 1 1 (by omega) (by simp[Act.eval,Act.put]) (tcells [t]) rfl (At.cell (B:=0) (At.newd rfl (Nat.zero_le _))) (by omega) (by omega) ?_;intro c' w1 hb1 hc1 hk1;have h1:=((((HB ()).old _).drew.keep hk1 (fun e=>e)).cell ho).trans (HC ());have f1:=(((HB ()).old _).drew.keep hk1 (fun e=>e)).frozen ho)
 all_goals
  go_end0
  simp only[World.size_drew,World.size_alloc]at hb1⊢
  obtain⟨e1,e2,e3⟩:=push_end (ho:=ho) (n:=1) (HB ()) (((Keep.refl nil w).alloc _).drew) hk1 (fun e=>e) hb1 (by omega)
  exact⟨trivial,_,c',e1,e2,hc1,by omega,by omega,e3.mono (fun _ _ e=>e.elim id (fun e=>e.elim))⟩
theorem pop_any(hb ho:Nat)(cs:Array Value)(ty:TypeId)(pb c n:Nat)(L:List Th)(t:Th)(w:World)(hbk:Blk w hb cs ty)(hcs:cs[ho]?=some (.slice (some ⟨pb,0,none⟩) (n+1) c))(hne:hb≠pb)(ht:TBuf w pb L c)(hl:L.length=n+1)(hnc:n+1≤c)(hlast:L[n]?=some t)(hlen:(n:Int)<1000000):
 Calls Tryz.prog 253 #[.pointer (some ⟨hb,ho,none⟩)] w fun e w'=>e=.returned (thv t)∧Blk w' hb (cs.setIfInBounds ho (.slice (some ⟨pb,0,none⟩) n c)) ty∧
  TBuf w' pb (L.take n) c∧Keep (only hb) w w':=by
 have h0:=(hbk.cell ho).trans hcs
 have f0:=hbk.frozen ho
 have hhl:=hbk.lt
 have hpl:=ht.lt
 obtain⟨q0,q1⟩:=tbuf_get ht n t hlast
 have hcI:(n:Int)≤(c:Int):=by omega
 have hwn:wrap64 (n:Int)=(n:Int):=by unfold wrap64;omega
 have HB:Unit→Blk w hb cs ty∧TBuf w pb (L.take n) c:=fun _=>⟨hbk,by
  have:=ht.less (n * 2)
  have e:(tcells L).take (n * 2)=tcells (L.take n):=by
   have h1:tcells L=tcells (L.take n)++tcells (L.drop n):=by rw[←tcells_append,List.take_append_drop]
   have h2:(tcells (L.take n)).length=n * 2:=by rw[tcells_len,List.length_take];omega
   rw[h1,←h2,List.take_left]
  rw[e]at this
  exact this⟩
 clear hbk hcs ht hl hlast hlen
 go_enter Tryz.func253,Tryz.ntmps253
 go_wp2
 go_ret
 obtain⟨e1,e2,e3⟩:=push_end (ho:=ho) (n:=n) (w1:=w) (HB ()).1 (Keep.refl nil w) (Keep.refl nil _) (fun e=>e) (HB ()).2 (Ne.symm hne)
 exact⟨rfl,e1.old _,e2.alloc _,(e3.mono (fun _ _ e=>e.elim id (fun e=>e.elim))).alloc _⟩
def SameT(L' L:List Th):Prop:=L'.length=L.length∧∀x,x∈L'↔x∈L
theorem SameT.refl(L:List Th):SameT L L:=⟨rfl,fun _=>Iff.rfl⟩
theorem SameT.trans{L L' L'':List Th}(h:SameT L'' L')(h':SameT L' L):SameT L'' L:=⟨h.1.trans h'.1,fun x=>(h.2 x).trans (h'.2 x)⟩
theorem sameT_swap{L:List Th}{i j:Nat}{x y:Th}(hi:L[i]?=some x)(hj:L[j]?=some y)(hij:i≠j):SameT ((L.set i y).set j x) L:=by
 refine⟨by simp,fun z=>?_⟩
 have hil:=(List.getElem?_eq_some_iff.1 hi).1
 have hjl:=(List.getElem?_eq_some_iff.1 hj).1
 constructor
 ·intro h
  obtain⟨k,hk⟩:=List.getElem?_of_mem h
  rw[List.getElem?_set]at hk
  split at hk
  ·rename_i e
   rw[List.length_set,if_pos hjl]at hk
   cases hk
   exact List.mem_of_getElem? hi
  ·rw[List.getElem?_set]at hk
   split at hk
   ·first
     |(cases hk;exact List.mem_of_getElem? hj)
     |(rw[if_pos hil]at hk;cases hk;exact List.mem_of_getElem? hj)
   ·exact List.mem_of_getElem? hk
 ·intro h
  obtain⟨k,hk⟩:=List.getElem?_of_mem h
  by_cases e1:k=i
  ·subst e1
   rw[hi]at hk
   cases hk
   exact List.mem_of_getElem? (i:=j) (by rw[List.getElem?_set,if_pos rfl,List.length_set,if_pos hjl])
  ·by_cases e2:k=j
   ·subst e2
    rw[hj]at hk
    cases hk
    exact List.mem_of_getElem? (i:=i) (by rw[List.getElem?_set,if_neg (Ne.symm hij),List.getElem?_set,if_pos rfl,if_pos hil])
   ·exact List.mem_of_getElem? (i:=k) (by rw[List.getElem?_set,if_neg (Ne.symm e2),List.getElem?_set,if_neg (Ne.symm e1)];exact hk)
abbrev ifv(hb ho:Nat):Value:=.iface 302 (.pointer (some ⟨hb,ho,none⟩))
theorem load_pile(hb ho:Nat)(a:Option Addr)(n c:Nat)(w:World)(h:w.cell? ⟨hb,ho,none⟩=some (.slice a n c)):(loadVar 253 ⟨hb,ho,none⟩).run Tryz.prog w=.ok (.slice a n c) w:=by
 unfold loadVar
 go_simp
theorem wrap_chk (P : Program) (xt : TypeId) (ad : Addr) (nm : String) (w : World) : (Builtin.ssaWrapNilChk_ #[xt] xt #[.pointer (some ad), strVal "", strVal nm]).run P w = .ok (.pointer (some ad)) w := rfl
theorem less_at (k hb ho : Nat) (a : Option Addr) (n c : Nat) (w : World) (h : w.cell? ⟨hb, ho, none⟩ = some (.slice a n c)) : (method (k + 1) 302 (.pointer (some ⟨hb, ho, none⟩)) "Less").run Tryz.prog w = .ok (251, .slice a n c) w := by
 have hl:=load_pile hb ho a n c w h
 have hf : (Tryz.t302.methods.find? (fun x => x.name == "Less")).map (fun m => (m.path, m.func)) = some (#[], some (251, false)) := by kernel_rfl
 obtain⟨m,hm,hp⟩:=Option.map_eq_some_iff.1 hf
 simp only[Prod.mk.injEq]at hp
 unfold method
 go_simp
 unfold follow receiverAt
 generalize ("Less".splitOn ".").getLast?.getD "Less" = nm
 have hc:=wrap_chk Tryz.prog 302 ⟨hb,ho,none⟩ nm w
 unfold Place.get
 go_simp
theorem swap_at (k hb ho : Nat) (a : Option Addr) (n c : Nat) (w : World) (h : w.cell? ⟨hb, ho, none⟩ = some (.slice a n c)) : (method (k + 1) 302 (.pointer (some ⟨hb, ho, none⟩)) "Swap").run Tryz.prog w = .ok (252, .slice a n c) w := by
 have hl:=load_pile hb ho a n c w h
 have hf : (Tryz.t302.methods.find? (fun x => x.name == "Swap")).map (fun m => (m.path, m.func)) = some (#[], some (252, false)) := by kernel_rfl
 obtain⟨m,hm,hp⟩:=Option.map_eq_some_iff.1 hf
 simp only[Prod.mk.injEq]at hp
 unfold method
 go_simp
 unfold follow receiverAt
 generalize ("Swap".splitOn ".").getLast?.getD "Swap" = nm
 have hc:=wrap_chk Tryz.prog 302 ⟨hb,ho,none⟩ nm w
 unfold Place.get
 go_simp
theorem len_at (k hb ho : Nat) (a : Option Addr) (n c : Nat) (w : World) (h : w.cell? ⟨hb, ho, none⟩ = some (.slice a n c)) : (method (k + 1) 302 (.pointer (some ⟨hb, ho, none⟩)) "Len").run Tryz.prog w = .ok (250, .slice a n c) w := by
 have hl:=load_pile hb ho a n c w h
 have hf : (Tryz.t302.methods.find? (fun x => x.name == "Len")).map (fun m => (m.path, m.func)) = some (#[], some (250, false)) := by kernel_rfl
 obtain⟨m,hm,hp⟩:=Option.map_eq_some_iff.1 hf
 simp only[Prod.mk.injEq]at hp
 unfold method
 go_simp
 unfold follow receiverAt
 generalize ("Len".splitOn ".").getLast?.getD "Len" = nm
 have hc:=wrap_chk Tryz.prog 302 ⟨hb,ho,none⟩ nm w
 unfold Place.get
 go_simp
theorem push_at (k hb ho : Nat) (w : World) : (method (k + 1) 302 (.pointer (some ⟨hb, ho, none⟩)) "Push").run Tryz.prog w = .ok (254, .pointer (some ⟨hb, ho, none⟩)) w := by kernel_rfl
theorem pop_at (k hb ho : Nat) (w : World) : (method (k + 1) 302 (.pointer (some ⟨hb, ho, none⟩)) "Pop").run Tryz.prog w = .ok (253, .pointer (some ⟨hb, ho, none⟩)) w := by kernel_rfl
theorem up_stay(hb ho:Nat)(cs:Array Value)(ty:TypeId)(pb c n:Nat)(L:List Th)(j0:Nat)(w:World)(hbk:Blk w hb cs ty)(hcs:cs[ho]? =some (.slice (some ⟨pb,0,none⟩) n c))(hne:hb≠pb)(ht:TBuf w pb L c)(hl:L.length=n)(hj0:j0<n)(hlen:(n:Int)<1000000)
 (hstay:∀x y,L[j0]?=some x→L[(j0 - 1) / 2]?=some y→y.w≤x.w):
 Calls Tryz.prog 220 #[ifv hb ho,.int .i64 (j0:Int)] w fun e w'=>e=.returned (.tuple #[])∧Keep nil w w':=by
 have HB:Unit→Blk w hb cs ty∧cs[ho]?=some (.slice (some ⟨pb,0,none⟩) n c):=fun _=>⟨hbk,hcs⟩
 have HT:Unit→TBuf w pb L c∧L.length=n∧j0<n∧(n:Int)<1000000∧(∀x y,L[j0]?=some x→L[(j0 - 1) / 2]?=some y→y.w≤x.w):=fun _=>⟨ht,hl,hj0,hlen,hstay⟩
 clear hbk hcs ht hl hj0 hlen hstay
 go_enter Tryz.func220,Tryz.ntmps220
 go_wp2_with fail
 go_loopw [1] (fun v wr=>v=.int .i64 (j0:Int)∧wr=w) (fun v _=>0)
 case atStart=>exact⟨rfl,rfl⟩
 case round=>
  obtain⟨rfl,rfl⟩:=hrel
  have hcell:=((HB ()).1.cell ho).trans (HB ()).2
  have hjI:(j0:Int)<(n:Int):=by have:=HT ();omega
  by_cases hj:j0=0
  ·subst hj
   go_wp2
   go_end0
   exact⟨rfl,Keep.refl _ _⟩
  ·obtain⟨i,hi⟩:∃i,i=(j0 - 1) / 2:=⟨_,rfl⟩
   have hij:i<j0:=by omega
   have hq1:wrap64 ((j0:Int) - 1)=((j0 - 1:Nat):Int):=by unfold wrap64;have:=HT ();omega
   have hq2:wrap64 (((j0 - 1:Nat):Int) / 2)=(i:Int):=by unfold wrap64;have:=HT ();omega
   have hq3:(((j0 - 1:Nat):Int)).tdiv 2=((j0 - 1:Nat):Int) / 2:=rfl
   have hn1:¬i=j0:=by omega
   obtain⟨x,hx⟩:∃x,L[j0]?=some x:=⟨_,List.getElem?_eq_getElem (by have:=HT ();omega)⟩
   obtain⟨y,hy⟩:∃y,L[i]?=some y:=⟨_,List.getElem?_eq_getElem (by have:=HT ();omega)⟩
   have hlt3:y.w≤x.w:=(HT ()).2.2.2.2 x y hx (by rw[←hi];exact hy)
   have hm:=fun k=>less_at k hb ho _ _ _ wr hcell
   have HXY:Unit→L[j0]?=some x∧L[i]?=some y:=fun _=>⟨hx,hy⟩
   have hiI:(i:Int)<(n:Int):=by omega
   have hn2:((i:Int)==(j0:Int))=false:=by simp;omega
   clear hx hy hi
   go_wp2_with fail
   refine(less_any pb n c L j0 i x y (HXY ()).1 (HXY ()).2 wr (HT ()).1 hjI hiI).mono ?_
   rintro e w1 ⟨rfl,m,rfl⟩
   have kd:Keep nil wr (wr.drewN m):=(Keep.refl nil wr).drewN m
   have HKD:Unit→Keep nil wr (wr.drewN m):=fun _=>kd
   clear hm hcell kd
   have hlt2:decide (x.w<y.w)=false:=by simp only[decide_eq_false_iff_not];omega
   go_wp2
   go_end0
   exact⟨rfl,HKD ()⟩
def SameU(n:Nat)(L' L:List Th):Prop:=SameT L' L∧∀k,n≤k→L'[k]?=L[k]?
theorem SameU.refl(n:Nat)(L:List Th):SameU n L L:=⟨SameT.refl L,fun _ _=>rfl⟩
theorem SameU.trans{n:Nat}{L L' L'':List Th}(h:SameU n L'' L')(h':SameU n L' L):SameU n L'' L:=⟨h.1.trans h'.1,fun k hk=>(h.2 k hk).trans (h'.2 k hk)⟩
theorem sameU_swap{n:Nat}{L:List Th}{i j:Nat}{x y:Th}(hi:L[i]?=some x)(hj:L[j]?=some y)(hij:i≠j)(hin:i<n)(hjn:j<n):SameU n ((L.set i y).set j x) L:=
 ⟨sameT_swap hi hj hij,fun k hk=>by rw[List.getElem?_set_ne (by omega),List.getElem?_set_ne (by omega)]⟩
theorem down_any(hb ho:Nat)(cs:Array Value)(ty:TypeId)(pb c N:Nat)(L:List Th)(n:Nat)(w:World)(hbk:Blk w hb cs ty)(hcs:cs[ho]?=some (.slice (some ⟨pb,0,none⟩) N c))(hne:hb≠pb)(ht:TBuf w pb L c)(hl:L.length=N)(hn:n≤N)(hlen:(N:Int)<1000000):
 Calls Tryz.prog 186 #[ifv hb ho,.int .i64 0,.int .i64 (n:Int)] w fun e w'=>(∃b,e=.returned (.bool b))∧∃L',SameU n L' L∧TBuf w' pb L' c∧Keep (only pb) w w':=by
 have HB:Unit→Blk w hb cs ty∧cs[ho]?=some (.slice (some ⟨pb,0,none⟩) N c):=fun _=>⟨hbk,hcs⟩
 have HT:Unit→TBuf w pb L c∧L.length=N∧n≤N∧(N:Int)<1000000:=fun _=>⟨ht,hl,hn,hlen⟩
 clear hbk hcs ht hl hn hlen
 go_enter Tryz.func186,Tryz.ntmps186
 go_wp2_with fail
 go_loopw [7] (fun v wr=>∃(i:Nat) (L':List Th),(i<n∨i=0)∧v=.int .i64 (i:Int)∧SameU n L' L∧TBuf wr pb L' c∧Keep (only pb) w wr) (fun v _=>n - (intOf v).toNat)
 case atStart=>exact⟨0,L,Or.inr rfl,rfl,SameU.refl n L,(HT ()).1,Keep.refl _ _⟩
 case round=>
  obtain⟨i,L',hin,rfl,hsm,hbuf,hkp⟩:=hrel
  have HR:Unit→SameU n L' L∧TBuf wr pb L' c∧Keep (only pb) w wr:=fun _=>⟨hsm,hbuf,hkp⟩
  have hcell:=(((HB ()).1.keep hkp (fun e=>hne e)).cell ho).trans (HB ()).2
  have hi6:(i:Int)<1000000:=by have:=HT ();omega
  have hw1:wrap64 (2 * (i:Int))=2 * (i:Int):=by unfold wrap64;omega
  have hw2:wrap64 (2 * (i:Int)+1)=2 * (i:Int)+1:=by unfold wrap64;omega
  have hw3:wrap64 (2 * (i:Int)+1+1)=2 * (i:Int)+1+1:=by unfold wrap64;omega
  have HI6:Unit→(i:Int)<1000000:=fun _=>hi6
  clear hsm hbuf hkp hi6
  by_cases hj1:2 * i+1<n
  ·have hj1I:2 * (i:Int)+1<(n:Int):=by omega
   have hj1b:(0:Int)≤2 * (i:Int)+1:=by omega
   have hd1:decide ((n:Int)≤2 * (i:Int)+1)=false:=by simp;omega
   have hd2:decide (2 * (i:Int)+1<0)=false:=by simp;omega
   have hLl:∀k,k<n→∃x,L'[k]?=some x:=fun k hk=>⟨_,List.getElem?_eq_getElem (by have:=(HR ()).1.1.1;have:=HT ();omega)⟩
   obtain⟨xi,hxi⟩:=hLl i (by omega)
   obtain⟨x1,hx1⟩:=hLl (2 * i+1) hj1
   have c1:((2 * i+1:Nat):Int)=2 * (i:Int)+1:=by omega
   have c2:((2 * i+1+1:Nat):Int)=2 * (i:Int)+1+1:=by omega
   have hm0:=fun k=>less_at k hb ho _ _ _ wr hcell
   by_cases hj2:2 * i+1+1<n
   ·have hj2I:2 * (i:Int)+1+1<(n:Int):=by omega
    obtain⟨x2,hx2⟩:=hLl (2 * i+1+1) hj2
    have HL:Unit→_:=fun _=>less_any pb N c L' (2 * i+1+1) (2 * i+1) x2 x1 hx2 hx1 wr (HR ()).2.1 (by have:=HT ();omega) (by have:=HT ();omega)
    have HX:Unit→L'[i]?=some xi∧L'[2 * i+1]?=some x1∧L'[2 * i+1+1]?=some x2:=fun _=>⟨hxi,hx1,hx2⟩
    clear hLl hxi hx1 hx2
    go_wp2_with fail
    rw[c1,c2]at HL
    refine(HL ()).mono ?_
    rintro e w3 ⟨rfl,m3,hw3'⟩
    have kd3:Keep nil wr w3:=by rw[hw3'];exact(Keep.refl nil wr).drewN m3
    clear hw3'
    have hcell3:w3.cell? ⟨hb,ho,none⟩=some (.slice (some ⟨pb,0,none⟩) N c):=(kd3.cell hb ho (World.block_lt_of_cell? wr _ hcell) (fun e=>e)).trans hcell
    have hm3:=fun k=>less_at k hb ho _ _ _ w3 hcell3
    have HKJ:Unit→Keep nil wr w3:=fun _=>kd3
    clear kd3 HL hm0
    by_cases hl3:x2.w<x1.w
    ·go_wp2_with fail
     rw[←c2]
     obtain⟨j,hj⟩:∃j,j=2 * i+1+1:=⟨_,rfl⟩
     obtain⟨xj,hxj⟩:∃xj,xj=x2:=⟨_,rfl⟩
     have HJ:Unit→L'[j]?=some xj∧L'[i]?=some xi∧(i<j∧j<n)∧(j:Int)<(N:Int)∧(i:Int)<(N:Int)∧i≠j:=fun _=>by
      rw[hj,hxj];exact⟨(HX ()).2.2,(HX ()).1,by omega,by have:=HT ();omega,by have:=HT ();omega,by omega⟩
     rw[←hj]
     clear hj hxj c1 c2
     refine(less_any pb N c L' j i xj xi (HJ ()).1 (HJ ()).2.1 w3 ((HR ()).2.1.keep (HKJ ()) (fun e=>e)) (HJ ()).2.2.2.1 (HJ ()).2.2.2.2.1).mono ?_
     rintro e w4 ⟨rfl,m4,hw4⟩
     have kd4:Keep nil wr w4:=by rw[hw4];exact(HKJ ()).trans ((Keep.refl nil w3).drewN m4)
     clear hw4
     have hcell4:w4.cell? ⟨hb,ho,none⟩=some (.slice (some ⟨pb,0,none⟩) N c):=(kd4.cell hb ho (World.block_lt_of_cell? wr _ hcell) (fun e=>e)).trans hcell
     have hm4:=fun k=>swap_at k hb ho _ _ _ w4 hcell4
     have HK4:Unit→Keep nil wr w4:=fun _=>kd4
     clear kd4
     by_cases hlt:xj.w<xi.w
     ·go_wp2_with fail
      refine(swap_any pb N c L' i j xi xj (HJ ()).2.1 (HJ ()).1 _ ((HR ()).2.1.keep (HK4 ()) (fun e=>e)) (HJ ()).2.2.2.2.1 (HJ ()).2.2.2.1 (HJ ()).2.2.2.2.2).mono ?_
      rintro e w5 ⟨rfl,hb5,hk5⟩
      have HP:Unit→SameU n ((L'.set i xj).set j xi) L∧TBuf w5 pb ((L'.set i xj).set j xi) c∧Keep (only pb) w w5:=fun _=>⟨(sameU_swap (HJ ()).2.1 (HJ ()).1 (HJ ()).2.2.2.2.2 (by have:=(HJ ()).2.2.1;omega) (by have:=(HJ ()).2.2.1;omega)).trans (HR ()).1,hb5,((HR ()).2.2.trans ((HK4 ()).mono (fun _ _ e=>e.elim))).trans hk5⟩
      clear hb5 hk5 hcell4 hm4
      go_wp2
      go_roundw
      case rel=>exact⟨j,_,Or.inl (HJ ()).2.2.1.2,rfl,HP ()⟩
      case measure=>simp[intOf];have:=(HJ ()).2.2.1;omega
     ·have hlt2:decide (xj.w<xi.w)=false:=by simp only[decide_eq_false_iff_not];exact hlt
      have hlt3:xi.w≤xj.w:=by omega
      clear hlt
      go_wp2
      go_ret
      exact⟨⟨_,rfl⟩,L',(HR ()).1,(HR ()).2.1.keep (HK4 ()) (fun e=>e),(HR ()).2.2.trans ((HK4 ()).mono (fun _ _ e=>e.elim))⟩
    ·have hl4:decide (x2.w<x1.w)=false:=by simp only[decide_eq_false_iff_not];exact hl3
     have hl5:x1.w≤x2.w:=by omega
     clear hl3
     go_wp2_with fail
     rw[←c1]
     obtain⟨j,hj⟩:∃j,j=2 * i+1:=⟨_,rfl⟩
     obtain⟨xj,hxj⟩:∃xj,xj=x1:=⟨_,rfl⟩
     have HJ:Unit→L'[j]?=some xj∧L'[i]?=some xi∧(i<j∧j<n)∧(j:Int)<(N:Int)∧(i:Int)<(N:Int)∧i≠j:=fun _=>by
      rw[hj,hxj];exact⟨(HX ()).2.1,(HX ()).1,by omega,by have:=HT ();omega,by have:=HT ();omega,by omega⟩
     rw[←hj]
     clear hj hxj c1 c2
     refine(less_any pb N c L' j i xj xi (HJ ()).1 (HJ ()).2.1 w3 ((HR ()).2.1.keep (HKJ ()) (fun e=>e)) (HJ ()).2.2.2.1 (HJ ()).2.2.2.2.1).mono ?_
     rintro e w4 ⟨rfl,m4,hw4⟩
     have kd4:Keep nil wr w4:=by rw[hw4];exact(HKJ ()).trans ((Keep.refl nil w3).drewN m4)
     clear hw4
     have hcell4:w4.cell? ⟨hb,ho,none⟩=some (.slice (some ⟨pb,0,none⟩) N c):=(kd4.cell hb ho (World.block_lt_of_cell? wr _ hcell) (fun e=>e)).trans hcell
     have hm4:=fun k=>swap_at k hb ho _ _ _ w4 hcell4
     have HK4:Unit→Keep nil wr w4:=fun _=>kd4
     clear kd4
     by_cases hlt:xj.w<xi.w
     ·go_wp2_with fail
      refine(swap_any pb N c L' i j xi xj (HJ ()).2.1 (HJ ()).1 _ ((HR ()).2.1.keep (HK4 ()) (fun e=>e)) (HJ ()).2.2.2.2.1 (HJ ()).2.2.2.1 (HJ ()).2.2.2.2.2).mono ?_
      rintro e w5 ⟨rfl,hb5,hk5⟩
      have HP:Unit→SameU n ((L'.set i xj).set j xi) L∧TBuf w5 pb ((L'.set i xj).set j xi) c∧Keep (only pb) w w5:=fun _=>⟨(sameU_swap (HJ ()).2.1 (HJ ()).1 (HJ ()).2.2.2.2.2 (by have:=(HJ ()).2.2.1;omega) (by have:=(HJ ()).2.2.1;omega)).trans (HR ()).1,hb5,((HR ()).2.2.trans ((HK4 ()).mono (fun _ _ e=>e.elim))).trans hk5⟩
      clear hb5 hk5 hcell4 hm4
      go_wp2
      go_roundw
      case rel=>exact⟨j,_,Or.inl (HJ ()).2.2.1.2,rfl,HP ()⟩
      case measure=>simp[intOf];have:=(HJ ()).2.2.1;omega
     ·have hlt2:decide (xj.w<xi.w)=false:=by simp only[decide_eq_false_iff_not];exact hlt
      have hlt3:xi.w≤xj.w:=by omega
      clear hlt
      go_wp2
      go_ret
      exact⟨⟨_,rfl⟩,L',(HR ()).1,(HR ()).2.1.keep (HK4 ()) (fun e=>e),(HR ()).2.2.trans ((HK4 ()).mono (fun _ _ e=>e.elim))⟩
   ·have hj2I:(n:Int)≤2 * (i:Int)+1+1:=by omega
    have hd3:decide (2 * (i:Int)+1+1<(n:Int))=false:=by simp;omega
    have HX:Unit→L'[i]?=some xi∧L'[2 * i+1]?=some x1:=fun _=>⟨hxi,hx1⟩
    have HKJ:Unit→Keep nil wr wr:=fun _=>Keep.refl nil wr
    clear hLl hxi hx1
    go_wp2_with fail
    rw[←c1]
    obtain⟨j,hj⟩:∃j,j=2 * i+1:=⟨_,rfl⟩
    obtain⟨xj,hxj⟩:∃xj,xj=x1:=⟨_,rfl⟩
    have HJ:Unit→L'[j]?=some xj∧L'[i]?=some xi∧(i<j∧j<n)∧(j:Int)<(N:Int)∧(i:Int)<(N:Int)∧i≠j:=fun _=>by
     rw[hj,hxj];exact⟨(HX ()).2,(HX ()).1,by omega,by have:=HT ();omega,by have:=HT ();omega,by omega⟩
    rw[←hj]
    have hwj:wrap64 (j:Int)=(j:Int):=by rw[hj,c1];exact hw2
    try simp only[hwj]
    clear hj hxj c1 c2 hm0
    refine(less_any pb N c L' j i xj xi (HJ ()).1 (HJ ()).2.1 wr ((HR ()).2.1.keep (HKJ ()) (fun e=>e)) (HJ ()).2.2.2.1 (HJ ()).2.2.2.2.1).mono ?_
    rintro e w4 ⟨rfl,m4,hw4⟩
    have kd4:Keep nil wr w4:=by rw[hw4];exact(HKJ ()).trans ((Keep.refl nil wr).drewN m4)
    clear hw4
    have hcell4:w4.cell? ⟨hb,ho,none⟩=some (.slice (some ⟨pb,0,none⟩) N c):=(kd4.cell hb ho (World.block_lt_of_cell? wr _ hcell) (fun e=>e)).trans hcell
    have hm4:=fun k=>swap_at k hb ho _ _ _ w4 hcell4
    have HK4:Unit→Keep nil wr w4:=fun _=>kd4
    clear kd4
    by_cases hlt:xj.w<xi.w
    ·go_wp2_with fail
     refine(swap_any pb N c L' i j xi xj (HJ ()).2.1 (HJ ()).1 _ ((HR ()).2.1.keep (HK4 ()) (fun e=>e)) (HJ ()).2.2.2.2.1 (HJ ()).2.2.2.1 (HJ ()).2.2.2.2.2).mono ?_
     rintro e w5 ⟨rfl,hb5,hk5⟩
     have HP:Unit→SameU n ((L'.set i xj).set j xi) L∧TBuf w5 pb ((L'.set i xj).set j xi) c∧Keep (only pb) w w5:=fun _=>⟨(sameU_swap (HJ ()).2.1 (HJ ()).1 (HJ ()).2.2.2.2.2 (by have:=(HJ ()).2.2.1;omega) (by have:=(HJ ()).2.2.1;omega)).trans (HR ()).1,hb5,((HR ()).2.2.trans ((HK4 ()).mono (fun _ _ e=>e.elim))).trans hk5⟩
     clear hb5 hk5 hcell4 hm4
     go_wp2
     go_roundw
     case rel=>exact⟨j,_,Or.inl (HJ ()).2.2.1.2,rfl,HP ()⟩
     case measure=>simp[intOf];have:=(HJ ()).2.2.1;omega
    ·have hlt2:decide (xj.w<xi.w)=false:=by simp only[decide_eq_false_iff_not];exact hlt
     have hlt3:xi.w≤xj.w:=by omega
     clear hlt
     go_wp2
     go_ret
     exact⟨⟨_,rfl⟩,L',(HR ()).1,(HR ()).2.1.keep (HK4 ()) (fun e=>e),(HR ()).2.2.trans ((HK4 ()).mono (fun _ _ e=>e.elim))⟩
  ·have hj1I:(n:Int)≤2 * (i:Int)+1:=by omega
   go_wp2
   go_ret
   exact⟨⟨_,rfl⟩,L',(HR ()).1,(HR ()).2.1,(HR ()).2.2⟩
end Go.Proofs.YtlfijfodklhplaaGreat.HI
