import Derived.Test.YtlfijfodklhplaaGreatTn29
import Derived.Test.YtlfijfodklhplaaGreatTn30
import Derived.Shelf.SlSortCmp.NoneTotal
set_option maxRecDepth 100000
set_option maxHeartbeats 2000000
set_option linter.unusedVariables false
set_option linter.unusedSimpArgs false
namespace Go.Proofs.YtlfijfodklhplaaGreat
open Go.RowKit
theorem cloneE_some(g o c:Nat)(es:List Ed)(w:World)(h:ERow w g o es)(hg:g<w.heap.size)(h0:0<es.length)(hl:(es.length:Int)<1000):
 Calls Tryz.prog 57 #[.slice (some ⟨g,o,none⟩) es.length c] w fun r w'=>∃a' c',r=.returned (.slice a' es.length c')∧RV w' 30 3 a' es.length c' (ecells es)∧Keep nil w w'∧∀i,inB a' i→w.heap.size≤i:=by
 have H:Unit→ERow w g o es∧0<es.length∧(es.length:Int)<1000∧g<w.heap.size:=fun _=>⟨h,h0,hl,hg⟩
 have hnil:∀(w:World) (a:Option Addr) (n c:Nat),(binOp .eql 26 (.slice a n c) (.slice none 0 0)).run Tryz.prog w=.ok (.bool a.isNone) w:=fun w a n c=>Lib.run_eql_slice_nil w 26 30 a n c 0 0 Tryz.underlying26
 clear h h0 hl hg
 generalize hln:es.length=ln at *
 go_enter Tryz.func57,Tryz.ntmps57
 have hE:RV (w.alloc (.cells #[] 30)) 30 3 (some ⟨w.heap.size,0,none⟩) 0 0 []:=⟨rfl,Nat.le_refl _,Or.inr ⟨w.heap.size,0,rfl,[],[],Blk.new _ _ _,rfl,Nat.le_refl _⟩⟩
 have hS:∀j u,(ecells es)[j]?=some u→(w.alloc (.cells #[] 30)).cell? (Addr.add ⟨g,o,none⟩ j)=some u:=cells_erow ((H ()).1.keep ((Keep.refl nil w).alloc (.cells #[] 30)) (H ()).2.2.2 (fun e=>e))
 have hLN:(ecells es).length=ln * 3:=by rw[ecells_len,hln]
 have hON:∀u∈ecells es,u.oneCell'=true:=ecells_one es
 go_wp2_with (at_builtin;refine wpList_append_rvS _ rfl (.tmp 5) (.tmp 6) 26 rfl 30 (.agg #[.int .i64 0,.int .i64 0,.int .i64 0]) 3 24 Tryz.underlying26 edge_info rfl (some ⟨w.heap.size,0,none⟩) 0 0 rfl [] hE ⟨g,o,none⟩ ln c (H ()).2.1 rfl (ecells es) hLN hS hON (by have:=(H ()).2.2;omega) (by have:=(H ()).2.2;omega) ?_;intro a' c' w4 hb4 hd4 hk4)
 have hk':Keep nil w w4∧∀i,inB a' i→w.heap.size≤i:=by
  rcases hd4 with⟨e1,e2⟩|⟨e1,e2⟩
  ·have:=hb4.2.1;have:=(H ()).2.1;omega
  ·refine⟨((Keep.refl nil w).alloc _).trans e2,fun i hi=>?_⟩
   rw[e1]at hi
   rw[inB_some.1 hi];simp
 rw[Nat.zero_add,List.nil_append]at hb4
 have HP:Unit→RV w4 30 3 a' ln c' (ecells es):=fun _=>hb4
 clear hb4 hd4 hk4 hE hS hLN hON H
 go_wp2
 go_ret
 exact⟨a',c',by simp,HP (),hk'.1,hk'.2⟩
theorem cloneE_nil(w:World):
 Calls Tryz.prog 57 #[.slice none 0 0] w fun r w'=>r=.returned (.slice none 0 0)∧w'=w:=by
 have hnil:∀(w:World) (a:Option Addr) (n c:Nat),(binOp .eql 26 (.slice a n c) (.slice none 0 0)).run Tryz.prog w=.ok (.bool a.isNone) w:=fun w a n c=>Lib.run_eql_slice_nil w 26 30 a n c 0 0 Tryz.underlying26
 go_enter Tryz.func57,Tryz.ntmps57
 go_wp2
 go_ret
 exact⟨rfl,rfl⟩
def cmpI(x y:Int):Int:=if x<y then -1 else if y<x then 1 else 0
theorem compare_any(x y:Int)(w:World):
 Calls Tryz.prog 60 #[.int .i64 x,.int .i64 y] w fun r w'=>r=.returned (.int .i64 (cmpI x y))∧w'=w:=by
 unfold cmpI
 go_enter Tryz.func60,Tryz.ntmps60
 by_cases h1:x<y
 ·go_wp2
  go_ret
  exact⟨by simp[h1],rfl⟩
 ·by_cases h2:y<x
  ·go_wp2
   go_ret
   exact⟨by simp[h1,h2],rfl⟩
  ·go_wp2
   go_ret
   exact⟨by simp[h1,h2],rfl⟩
open Go.RowKit Go.Sort Go.Shelf
theorem cmpI_eq(x y:Int):cmpI x y=Lib.compareInt x y:=by
 unfold cmpI Lib.compareInt
 by_cases h1:x<y<;>by_cases h2:y<x<;>simp[h1,h2]
theorem closureE(x y:Ed)(W:World):Calls Tryz.prog 59 #[.agg #[.int .i64 x.a,.int .i64 x.b,.int .i64 x.wt],.agg #[.int .i64 y.a,.int .i64 y.b,.int .i64 y.wt]] W fun e w'=>e=.returned (.int .i64 (cfw x y))∧∃q os',w'=grow (W.drewN q) os':=by
 have hcon:∀W',_:=fun W'=>compare_any x.wt y.wt W'
 have e1:cfw x y=cmpI x.wt y.wt:=(cmpI_eq _ _).symm
 rw[e1]
 generalize cmpI x.wt y.wt=r at hcon⊢
 clear e1
 go_enter Tryz.func59,Tryz.ntmps59
 go_wp2_with (go_at_call 60;refine(hcon _).mono ?_;rintro e w' ⟨rfl,rfl⟩)
 go_ret
 exact⟨rfl,0,_,by rw[alloc_eq_grow,alloc_eq_grow,grow_grow];rfl⟩
theorem lays_edges(blk off size:Nat)(w:World):CmpLays Tryz.prog 59 #[] Ed.cells 3 cfw blk off size w:=fun _ _ _ _ x y=>closureE x y _
theorem sortE_some(g o c:Nat)(es:List Ed)(w:World)(h:VBo w g o 30 3 (ecells es) c)(hl:(es.length:Int)<1000)(cap:Nat):
 Calls Tryz.prog 58 #[.slice (some ⟨g,o,none⟩) es.length cap,.func (.func 59) #[] #[]] w fun r w'=>r=.returned (.tuple #[])∧VBo w' g o 30 3 (ecells (srt es)) c∧Keep (only g) w w':=by
 have eg:∀args w,(callFunc 59 args).run Tryz.prog w=.ok (.enter 59 args) w:=enters_of Tryz.func59 (by kernel_rfl) rfl
 have hcon:=AnyQ.slices_SortFunc_eq sortE 3 Tryz.isAgg30 Tryz.sizeOf30 Ed.cells (fun _=>rfl) (fun x v hv=>by simp[Ed.cells]at hv;rcases hv with rfl|rfl|rfl<;>rfl) cfw swow 59 #[] g o cap es.toArray w eg (lays_edges g o _ w) (holds_edges h) h.lt (by simp;omega)
 have hs:es.toArray.size=es.length:=by simp
 rw[hs]at hcon
 refine Calls.mono hcon ?_
 rintro r w' ⟨rfl,n,os,rfl⟩
 have e1:=srt_arr es
 rw[hs]at e1
 rw[←e1]
 obtain⟨q1,q2⟩:=sort_world h (srt_len es) n os
 exact⟨rfl,q1,q2⟩
theorem sortE_nil(a:Option Addr)(cap:Nat)(fv:Value)(w:World):
 Calls Tryz.prog 58 #[.slice a 0 cap,fv] w fun r w'=>r=.returned (.tuple #[])∧w'=w:=
 AnyF.slices_SortFunc_none sortE a cap fv w
end Go.Proofs.YtlfijfodklhplaaGreat
