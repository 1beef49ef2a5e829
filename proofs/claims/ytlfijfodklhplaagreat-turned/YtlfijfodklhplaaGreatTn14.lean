import Derived.Test.YtlfijfodklhplaaGreatTn13
import Derived.Lib.SliceRun
set_option maxRecDepth 100000
set_option maxHeartbeats 2000000
set_option linter.unusedVariables false
set_option linter.unusedSimpArgs false
namespace Go.Proofs.YtlfijfodklhplaaGreat
open Go.RowKit
structure Pk where
 from_:Nat
 to_:Nat
 l:List Nat
 g:Nat
 c:Nat
 sp:Bool
def Pk.slice(x:Pk):Value:=.slice (some ⟨x.g,0,none⟩) x.l.length x.c
def pkcell(x:Pk):List Value:=[.int .i64 (x.from_:Int),.int .i64 (x.to_:Int),x.slice,.bool x.sp]
def pkcells(L:List Pk):List Value:=L.flatMap pkcell
def badd(L:List Pk)(x:Pk):List Pk:=if L.length<300 then L++[x]else L
theorem pkcells_append(l m:List Pk):pkcells (l++m)=pkcells l++pkcells m:=by simp[pkcells]
theorem pkcells_len(l:List Pk):(pkcells l).length=l.length * 4:=by
 induction l with
 |nil=>rfl
 |cons x t ih=>
  have hc:pkcells (x::t)=pkcell x++pkcells t:=by simp[pkcells]
  rw[hc,List.length_append,ih,List.length_cons]
  have hl:(pkcell x).length=4:=rfl
  omega
theorem pkcells_one(l:List Pk):∀u∈pkcells l,u.oneCell'=true:=by
 intro u hu
 simp only[pkcells,List.mem_flatMap]at hu
 obtain⟨c,_,hc⟩:=hu
 simp only[pkcell,Pk.slice,List.mem_cons,List.not_mem_nil,or_false]at hc
 rcases hc with rfl|rfl|rfl|rfl<;>rfl
theorem pk_parts(l:List Pk)(k:Nat)(c:Pk)(h:l[k]?=some c):pkcells l=pkcells (l.take k)++pkcell c++pkcells (l.drop (k+1))∧pkcells (l.eraseIdx k)=pkcells (l.take k)++pkcells (l.drop (k+1)):=by
 have hl:l=l.take k++[c]++l.drop (k+1):=by
  have h2:=(List.take_append_drop (k+1) l).symm
  rw[take_add l k c h]at h2
  exact h2
 constructor
 ·conv=>lhs;rw[hl]
  rw[pkcells_append,pkcells_append]
  have:pkcells [c]=pkcell c:=by simp[pkcells]
  rw[this]
 ·rw[List.eraseIdx_eq_take_drop_succ,pkcells_append]
theorem bagHas_any(ba:Option Addr)(n bc:Nat)(k:Int)(w:World):
 Calls Tryz.prog 113 #[.slice ba n bc,.int .i64 k] w fun r w'=>r=.returned (.bool (decide (0≤k∧k<(n:Int))))∧Keep nil w w':=by
 by_cases h0:0≤k
 ·by_cases h1:k<(n:Int)
  ·rw[decide_eq_true (p:=0≤k∧k<(n:Int)) ⟨h0,h1⟩]
   go_enter Tryz.func113,Tryz.ntmps113
   go_wp2
   go_ret
   exact⟨rfl,by repeat (first|exact Keep.refl _ _|apply Keep.drew)⟩
  ·rw[decide_eq_false (p:=0≤k∧k<(n:Int)) (fun e=>h1 e.2)]
   have h2:(n:Int)≤k:=by omega
   go_enter Tryz.func113,Tryz.ntmps113
   go_wp2
   go_ret
   exact⟨rfl,by repeat (first|exact Keep.refl _ _|apply Keep.drew)⟩
 ·rw[decide_eq_false (p:=0≤k∧k<(n:Int)) (fun e=>h0 e.1)]
  have h2:k<0:=by omega
  go_enter Tryz.func113,Tryz.ntmps113
  go_wp2
  go_ret
  exact⟨rfl,by repeat (first|exact Keep.refl _ _|apply Keep.drew)⟩
structure Bag(w:World)(nb o:Nat)(L:List Pk)(ba:Option Addr)(bc:Nat):Prop where
 lt:nb<w.heap.size
 cell:w.cell? ⟨nb,o,none⟩=some (.slice ba L.length bc)
 frz:w.frozen? ⟨nb,o,none⟩=false
 row:RV w 200 4 ba L.length bc (pkcells L)
 nb_:¬inB ba nb
structure BagTo(w w':World)(nb o:Nat)(ba ba':Option Addr)(v:Value):Prop where
 keep:Keep (fun i=>i=nb∨inB ba i) w w'
 blk:∀cells t,Blk w nb cells t→Blk w' nb (cells.setIfInBounds o v) t
 mine:∀i,inB ba' i→inB ba i∨w.heap.size≤i
theorem blk_same{w:World}{b o:Nat}{cells:Array Value}{t:TypeId}{v:Value}(h:Blk w b cells t)(hc:w.cell? ⟨b,o,none⟩=some v):cells.setIfInBounds o v=cells:=by
 rw[h.cell o]at hc
 apply Array.ext_getElem?
 intro i
 by_cases hi:o=i
 ·subst hi
  rw[hc]
  rw[Array.getElem?_setIfInBounds]
  have:=(Array.getElem?_eq_some_iff.1 hc).1
  simp[this]
 ·rw[Array.getElem?_setIfInBounds];simp[hi]
theorem cell_set_self{w:World}{b o:Nat}{u:Value}(h:w.cell? ⟨b,o,none⟩=some u)(v:Value):(w.setCell ⟨b,o,none⟩ v).cell? ⟨b,o,none⟩=some v:=World.cell?_setCell_same' _ _ _ (by rw[h];rfl)
theorem frozen_set{w:World}{b o:Nat}(v:Value):(w.setCell ⟨b,o,none⟩ v).frozen? ⟨b,o,none⟩=w.frozen? ⟨b,o,none⟩:=World.frozen?_setCell _ _ _ _
theorem packet_info2:(Tryz.prog.info? 200).map (fun i=>(i.zero,i.size,i.bytes))=some (some (.agg #[.int .i64 0,.int .i64 0,.slice none 0 0,.bool false]),4,48):=by kernel_rfl
theorem bagAdd_any(nb o:Nat)(L:List Pk)(ba:Option Addr)(bc:Nat)(x:Pk)(w:World)(h:Bag w nb o L ba bc)(hl:(L.length:Int)≤300):
 Calls Tryz.prog 120 #[.pointer (some ⟨nb,o,none⟩),.agg #[.int .i64 (x.from_:Int),.int .i64 (x.to_:Int),x.slice,.bool x.sp]] w fun r w'=>r=.returned (.tuple #[])∧∃ba' bc',Bag w' nb o (badd L x) ba' bc'∧BagTo w w' nb o ba ba' (.slice ba' (badd L x).length bc'):=by
 have H:Unit→Bag w nb o L ba bc∧(L.length:Int)≤300:=fun _=>⟨h,hl⟩
 have hc:=h.cell
 have hf:=h.frz
 have hlt:=h.lt
 unfold Pk.slice
 obtain⟨xf,xt,xl,xg,xc,xs⟩:=x
 simp only
 by_cases hr:L.length<300
 ·have HE:Unit→badd L ⟨xf,xt,xl,xg,xc,xs⟩=L++[⟨xf,xt,xl,xg,xc,xs⟩]:=fun _=>by unfold badd;rw[if_pos hr]
  have hrI:(L.length:Int)<300:=by omega
  have HRI:Unit→(L.length:Int)<300:=fun _=>hrI
  clear h hl hr
  generalize hln:L.length=ln at hc hrI HRI
  go_enter Tryz.func120,Tryz.ntmps120
  go_wp2_with fail
  obtain⟨W1,hW1⟩:∃W1,W1=w.alloc (.cells #[.int .i64 (xf:Int),.int .i64 (xt:Int),.slice (some ⟨xg,0,none⟩) xl.length xc,.bool xs] 200):=⟨_,rfl⟩
  obtain⟨yb,hyb⟩:∃yb,yb=w.heap.size:=⟨_,rfl⟩
  have hk1:Keep nil w W1:=by rw[hW1];exact(Keep.refl nil w).alloc _
  have hb1:Blk W1 yb #[.int .i64 (xf:Int),.int .i64 (xt:Int),.slice (some ⟨xg,0,none⟩) xl.length xc,.bool xs] 200:=by rw[hW1,hyb];exact Blk.new _ _ _
  rw[←hW1,←hyb]
  have y0:=hb1.cell 0
  have y1:=hb1.cell 1
  have y2:=hb1.cell 2
  have y3:=hb1.cell 3
  simp at y0 y1 y2 y3
  have hyl:=hb1.lt
  have d0:=(hk1.cell nb o hlt id).trans hc
  have d1:=(hk1.frozen nb o hlt id).trans hf
  have hlt1:nb<W1.heap.size:=Nat.lt_of_lt_of_le hlt hk1.size
  have HRW:Unit→RV W1.drew 200 4 ba ln bc (pkcells L):=fun _=>by have:=(H ()).1.row;rw[hln]at this;exact(this.keep hk1 (fun _ _ e=>e)).keep ((Keep.refl nil W1).drew) (fun _ _ e=>e)
  have HNB:Unit→¬inB ba nb:=fun _=>(H ()).1.nb_
  have H1:Unit→Keep nil w W1:=fun _=>hk1
  clear hW1 hyb hk1 hb1 hc hf
  generalize hls:pkcells L=ls at HRW
  generalize hxl:xl.length=xln at *
  go_region_law (refine step_append_rvS rfl (.tmp 12) (.tmp 14) 85 rfl 200 (.agg #[.int .i64 0,.int .i64 0,.slice none 0 0,.bool false]) 4 48 Tryz.underlying85 packet_info2 rfl ba ln bc (by simp[Act.eval,Act.put]) ls ((HRW ()).alloc _) ⟨W1.heap.size,0,none⟩ 1 1 (by omega) rfl [.int .i64 (xf:Int),.int .i64 (xt:Int),.slice (some ⟨xg,0,none⟩) xln xc,.bool xs] rfl (cells_elist W1.drew [.int .i64 (xf:Int),.int .i64 (xt:Int),.slice (some ⟨xg,0,none⟩) xln xc,.bool xs] 200 _ rfl) (by intro u hu;simp at hu;rcases hu with rfl|rfl|rfl|rfl<;>rfl) (by have:=HRI ();omega) (by have:=HRI ();omega) ?_;intro a' c' w4 hb4 hd4 hk4;have g0:=((((Keep.refl nil W1.drew).alloc _).mono (fun _ _ e=>e.elim)).trans hk4).cell nb o hlt1 (HNB ());have g1:=((((Keep.refl nil W1.drew).alloc _).mono (fun _ _ e=>e.elim)).trans hk4).frozen nb o hlt1 (HNB ());rw[show W1.drew.cell? ⟨nb,o,none⟩=_ from d0]at g0;rw[show W1.drew.frozen? ⟨nb,o,none⟩=_ from d1]at g1)
  all_goals
   have HP:Unit→∃ba' bc',Bag (w4.setCell ⟨nb,o,none⟩ (.slice a' (ln+1) c')) nb o (badd L ⟨xf,xt,xl,xg,xc,xs⟩) ba' bc'∧BagTo w (w4.setCell ⟨nb,o,none⟩ (.slice a' (ln+1) c')) nb o ba ba' (.slice ba' (badd L ⟨xf,xt,xl,xg,xc,xs⟩).length bc'):=fun _=>by
    rw[HE ()]
    have k24:Keep (inB ba) w w4:=((((H1 ()).drew).alloc _).mono (fun _ _ e=>e.elim)).trans hk4
    have ks:Keep (only nb) w4 (w4.setCell ⟨nb,o,none⟩ (.slice a' (ln+1) c')):=(Keep.refl (only nb) w4).setCell (p:=⟨nb,o,none⟩) (fun _=>rfl) _
    have hmine:∀i,inB a' i→inB ba i∨w.heap.size≤i:=fun i hi=>by
     rcases hd4 with⟨e,_⟩|⟨e,_⟩
     ·rw[e]at hi;exact Or.inl hi
     ·rw[e]at hi
      have:=inB_some.1 hi
      have hs1:=(H1 ()).size
      simp only[World.size_alloc,World.size_drew]at this
      exact Or.inr (by omega)
    have hna:¬inB a' nb:=fun e=>by
     rcases hmine nb e with e|e
     ·exact HNB () e
     ·omega
    have hlen:(L++[(⟨xf,xt,xl,xg,xc,xs⟩:Pk)]).length=ln+1:=by simp[hln]
    rw[hlen]
    have hl4:nb<w4.heap.size:=Nat.lt_of_lt_of_le hlt k24.size
    refine⟨a',c',⟨by simpa using hl4,?_,?_,?_,hna⟩,⟨?_,?_,hmine⟩⟩
    ·rw[hlen];exact cell_set_self g0 _
    ·rw[frozen_set];exact g1
    ·rw[hlen,pkcells_append,hls]
     have e1:pkcells [(⟨xf,xt,xl,xg,xc,xs⟩:Pk)]=[.int .i64 (xf:Int),.int .i64 (xt:Int),.slice (some ⟨xg,0,none⟩) xln xc,.bool xs]:=by simp[pkcells,pkcell,Pk.slice,hxl]
     rw[e1]
     exact hb4.keep ks (fun g hg e=>by rw[show g=nb from e]at hg;exact hna hg)
    ·exact(k24.mono (fun _ _ e=>Or.inr e)).trans (ks.mono (fun _ _ e=>Or.inl e))
    ·intro cells t hb
     exact(hb.keep k24 (HNB ())).set o _
   have hl4:nb<w4.heap.size:=Nat.lt_of_lt_of_le (by simp;omega) hk4.size
   clear hb4 hd4 hk4 d0 d1 y0 y1 y2 y3 HRW
   go_wp2
   go_end0
   exact⟨rfl,HP ()⟩
 ·have HE:Unit→badd L ⟨xf,xt,xl,xg,xc,xs⟩=L:=fun _=>by unfold badd;rw[if_neg hr]
  have hr2:L.length=300:=by omega
  rw[hr2]at hc
  clear h hl hr hr2
  go_enter Tryz.func120,Tryz.ntmps120
  go_wp2
  go_end0
  have hk1:Keep nil w (w.alloc (.cells #[.int .i64 (xf:Int),.int .i64 (xt:Int),.slice (some ⟨xg,0,none⟩) xl.length xc,.bool xs] 200)):=(Keep.refl nil w).alloc _
  have hB:=(H ()).1
  refine⟨rfl,ba,bc,?_,?_⟩
  ·rw[HE ()]
   exact⟨Nat.lt_of_lt_of_le hB.lt hk1.size,(hk1.cell nb o hB.lt id).trans hB.cell,(hk1.frozen nb o hB.lt id).trans hB.frz,hB.row.keep hk1 (fun _ _ e=>e),hB.nb_⟩
  ·rw[HE ()]
   exact⟨hk1.mono (fun _ _ e=>e.elim),fun cells t hb=>by rw[blk_same hb hB.cell];exact hb.keep hk1 id,fun i hi=>Or.inl hi⟩
theorem pkcells_get(l:List Pk):∀(k:Nat) (e:Pk),l[k]?=some e→(pkcells l)[k * 4]?=some (.int .i64 (e.from_:Int))∧(pkcells l)[k * 4+1]?=some (.int .i64 (e.to_:Int))∧(pkcells l)[k * 4+2]?=some e.slice∧(pkcells l)[k * 4+3]?=some (.bool e.sp):=by
 induction l with
 |nil=>intro k e h;simp at h
 |cons x t ih=>
  intro k e h
  have hc:pkcells (x::t)=pkcell x++pkcells t:=by simp[pkcells]
  rw[hc]
  cases k with
  |zero=>simp at h;subst h;exact⟨rfl,rfl,rfl,rfl⟩
  |succ k=>
   rw[List.getElem?_cons_succ]at h
   have:=ih k e h
   have hl:(pkcell x).length=4:=rfl
   rw[List.getElem?_append_right (by omega),List.getElem?_append_right (by omega),List.getElem?_append_right (by omega),List.getElem?_append_right (by omega),hl,show (k+1) * 4 - 4=k * 4 by omega,show (k+1) * 4+1 - 4=k * 4+1 by omega,show (k+1) * 4+2 - 4=k * 4+2 by omega,show (k+1) * 4+3 - 4=k * 4+3 by omega]
   exact this
theorem Bag.at_{w:World}{nb o:Nat}{L:List Pk}{ba:Option Addr}{bc:Nat}(h:Bag w nb o L ba bc)(k:Nat)(x:Pk)(hx:L[k]?=some x):∃g q,ba=some ⟨g,q,none⟩∧g<w.heap.size∧w.cell? ⟨g,q+k * 4,none⟩=some (.int .i64 (x.from_:Int))∧w.cell? ⟨g,q+k * 4+1,none⟩=some (.int .i64 (x.to_:Int))∧w.cell? ⟨g,q+k * 4+2,none⟩=some x.slice∧w.cell? ⟨g,q+k * 4+3,none⟩=some (.bool x.sp):=by
 obtain⟨h1,h2,h3⟩:=h.row
 have hj:=(List.getElem?_eq_some_iff.1 hx).1
 rcases h3 with⟨_,h3,_⟩|⟨g,q,h3,hv⟩
 ·omega
 ·obtain⟨c0,c1,c2,c3⟩:=pkcells_get L k x hx
  exact⟨g,q,h3,hv.lt,hv.cell _ _ c0,by rw[Nat.add_assoc];exact hv.cell _ _ c1,by rw[Nat.add_assoc];exact hv.cell _ _ c2,by rw[Nat.add_assoc];exact hv.cell _ _ c3⟩
theorem bagTake_any(nb o:Nat)(L:List Pk)(ba:Option Addr)(bc:Nat)(k:Nat)(x:Pk)(w:World)(h:Bag w nb o L ba bc)(hx:L[k]?=some x)(hl:(L.length:Int)≤300):
 Calls Tryz.prog 114 #[.pointer (some ⟨nb,o,none⟩),.int .i64 (k:Int)] w fun r w'=>r=.returned (.agg #[.int .i64 (x.from_:Int),.int .i64 (x.to_:Int),x.slice,.bool x.sp])∧Bag w' nb o (L.eraseIdx k) ba bc∧BagTo w w' nb o ba ba (.slice ba (L.length - 1) bc):=by
 have H:Unit→Bag w nb o L ba bc∧L[k]?=some x∧(L.length:Int)≤300:=fun _=>⟨h,hx,hl⟩
 have hkl:=(List.getElem?_eq_some_iff.1 hx).1
 have hkI:(k:Int)<(L.length:Int):=by omega
 have hk9:(k:Int)<1000:=by omega
 obtain⟨g,q,hga,hgl,e0,e1,e2,e3⟩:=h.at_ k x hx
 have hc:=h.cell
 have hf:=h.frz
 have hlt:=h.lt
 have HK:Unit→k<L.length∧ba=some ⟨g,q,none⟩:=fun _=>⟨hkl,hga⟩
 rw[hga]at hc⊢
 unfold Pk.slice at e2⊢
 obtain⟨xf,xt,xl,xg,xc,xs⟩:=x
 simp only at e0 e1 e2 e3⊢
 clear h hx hl hkl hga
 generalize hln:L.length=ln at hc hkI
 go_enter Tryz.func114,Tryz.ntmps114
 go_wp2_with fail
 obtain⟨W1,hW1⟩:∃W1,W1=(w.alloc (.cells #[.int .i64 0,.int .i64 0,.slice none 0 0,.bool false] 200)).alloc (.cells #[.int .i64 (xf:Int),.int .i64 (xt:Int),.slice (some ⟨xg,0,none⟩) xl.length xc,.bool xs] 200):=⟨_,rfl⟩
 have hk1:Keep nil w W1:=by rw[hW1];exact((Keep.refl nil w).alloc _).alloc _
 have hbp:Blk W1 (w.heap.size+1) #[.int .i64 (xf:Int),.int .i64 (xt:Int),.slice (some ⟨xg,0,none⟩) xl.length xc,.bool xs] 200:=by rw[hW1];have:=Blk.new (w.alloc (.cells #[.int .i64 0,.int .i64 0,.slice none 0 0,.bool false] 200)) #[.int .i64 (xf:Int),.int .i64 (xt:Int),.slice (some ⟨xg,0,none⟩) xl.length xc,.bool xs] 200;simpa using this
 have hbr:Blk W1 w.heap.size #[.int .i64 0,.int .i64 0,.slice none 0 0,.bool false] 200:=by rw[hW1];exact(Blk.new _ _ _).keep ((Keep.refl nil _).alloc _) id
 obtain⟨rb,hrb⟩:∃rb,rb=w.heap.size:=⟨_,rfl⟩
 obtain⟨pb,hpb⟩:∃pb,pb=w.heap.size+1:=⟨_,rfl⟩
 rw[←hpb]at hbp
 rw[←hrb]at hbr
 rw[←hW1,←hpb,←hrb]
 have hrow:=(H ()).1.row.keep hk1 (fun _ _ e=>e)
 rw[(HK ()).2]at hrow
 obtain⟨r1,r2,r3⟩:=hrow
 obtain⟨pre,sp,hblk,hpre,hcap⟩:∃pre sp,Blk W1 g (pre++pkcells L++sp).toArray 200∧pre.length=q∧bc * 4≤(pkcells L).length+sp.length:=by
  rcases r3 with⟨r3,_⟩|⟨g',o',r3,pre,sp,x1,x2,x3⟩
  ·cases r3
  ·cases r3;exact⟨pre,sp,x1,x2,x3⟩
 obtain⟨q1,q2⟩:=pk_parts L k ⟨xf,xt,xl,xg,xc,xs⟩ (H ()).2.1
 have hD:=delete_packet g q L.length bc k (k+1) pre (pkcells (L.take k)) (pkcell ⟨xf,xt,xl,xg,xc,xs⟩) (pkcells (L.drop (k+1))) sp W1 (by rw[q1]at hblk;simpa [List.append_assoc]using hblk) hpre (by rw[pkcells_len,List.length_take];have:=HK ();omega) rfl (by rw[pkcells_len,List.length_drop]) (pkcells_one _) rfl (by have:=HK ();omega) r2
 rw[show ((k+1:Nat):Int)=(k:Int)+1 from by omega,hln]at hD
 refine Calls.mono hD ?_
 rintro r w3 ⟨rfl,hb3,hk3⟩
 have hgnb:¬nb=g:=fun e=>(H ()).1.nb_ (by rw[(HK ()).2,e];exact inB_self g q)
 have hgn2:¬g=nb:=fun e=>hgnb e.symm
 have hlt1:nb<W1.heap.size:=Nat.lt_of_lt_of_le hlt hk1.size
 have d0:=(hk3.cell nb o hlt1 hgnb).trans ((hk1.cell nb o hlt id).trans hc)
 have d1:=(hk3.frozen nb o hlt1 hgnb).trans ((hk1.frozen nb o hlt id).trans hf)
 have hp3:=hbp.keep hk3 (fun e=>by have e:pb=g:=e;omega)
 have hr3:=hbr.keep hk3 (fun e=>by have e:rb=g:=e;omega)
 have H3:Unit→Blk w3 g (pre++pkcells (L.take k)++pkcells (L.drop (k+1))++[Value.int .i64 0,Value.int .i64 0,Value.slice none 0 0,Value.bool false]++sp).toArray 200∧Keep (only g) w w3∧Blk w3 rb #[.int .i64 0,.int .i64 0,.slice none 0 0,.bool false] 200∧pre.length=q∧bc * 4≤(pkcells L).length+sp.length∧rb=w.heap.size∧L.length≤bc:=fun _=>⟨hb3,(hk1.mono (fun _ _ e=>e.elim)).trans' hk3 (fun _ _ e=>e),hr3,hpre,hcap,hrb,r2⟩
 have y0:=hp3.cell 0
 have y1:=hp3.cell 1
 have y2:=hp3.cell 2
 have y3:=hp3.cell 3
 have z0:=hr3.cell 0
 have z1:=hr3.cell 1
 have z2:=hr3.cell 2
 have z3:=hr3.cell 3
 simp at y0 y1 y2 y3 z0 z1 z2 z3
 have v0:=hr3.frozen 0
 have v1:=hr3.frozen 1
 have v2:=hr3.frozen 2
 have v3:=hr3.frozen 3
 have hpl:=hp3.lt
 have hrl:=hr3.lt
 have hlt3:nb<w3.heap.size:=Nat.lt_of_lt_of_le hlt1 hk3.size
 have n1:¬nb=pb:=by omega
 have n2:¬pb=nb:=by omega
 have n3:¬nb=rb:=by omega
 have n4:¬rb=nb:=by omega
 have n5:¬rb=pb:=by omega
 have n6:¬pb=rb:=by omega
 clear hD hb3 hk3 hp3 hr3 hbp hbr hk1 hW1 hrb hpb r1 r2 r3 hblk hpre hcap q1 q2 e0 e1 e2 e3 hc hf hkI hk9
 go_wp2_with fail
 obtain⟨W4,hW4⟩:∃W4,W4=w3.setCell ⟨nb,o,none⟩ (.slice (some ⟨g,q,none⟩) (ln - 1) bc):=⟨_,rfl⟩
 have ks:Keep (only nb) w3 W4:=by rw[hW4];exact(Keep.refl (only nb) w3).setCell (p:=⟨nb,o,none⟩) (fun _=>rfl) _
 have hR4:=(H3 ()).2.2.1.keep ks (fun e=>n4 e)
 have hR:=(((hR4.set 0 (.int .i64 (xf:Int))).set 1 (.int .i64 (xt:Int))).set 2 (.slice (some ⟨xg,0,none⟩) xl.length xc)).set 3 (.bool xs)
 rw[←hW4]
 obtain⟨W9,hW9⟩:∃W9,W9=((((W4.setCell ⟨rb,0,none⟩ (.int .i64 (xf:Int))).setCell ⟨rb,1,none⟩ (.int .i64 (xt:Int))).setCell ⟨rb,2,none⟩ (.slice (some ⟨xg,0,none⟩) xl.length xc)).setCell ⟨rb,3,none⟩ (.bool xs)):=⟨_,rfl⟩
 have k9:Keep (only rb) W4 W9:=by
  rw[hW9]
  exact((((Keep.refl (only rb) W4).setCell (p:=⟨rb,0,none⟩) (fun _=>rfl) _).setCell (p:=⟨rb,1,none⟩) (fun _=>rfl) _).setCell (p:=⟨rb,2,none⟩) (fun _=>rfl) _).setCell (p:=⟨rb,3,none⟩) (fun _=>rfl) _
 rw[←hW9]at hR⊢
 have u0:=hR.cell 0
 have u1:=hR.cell 1
 have u2:=hR.cell 2
 have u3:=hR.cell 3
 simp at u0 u1 u2 u3
 obtain⟨hb3,hk3,_,hpre,hcap,hrb,hlc⟩:=H3 ()
 have hkk:=(HK ()).1
 have hlt4:nb<W4.heap.size:=Nat.lt_of_lt_of_le hlt3 ks.size
 have s0:W4.cell? ⟨nb,o,none⟩=some (.slice (some ⟨g,q,none⟩) (ln - 1) bc):=by rw[hW4];exact cell_set_self d0 _
 have s1:W4.frozen? ⟨nb,o,none⟩=false:=by rw[hW4,frozen_set];exact d1
 have hel:(L.eraseIdx k).length=ln - 1:=by rw[List.length_eraseIdx_of_lt hkk,hln]
 have hgr:¬g=rb:=by omega
 have hB:Bag W9 nb o (L.eraseIdx k) (some ⟨g,q,none⟩) bc:=by
  refine⟨Nat.lt_of_lt_of_le hlt4 k9.size,?_,(k9.frozen nb o hlt4 (fun e=>n3 e)).trans s1,?_,fun e=>hgnb (inB_some.1 e)⟩
  ·rw[hel];exact(k9.cell nb o hlt4 (fun e=>n3 e)).trans s0
  ·refine⟨pkcells_len _,by rw[hel];omega,Or.inr ⟨g,q,rfl,pre,[Value.int .i64 0,Value.int .i64 0,Value.slice none 0 0,Value.bool false]++sp,?_,hpre,?_⟩⟩
   ·rw[(pk_parts L k ⟨xf,xt,xl,xg,xc,xs⟩ (H ()).2.1).2]
    have:=(hb3.keep ks (fun e=>hgn2 e)).keep k9 (fun e=>hgr e)
    simpa [List.append_assoc]using this
   ·rw[pkcells_len]at hcap⊢
    rw[hel]
    simp
    omega
 have hT:BagTo w W9 nb o (some ⟨g,q,none⟩) (some ⟨g,q,none⟩) (.slice (some ⟨g,q,none⟩) (ln - 1) bc):=by
  refine⟨?_,fun cells t hb=>?_,fun i hi=>Or.inl hi⟩
  ·have k1:Keep (fun i=>i=nb∨inB (some ⟨g,q,none⟩) i) w W4:=(hk3.mono (fun i _ e=>Or.inr (by rw[show i=g from e];exact inB_self g q))).trans (ks.mono (fun i _ e=>Or.inl e))
   exact k1.trans' k9 (fun i hi e=>by have e:i=rb:=e;omega)
  ·have hb4:=(hb.keep hk3 (fun e=>hgnb e)).set o (.slice (some ⟨g,q,none⟩) (ln - 1) bc)
   rw[←hW4]at hb4
   exact hb4.keep k9 (fun e=>n3 e)
 clear hW9 hW4 ks k9 hR hR4 hb3 hk3 H3 H HK s0 s1 d0 d1 y0 y1 y2 y3 z0 z1 z2 z3 v0 v1 v2 v3
 refine bodyPost_ret (v:=.agg #[.int .i64 (xf:Int),.int .i64 (xt:Int),.slice (some ⟨xg,0,none⟩) xl.length xc,.bool xs]) ?_ rfl ⟨rfl,hB,hT⟩
 clear hB hT
 simp[results,Tryz.results114,go_sem,u0,u1,u2,u3]
abbrev PRow(w:World)(g:Nat)(l:List Nat)(c:Nat):Prop:=RV w 5 1 (some ⟨g,0,none⟩) l.length c (l.map bv)
theorem clone_any(g c:Nat)(l:List Nat)(w:World)(h:PRow w g l c)(h0:0<l.length)(hl:(l.length:Int)<1000):
 Calls Tryz.prog 175 #[.slice (some ⟨g,0,none⟩) l.length c] w fun r w'=>∃g' c',r=.returned (.slice (some ⟨g',0,none⟩) l.length c')∧PRow w' g' l c'∧Keep nil w w'∧w.heap.size≤g':=by
 have H:Unit→PRow w g l c∧0<l.length∧(l.length:Int)<1000:=fun _=>⟨h,h0,hl⟩
 have hnil:∀(w:World) (a:Option Addr) (n c:Nat),(binOp .eql 56 (.slice a n c) (.slice none 0 0)).run Tryz.prog w=.ok (.bool a.isNone) w:=fun w a n c=>Lib.run_eql_slice_nil w 56 5 a n c 0 0 Tryz.underlying56
 clear h h0 hl
 generalize hln:l.length=ln at *
 go_enter Tryz.func175,Tryz.ntmps175
 have hE:RV (w.alloc (.cells #[] 5)) 5 1 (some ⟨w.heap.size,0,none⟩) 0 0 []:=⟨rfl,Nat.le_refl _,Or.inr ⟨w.heap.size,0,rfl,[],[],Blk.new _ _ _,rfl,Nat.le_refl _⟩⟩
 have hS:∀j u,(l.map bv)[j]?=some u→(w.alloc (.cells #[] 5)).cell? (Addr.add ⟨g,0,none⟩ j)=some u:=fun j u hu=>by
  obtain⟨r1,r2,r3⟩:=(H ()).1.keep ((Keep.refl nil w).alloc (.cells #[] 5)) (fun _ _ e=>e)
  rcases r3 with⟨r3,_⟩|⟨g',o',r3,hv⟩
  ·cases r3
  ·cases r3
   rw[Addr.add_lit]
   exact hv.cell _ _ hu
 have hLN:(l.map bv).length=ln * 1:=by rw[List.length_map,hln,Nat.mul_one]
 have hON:∀u∈l.map bv,u.oneCell'=true:=fun u hu=>by
  obtain⟨x,_,rfl⟩:=List.mem_map.1 hu;rfl
 go_wp2_with (at_builtin;refine wpList_append_rvS _ rfl (.tmp 5) (.tmp 6) 56 rfl 5 (.int .u8 0) 1 1 Tryz.underlying56 u8_info rfl (some ⟨w.heap.size,0,none⟩) 0 0 rfl [] hE ⟨g,0,none⟩ ln c (H ()).2.1 rfl (l.map bv) hLN hS hON (by have:=(H ()).2.2;omega) (by have:=(H ()).2.2;omega) ?_;intro a' c' w4 hb4 hd4 hk4)
 obtain⟨g',hg',hk',hgs⟩:∃g',a'=some ⟨g',0,none⟩∧Keep nil w w4∧w.heap.size≤g':=by
  rcases hd4 with⟨e1,e2⟩|⟨e1,e2⟩
  ·have:=hb4.2.1;have:=(H ()).2.1;omega
  ·exact⟨_,e1,((Keep.refl nil w).alloc _).trans e2,by simp⟩
 subst hg'
 rw[Nat.zero_add,List.nil_append]at hb4
 have HP:Unit→PRow w4 g' l c':=fun _=>by unfold PRow;rw[hln];exact hb4
 clear hb4 hd4 hk4 hE hS hLN hON H
 go_wp2
 go_ret
 exact⟨g',c',by simp,HP (),hk',hgs⟩
def pkv(x:Pk):Value:=.agg #[.int .i64 (x.from_:Int),.int .i64 (x.to_:Int),x.slice,.bool x.sp]
theorem alike_any(x:Pk)(w:World)(h:PRow w x.g x.l x.c)(h0:0<x.l.length)(hl:(x.l.length:Int)<1000):
 Calls Tryz.prog 121 #[pkv x] w fun r w'=>∃g' c',r=.returned (pkv { x with g:=g',c:=c'})∧PRow w' g' x.l c'∧Keep nil w w'∧w.heap.size≤g':=by
 have HC:Unit→∀w1,Keep nil w w1→_:=fun _ w1 k1=>clone_any x.g x.c x.l w1 (h.keep k1 (fun _ _ e=>e)) h0 hl
 clear h h0 hl
 obtain⟨xf,xt,xl,xg,xc,xs⟩:=x
 simp only[pkv,Pk.slice]at HC⊢
 generalize hln:xl.length=ln at *
 go_enter Tryz.func121,Tryz.ntmps121
 go_wp2_with fail
 obtain⟨W1,hW1⟩:∃W1,W1=(w.alloc (.cells #[.int .i64 (xf:Int),.int .i64 (xt:Int),.slice (some ⟨xg,0,none⟩) ln xc,.bool xs] 200)).alloc (.cells #[.int .i64 0,.int .i64 0,.slice none 0 0,.bool false] 200):=⟨_,rfl⟩
 have hk1:Keep nil w W1:=by rw[hW1];exact((Keep.refl nil w).alloc _).alloc _
 obtain⟨pb,hpb⟩:∃pb,pb=w.heap.size:=⟨_,rfl⟩
 obtain⟨rb,hrb⟩:∃rb,rb=w.heap.size+1:=⟨_,rfl⟩
 have hbp:Blk W1 pb #[.int .i64 (xf:Int),.int .i64 (xt:Int),.slice (some ⟨xg,0,none⟩) ln xc,.bool xs] 200:=by rw[hW1,hpb];exact(Blk.new _ _ _).keep ((Keep.refl nil _).alloc _) id
 have hbr:Blk W1 rb #[.int .i64 0,.int .i64 0,.slice none 0 0,.bool false] 200:=by rw[hW1,hrb];have:=Blk.new (w.alloc (.cells #[.int .i64 (xf:Int),.int .i64 (xt:Int),.slice (some ⟨xg,0,none⟩) ln xc,.bool xs] 200)) #[.int .i64 0,.int .i64 0,.slice none 0 0,.bool false] 200;simpa using this
 rw[←hW1,←hrb,←hpb]
 refine Calls.mono (HC () W1 hk1) ?_
 rintro r w3 ⟨g',c',rfl,hp',hk',hgs⟩
 have hp3:=hbp.keep hk' id
 have hr3:=hbr.keep hk' id
 have hgp:¬g'=pb:=by have:=hbp.lt;omega
 have hgr:¬g'=rb:=by have:=hbr.lt;omega
 have hgw:w.heap.size≤g':=Nat.le_trans hk1.size hgs
 have H3:Unit→PRow w3 g' xl c'∧Keep nil w w3∧Blk w3 pb #[.int .i64 (xf:Int),.int .i64 (xt:Int),.slice (some ⟨xg,0,none⟩) ln xc,.bool xs] 200∧Blk w3 rb #[.int .i64 0,.int .i64 0,.slice none 0 0,.bool false] 200∧pb=w.heap.size∧rb=w.heap.size+1:=fun _=>⟨hp',hk1.trans hk',hp3,hr3,hpb,hrb⟩
 have y0:=hp3.cell 0
 have y1:=hp3.cell 1
 have y2:=hp3.cell 2
 have y3:=hp3.cell 3
 have z0:=hr3.cell 0
 have z1:=hr3.cell 1
 have z2:=hr3.cell 2
 have z3:=hr3.cell 3
 simp at y0 y1 y2 y3 z0 z1 z2 z3
 have p2:=hp3.frozen 2
 have v0:=hr3.frozen 0
 have v1:=hr3.frozen 1
 have v2:=hr3.frozen 2
 have v3:=hr3.frozen 3
 have hpl:=hp3.lt
 have hrl:=hr3.lt
 have n5:¬rb=pb:=by omega
 have n6:¬pb=rb:=by omega
 clear HC hp' hk' hgs hp3 hr3 hbp hbr hk1 hW1 hpb hrb
 go_wp2_with fail
 obtain⟨W4,hW4⟩:∃W4,W4=w3.setCell ⟨pb,2,none⟩ (.slice (some ⟨g',0,none⟩) ln c'):=⟨_,rfl⟩
 have ks:Keep (only pb) w3 W4:=by rw[hW4];exact(Keep.refl (only pb) w3).setCell (p:=⟨pb,2,none⟩) (fun _=>rfl) _
 have hR:=((((H3 ()).2.2.2.1.keep ks (fun e=>n5 e)).set 0 (.int .i64 (xf:Int))).set 1 (.int .i64 (xt:Int))).set 2 (.slice (some ⟨g',0,none⟩) ln c')
 have hR:=hR.set 3 (.bool xs)
 rw[←hW4]
 obtain⟨W9,hW9⟩:∃W9,W9=((((W4.setCell ⟨rb,0,none⟩ (.int .i64 (xf:Int))).setCell ⟨rb,1,none⟩ (.int .i64 (xt:Int))).setCell ⟨rb,2,none⟩ (.slice (some ⟨g',0,none⟩) ln c')).setCell ⟨rb,3,none⟩ (.bool xs)):=⟨_,rfl⟩
 have k9:Keep (only rb) W4 W9:=by
  rw[hW9]
  exact((((Keep.refl (only rb) W4).setCell (p:=⟨rb,0,none⟩) (fun _=>rfl) _).setCell (p:=⟨rb,1,none⟩) (fun _=>rfl) _).setCell (p:=⟨rb,2,none⟩) (fun _=>rfl) _).setCell (p:=⟨rb,3,none⟩) (fun _=>rfl) _
 rw[←hW9]at hR⊢
 have u0:=hR.cell 0
 have u1:=hR.cell 1
 have u2:=hR.cell 2
 have u3:=hR.cell 3
 simp at u0 u1 u2 u3
 have hrow:PRow W9 g' xl c':=((H3 ()).1.keep ks (fun g hg e=>by have:=inB_some.1 hg;have e:g=pb:=e;omega)).keep k9 (fun g hg e=>by have:=inB_some.1 hg;have e:g=rb:=e;omega)
 have hkk:Keep nil w W9:=((H3 ()).2.1.trans' ks (fun i hi e=>by have e:i=pb:=e;have:=(H3 ()).2.2.2.2.1;omega)).trans' k9 (fun i hi e=>by have e:i=rb:=e;have:=(H3 ()).2.2.2.2.2;omega)
 clear hW9 hW4 ks k9 hR H3 y0 y1 y2 y3 z0 z1 z2 z3 p2 v0 v1 v2 v3
 refine bodyPost_ret (v:=.agg #[.int .i64 (xf:Int),.int .i64 (xt:Int),.slice (some ⟨g',0,none⟩) ln c',.bool xs]) ?_ rfl ⟨g',c',rfl,hrow,hkk,hgw⟩
 clear hrow hkk
 simp[results,Tryz.results121,go_sem,u0,u1,u2,u3]
def tkcell(x:Pk):List Value:=[.int .i64 (x.from_:Int),.int .i64 (x.to_:Int),x.slice]
def tkcells(L:List Pk):List Value:=L.flatMap tkcell
def Pk.tri(x:Pk):Nat×Nat×List Nat:=(x.from_,x.to_,x.l)
theorem field_packet(a b c d:Value)(w:World):(Instr.field 200 (.agg #[a,b,c,d]) 0).run Tryz.prog w=.ok (.agg #[a,b,c]) w:=by
 have hs:(Tryz.prog.info? 58).map (fun i=>i.size)=some 3:=by kernel_rfl
 obtain⟨i,hi,h⟩:=Option.map_eq_some_iff.1 hs
 simp[Instr.field,run_underlying Tryz.underlying200,run_underlying Tryz.underlying58,part,asAgg,typeInfo,sizeOf,hi,h]
theorem apacket_info:(Tryz.prog.info? 58).map (fun i=>(i.zero,i.size,i.bytes))=some (some (.agg #[.int .i64 0,.int .i64 0,.slice none 0 0]),3,40):=by kernel_rfl
structure Tel(w wr:World)(L T:List Pk)(a:Option Addr)(c:Nat):Prop where
 keep:Keep nil w wr
 row:RV wr 58 3 a T.length c (tkcells T)
 new:∀i,inB a i→w.heap.size≤i
 same:T.map Pk.tri=L.map Pk.tri
 each:∀x∈T,PRow wr x.g x.l x.c∧w.heap.size≤x.g∧¬inB a x.g
 apart:T.Pairwise (fun x y=>x.g≠y.g)
theorem Tel.next{w wr w2 w4:World}{L T:List Pk}{a a':Option Addr}{c c':Nat}(h:Tel w wr L T a c)(x y:Pk)(hxy:y.tri=x.tri)(hk2:Keep nil wr w2)(hy:PRow w2 y.g y.l y.c)(hyn:wr.heap.size≤y.g)(hrow:RV w4 58 3 a' (T.length+1) c' (tkcells T++tkcell y))(hd:∀g,inB a' g→inB a g∨w2.heap.size≤g)(hk:Keep (inB a) w2 w4):
 Tel w w4 (L++[x]) (T++[y]) a' c':=by
 have hyl:y.g<w2.heap.size:=hy.lt y.g (inB_self _ _)
 have hya:¬inB a y.g:=fun e=>by have:=h.row.lt _ e;omega
 have old:∀g,g<w2.heap.size→¬inB a g→¬inB a' g:=fun g hg hn e=>by
  rcases hd g e with e|e
  ·exact hn e
  ·omega
 refine⟨?_,?_,?_,?_,?_,?_⟩
 ·exact(h.keep.trans hk2).trans' hk (fun i hi e=>by have:=h.new i e;omega)
 ·have e1:tkcells (T++[y])=tkcells T++tkcell y:=by simp[tkcells]
  rw[e1,List.length_append]
  exact hrow
 ·intro i hi
  rcases hd i hi with hi|hi
  ·exact h.new i hi
  ·exact Nat.le_trans (h.keep.trans hk2).size hi
 ·simp[h.same,hxy]
 ·intro z hz
  rcases List.mem_append.1 hz with hz|hz
  ·obtain⟨z1,z2,z3⟩:=h.each z hz
   have zl:z.g<w2.heap.size:=Nat.lt_of_lt_of_le (z1.lt z.g (inB_self _ _)) hk2.size
   exact⟨(z1.keep hk2 (fun _ _ e=>e)).keep hk (fun g hg e=>by have e2:=inB_some.1 hg;rw[e2]at e;exact z3 e),z2,old z.g zl z3⟩
  ·rw[List.mem_singleton.1 hz]
   exact⟨hy.keep hk (fun g hg e=>by have e2:=inB_some.1 hg;rw[e2]at e;exact hya e),Nat.le_trans h.keep.size hyn,old y.g hyl hya⟩
 ·rw[List.pairwise_append]
  refine⟨h.apart,List.pairwise_singleton _ _,fun u hu v hv=>?_⟩
  rw[List.mem_singleton.1 hv]
  have:=(h.each u hu).1.lt u.g (inB_self _ _)
  omega
theorem bagTell_any(nb o:Nat)(L:List Pk)(ba:Option Addr)(bc:Nat)(w:World)(h:Bag w nb o L ba bc)(hl:(L.length:Int)≤300)(hp:∀x∈L,PRow w x.g x.l x.c∧0<x.l.length∧(x.l.length:Int)<1000):
 Calls Tryz.prog 72 #[.slice ba L.length bc] w fun r w'=>∃T a c,r=.returned (.slice a T.length c)∧Tel w w' L T a c:=by
 have H:Unit→Bag w nb o L ba bc∧(L.length:Int)≤300∧∀x∈L,PRow w x.g x.l x.c∧0<x.l.length∧(x.l.length:Int)<1000:=fun _=>⟨h,hl,hp⟩
 have H0:Unit→Tel w w [] [] none 0:=fun _=>by
  have hnn:∀i,¬inB none i:=fun i e=>by obtain⟨_,e⟩:=e;cases e
  exact⟨Keep.refl _ _,⟨rfl,Nat.le_refl _,Or.inl ⟨rfl,rfl,rfl⟩⟩,fun i e=>(hnn i e).elim,rfl,(fun x hx=>by cases hx),List.Pairwise.nil⟩
 clear h hl hp
 go_enter Tryz.func72,Tryz.ntmps72
 go_wp2_with fail
 go_loopw [3,8] (fun u v wr=>∃(k:Nat) (T:List Pk) (a:Option Addr) (c:Nat),k≤L.length∧v=.int .i64 (k:Int)∧u=.slice a k c∧T.length=k∧Tel w wr (L.take k) T a c) (fun _ v _=>L.length - (intOf v).toNat)
 case atStart=>exact⟨0,[],none,0,by omega,rfl,rfl,rfl,H0 ()⟩
 case round=>
  obtain⟨k,T,a,c,hk,rfl,rfl,hT,htel⟩:=hrel
  have HQ:Unit→Tel w wr (L.take k) T a c∧k≤L.length∧T.length=k:=fun _=>⟨htel,hk,hT⟩
  clear htel
  by_cases hkl:k<L.length
  ·have HKL:Unit→k<L.length:=fun _=>hkl
   have hkI:(k:Int)<(L.length:Int):=by omega
   obtain⟨x,hx⟩:∃x,L[k]?=some x:=⟨_,List.getElem?_eq_getElem hkl⟩
   have HX:Unit→L[k]?=some x∧PRow w x.g x.l x.c∧0<x.l.length∧(x.l.length:Int)<1000:=fun _=>⟨hx,(H ()).2.2 x (List.mem_of_getElem? hx)⟩
   have hB:=(H ()).1
   have hkw:=(HQ ()).1.keep
   obtain⟨g,q,hga,hgl,e0,e1,e2,e3⟩:=Bag.at_ ⟨Nat.lt_of_lt_of_le hB.lt hkw.size,(hkw.cell nb o hB.lt id).trans hB.cell,(hkw.frozen nb o hB.lt id).trans hB.frz,hB.row.keep hkw (fun _ _ e=>e),hB.nb_⟩ k x hx
   have hk9:(k:Int)<1000:=by have:=(H ()).2.1;omega
   have HK9:Unit→(k:Int)<1000:=fun _=>hk9
   have HA:Unit→∀w1,Keep nil wr w1→_:=fun _ w1 k1=>alike_any x w1 (((HX ()).2.1.keep (HQ ()).1.keep (fun _ _ e=>e)).keep k1 (fun _ _ e=>e)) (HX ()).2.2.1 (HX ()).2.2.2
   rw[hga]
   obtain⟨xf,xt,xl,xg,xc,xs⟩:=x
   simp only[pkv,Pk.slice]at e0 e1 e2 e3 HA
   clear hkl hk hT hx hB hkw hga
   generalize hxl:xl.length=xln at e2 HA
   go_wp2_with fail
   refine Calls.mono (HA () _ ((Keep.refl nil wr).alloc _)) ?_
   rintro r w2 ⟨g',c',rfl,hp',hk',hgs⟩
   have hk2:Keep nil wr w2:=((Keep.refl nil wr).alloc _).trans hk'
   have hgn:wr.heap.size≤g':=by simp only[World.size_alloc]at hgs;omega
   have HRW:Unit→RV w2 58 3 a k c (tkcells T):=fun _=>by have:=(HQ ()).1.row.keep hk2 (fun _ _ e=>e);rw[(HQ ()).2.2]at this;exact this
   clear HA e0 e1 e2 e3 hgs hk'
   have hfp:=field_packet
   go_wp2_with (at_builtin;refine wpList_append_rvS _ rfl (.tmp 12) (.tmp 16) 54 rfl 58 (.agg #[.int .i64 0,.int .i64 0,.slice none 0 0]) 3 40 Tryz.underlying54 apacket_info rfl a k c rfl (tkcells T) ((HRW ()).alloc _) ⟨w2.heap.size,0,none⟩ 1 1 (by omega) rfl [.int .i64 (xf:Int),.int .i64 (xt:Int),.slice (some ⟨g',0,none⟩) xln c'] rfl (cells_elist w2 [.int .i64 (xf:Int),.int .i64 (xt:Int),.slice (some ⟨g',0,none⟩) xln c'] 58 _ rfl) (by intro u hu;simp at hu;rcases hu with rfl|rfl|rfl<;>rfl) (by have:=HK9 ();omega) (by have:=HK9 ();omega) ?_;intro a' c4 w4 hb4 hd4 hk4)
   have k24:Keep (inB a) w2 w4:=(((Keep.refl nil w2).alloc _).mono (fun _ _ e=>e.elim)).trans hk4
   have etk:tkcell ⟨xf,xt,xl,g',c',xs⟩=[.int .i64 (xf:Int),.int .i64 (xt:Int),.slice (some ⟨g',0,none⟩) xln c']:=by simp[tkcell,Pk.slice,hxl]
   have hnx:=(HQ ()).1.next ⟨xf,xt,xl,xg,xc,xs⟩ ⟨xf,xt,xl,g',c',xs⟩ rfl hk2 hp' hgn (by rw[(HQ ()).2.2,etk];exact hb4) (fun g hg=>by
    rcases hd4 with⟨e,_⟩|⟨e,_⟩
    ·rw[e]at hg;exact Or.inl hg
    ·rw[e]at hg
     have:=inB_some.1 hg
     simp only[World.size_alloc]at this
     exact Or.inr (by omega)) k24
   rw[←take_add L k _ (HX ()).1]at hnx
   exact⟨⟨k+1,_,a',c4,by have:=HKL ();omega,by go_num,rfl,by simp[(HQ ()).2.2],hnx⟩,by have:=HKL ();simp[intOf];omega⟩
  ·have ek:k=L.length:=by omega
   subst ek
   have HP:Unit→Tel w wr L T a c:=fun _=>by have:=(HQ ()).1;rw[List.take_length]at this;exact this
   clear hkl hk
   go_wp2
   go_ret
   exact⟨T,a,c,by rw[(HQ ()).2.2];rfl,HP ()⟩
end Go.Proofs.YtlfijfodklhplaaGreat
