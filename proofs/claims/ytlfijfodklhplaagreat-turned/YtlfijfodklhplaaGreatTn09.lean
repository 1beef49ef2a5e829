import Derived.Test.YtlfijfodklhplaaGreatTn08
import Derived.Test.YtlfijfodklhplaaGreatTn06
import Derived.Test.YtlfijfodklhplaaGreatTn07
import Derived.Laws.ResultCell
set_option maxRecDepth 100000
set_option maxHeartbeats 4000000
set_option linter.unusedVariables false
set_option linter.unusedSimpArgs false
namespace Go.Proofs.YtlfijfodklhplaaGreat
open Go.RowKit
def SameT(L' L:List Th):Prop:=L'.length=L.length∧∀x,x∈L'↔x∈L
theorem SameT.refl(L:List Th):SameT L L:=⟨rfl,fun _=>Iff.rfl⟩
theorem SameT.trans{L L' L'':List Th}(h:SameT L'' L')(h':SameT L' L):SameT L'' L:=⟨h.1.trans h'.1,fun x=>(h.2 x).trans (h'.2 x)⟩
theorem sameT_swap{L:List Th}{i j:Nat}{x y:Th}(hi:L[i]?=some x)(hj:L[j]?=some y)(hij:i≠j):SameT ((L.set i y).set j x) L:=by
 refine⟨by simp,fun z=>?_⟩
 have hil:=(List.getElem?_eq_some_iff.1 hi).1
 have hjl:=(List.getElem?_eq_some_iff.1 hj).1
 constructor
 ·intro h
  obtain⟨k,hk⟩:=List.getElem?_of_mem h
  rw[List.getElem?_set]at hk
  split at hk
  ·rename_i e
   rw[List.length_set,if_pos hjl]at hk
   cases hk
   exact List.mem_of_getElem? hi
  ·rw[List.getElem?_set]at hk
   split at hk
   ·first
     |(cases hk;exact List.mem_of_getElem? hj)
     |(rw[if_pos hil]at hk;cases hk;exact List.mem_of_getElem? hj)
   ·exact List.mem_of_getElem? hk
 ·intro h
  obtain⟨k,hk⟩:=List.getElem?_of_mem h
  by_cases e1:k=i
  ·subst e1
   rw[hi]at hk
   cases hk
   exact List.mem_of_getElem? (i:=j) (by rw[List.getElem?_set,if_pos rfl,List.length_set,if_pos hjl])
  ·by_cases e2:k=j
   ·subst e2
    rw[hj]at hk
    cases hk
    exact List.mem_of_getElem? (i:=i) (by rw[List.getElem?_set,if_neg (Ne.symm hij),List.getElem?_set,if_pos rfl,if_pos hil])
   ·exact List.mem_of_getElem? (i:=k) (by rw[List.getElem?_set,if_neg (Ne.symm e2),List.getElem?_set,if_neg (Ne.symm e1)];exact hk)
abbrev ifv(hb ho:Nat):Value:=.iface 239 (.pointer (some ⟨hb,ho,none⟩))
theorem load_pile(hb ho:Nat)(a:Option Addr)(n c:Nat)(w:World)(h:w.cell? ⟨hb,ho,none⟩=some (.slice a n c)):(loadVar 170 ⟨hb,ho,none⟩).run Tryz.prog w=.ok (.slice a n c) w:=by
 unfold loadVar
 go_simp
theorem wrap_chk (P : Program) (xt : TypeId) (ad : Addr) (nm : String) (w : World) : (Builtin.ssaWrapNilChk_ #[xt] xt #[.pointer (some ad), strVal "", strVal nm]).run P w = .ok (.pointer (some ad)) w := rfl
theorem less_at (k hb ho : Nat) (a : Option Addr) (n c : Nat) (w : World) (h : w.cell? ⟨hb, ho, none⟩ = some (.slice a n c)) : (method (k + 1) 239 (.pointer (some ⟨hb, ho, none⟩)) "Less").run Tryz.prog w = .ok (245, .slice a n c) w := by
 have hl:=load_pile hb ho a n c w h
 have hf : (Tryz.t239.methods.find? (fun x => x.name == "Less")).map (fun m => (m.path, m.func)) = some (#[], some (245, false)) := by kernel_rfl
 obtain⟨m,hm,hp⟩:=Option.map_eq_some_iff.1 hf
 simp only[Prod.mk.injEq]at hp
 unfold method
 go_simp
 unfold follow receiverAt
 generalize ("Less".splitOn ".").getLast?.getD "Less" = nm
 have hc:=wrap_chk Tryz.prog 239 ⟨hb,ho,none⟩ nm w
 unfold Place.get
 go_simp
theorem swap_at (k hb ho : Nat) (a : Option Addr) (n c : Nat) (w : World) (h : w.cell? ⟨hb, ho, none⟩ = some (.slice a n c)) : (method (k + 1) 239 (.pointer (some ⟨hb, ho, none⟩)) "Swap").run Tryz.prog w = .ok (246, .slice a n c) w := by
 have hl:=load_pile hb ho a n c w h
 have hf : (Tryz.t239.methods.find? (fun x => x.name == "Swap")).map (fun m => (m.path, m.func)) = some (#[], some (246, false)) := by kernel_rfl
 obtain⟨m,hm,hp⟩:=Option.map_eq_some_iff.1 hf
 simp only[Prod.mk.injEq]at hp
 unfold method
 go_simp
 unfold follow receiverAt
 generalize ("Swap".splitOn ".").getLast?.getD "Swap" = nm
 have hc:=wrap_chk Tryz.prog 239 ⟨hb,ho,none⟩ nm w
 unfold Place.get
 go_simp
theorem len_at (k hb ho : Nat) (a : Option Addr) (n c : Nat) (w : World) (h : w.cell? ⟨hb, ho, none⟩ = some (.slice a n c)) : (method (k + 1) 239 (.pointer (some ⟨hb, ho, none⟩)) "Len").run Tryz.prog w = .ok (244, .slice a n c) w := by
 have hl:=load_pile hb ho a n c w h
 have hf : (Tryz.t239.methods.find? (fun x => x.name == "Len")).map (fun m => (m.path, m.func)) = some (#[], some (244, false)) := by kernel_rfl
 obtain⟨m,hm,hp⟩:=Option.map_eq_some_iff.1 hf
 simp only[Prod.mk.injEq]at hp
 unfold method
 go_simp
 unfold follow receiverAt
 generalize ("Len".splitOn ".").getLast?.getD "Len" = nm
 have hc:=wrap_chk Tryz.prog 239 ⟨hb,ho,none⟩ nm w
 unfold Place.get
 go_simp
theorem push_at (k hb ho : Nat) (w : World) : (method (k + 1) 239 (.pointer (some ⟨hb, ho, none⟩)) "Push").run Tryz.prog w = .ok (249, .pointer (some ⟨hb, ho, none⟩)) w := by kernel_rfl
theorem pop_at (k hb ho : Nat) (w : World) : (method (k + 1) 239 (.pointer (some ⟨hb, ho, none⟩)) "Pop").run Tryz.prog w = .ok (248, .pointer (some ⟨hb, ho, none⟩)) w := by kernel_rfl
theorem up_any(hb ho:Nat)(cs:Array Value)(ty:TypeId)(pb c n:Nat)(L:List Th)(j0:Nat)(w:World)(hbk:Blk w hb cs ty)(hcs:cs[ho]?=some (.slice (some ⟨pb,0,none⟩) n c))(hne:hb≠pb)(ht:TBuf w pb L c)(hl:L.length=n)(hj0:j0<n)(hlen:(n:Int)<1000000):
 Calls Tryz.prog 220 #[ifv hb ho,.int .i64 (j0:Int)] w fun e w'=>e=.returned (.tuple #[])∧∃L',SameT L' L∧TBuf w' pb L' c∧Keep (only pb) w w':=by
 have HB:Unit→Blk w hb cs ty∧cs[ho]?=some (.slice (some ⟨pb,0,none⟩) n c):=fun _=>⟨hbk,hcs⟩
 have HT:Unit→TBuf w pb L c∧L.length=n∧j0<n∧(n:Int)<1000000:=fun _=>⟨ht,hl,hj0,hlen⟩
 clear hbk hcs ht hl hj0 hlen
 go_enter Tryz.func220,Tryz.ntmps220
 go_wp2_with fail
 go_loopw [1] (fun v wr=>∃(j:Nat) (L':List Th),j<n∧v=.int .i64 (j:Int)∧SameT L' L∧TBuf wr pb L' c∧Keep (only pb) w wr) (fun v _=>(intOf v).toNat)
 case atStart=>exact⟨j0,L,(HT ()).2.2.1,rfl,SameT.refl L,(HT ()).1,Keep.refl _ _⟩
 case round=>
  obtain⟨j,L',hjn,rfl,hsm,hbuf,hkp⟩:=hrel
  have HR:Unit→SameT L' L∧TBuf wr pb L' c∧Keep (only pb) w wr:=fun _=>⟨hsm,hbuf,hkp⟩
  have hcell:=(((HB ()).1.keep hkp (fun e=>hne e)).cell ho).trans (HB ()).2
  have hjI:(j:Int)<(n:Int):=by omega
  clear hsm hbuf hkp
  by_cases hj:j=0
  ·subst hj
   go_wp2
   go_end0
   exact⟨rfl,L',(HR ()).1,(HR ()).2.1,(HR ()).2.2⟩
  ·obtain⟨i,hi⟩:∃i,i=(j - 1) / 2:=⟨_,rfl⟩
   have hij:i<j:=by omega
   have hq1:wrap64 ((j:Int) - 1)=((j - 1:Nat):Int):=by unfold wrap64;have:=HT ();omega
   have hq2:wrap64 (((j - 1:Nat):Int) / 2)=(i:Int):=by unfold wrap64;have:=HT ();omega
   have hq3:(((j - 1:Nat):Int)).tdiv 2=((j - 1:Nat):Int) / 2:=rfl
   have hn1:¬i=j:=by omega
   obtain⟨x,hx⟩:∃x,L'[j]?=some x:=⟨_,List.getElem?_eq_getElem (by have:=(HR ()).1.1;have:=(HT ()).2.1;omega)⟩
   obtain⟨y,hy⟩:∃y,L'[i]?=some y:=⟨_,List.getElem?_eq_getElem (by have:=(HR ()).1.1;have:=(HT ()).2.1;omega)⟩
   have hm:=fun k=>less_at k hb ho _ _ _ wr hcell
   have HXY:Unit→L'[j]?=some x∧L'[i]?=some y:=fun _=>⟨hx,hy⟩
   have hiI:(i:Int)<(n:Int):=by omega
   have hn2:((i:Int)==(j:Int))=false:=by simp;omega
   clear hx hy hi
   go_wp2_with fail
   refine(less_any pb n c L' j i x y (HXY ()).1 (HXY ()).2 wr (HR ()).2.1 hjI hiI).mono ?_
   rintro e w1 ⟨rfl,m,rfl⟩
   have kd:Keep nil wr (wr.drewN m):=(Keep.refl nil wr).drewN m
   have hcell1:(wr.drewN m).cell? ⟨hb,ho,none⟩=some (.slice (some ⟨pb,0,none⟩) n c):=(kd.cell hb ho (World.block_lt_of_cell? wr _ hcell) (fun e=>e)).trans hcell
   have hm1:=fun k=>swap_at k hb ho _ _ _ (wr.drewN m) hcell1
   have HKD:Unit→Keep nil wr (wr.drewN m):=fun _=>kd
   clear hm hcell kd
   by_cases hlt:x.w<y.w
   ·go_wp2_with fail
    refine(swap_any pb n c L' i j y x (HXY ()).2 (HXY ()).1 _ ((HR ()).2.1.keep (HKD ()) (fun e=>e)) hiI hjI hn1).mono ?_
    rintro e w2 ⟨rfl,hb2,hk2⟩
    have HP:Unit→SameT ((L'.set i x).set j y) L∧TBuf w2 pb ((L'.set i x).set j y) c∧Keep (only pb) w w2:=fun _=>⟨(sameT_swap (HXY ()).2 (HXY ()).1 hn1).trans (HR ()).1,hb2,((HR ()).2.2.trans ((HKD ()).mono (fun _ _ e=>e.elim))).trans hk2⟩
    clear hb2 hk2
    go_wp2
    go_roundw
    case rel=>exact⟨i,_,by omega,rfl,HP ()⟩
    case measure=>simp[intOf];omega
   ·have hlt2:decide (x.w<y.w)=false:=by simp only[decide_eq_false_iff_not];exact hlt
    have hlt3:y.w≤x.w:=by omega
    clear hlt
    go_wp2
    go_end0
    exact⟨rfl,L',(HR ()).1,(HR ()).2.1.keep (HKD ()) (fun e=>e),(HR ()).2.2.trans ((HKD ()).mono (fun _ _ e=>e.elim))⟩
theorem down_any(hb ho:Nat)(cs:Array Value)(ty:TypeId)(pb c N:Nat)(L:List Th)(n:Nat)(w:World)(hbk:Blk w hb cs ty)(hcs:cs[ho]?=some (.slice (some ⟨pb,0,none⟩) N c))(hne:hb≠pb)(ht:TBuf w pb L c)(hl:L.length=N)(hn:n≤N)(hlen:(N:Int)<1000000):
 Calls Tryz.prog 186 #[ifv hb ho,.int .i64 0,.int .i64 (n:Int)] w fun e w'=>(∃b,e=.returned (.bool b))∧∃L',SameT L' L∧TBuf w' pb L' c∧Keep (only pb) w w':=by
 have HB:Unit→Blk w hb cs ty∧cs[ho]?=some (.slice (some ⟨pb,0,none⟩) N c):=fun _=>⟨hbk,hcs⟩
 have HT:Unit→TBuf w pb L c∧L.length=N∧n≤N∧(N:Int)<1000000:=fun _=>⟨ht,hl,hn,hlen⟩
 clear hbk hcs ht hl hn hlen
 go_enter Tryz.func186,Tryz.ntmps186
 go_wp2_with fail
 go_loopw [7] (fun v wr=>∃(i:Nat) (L':List Th),(i<n∨i=0)∧v=.int .i64 (i:Int)∧SameT L' L∧TBuf wr pb L' c∧Keep (only pb) w wr) (fun v _=>n - (intOf v).toNat)
 case atStart=>exact⟨0,L,Or.inr rfl,rfl,SameT.refl L,(HT ()).1,Keep.refl _ _⟩
 case round=>
  obtain⟨i,L',hin,rfl,hsm,hbuf,hkp⟩:=hrel
  have HR:Unit→SameT L' L∧TBuf wr pb L' c∧Keep (only pb) w wr:=fun _=>⟨hsm,hbuf,hkp⟩
  have hcell:=(((HB ()).1.keep hkp (fun e=>hne e)).cell ho).trans (HB ()).2
  have hi6:(i:Int)<1000000:=by have:=HT ();omega
  have hw1:wrap64 (2 * (i:Int))=2 * (i:Int):=by unfold wrap64;omega
  have hw2:wrap64 (2 * (i:Int)+1)=2 * (i:Int)+1:=by unfold wrap64;omega
  have hw3:wrap64 (2 * (i:Int)+1+1)=2 * (i:Int)+1+1:=by unfold wrap64;omega
  have HI6:Unit→(i:Int)<1000000:=fun _=>hi6
  clear hsm hbuf hkp hi6
  by_cases hj1:2 * i+1<n
  ·have hj1I:2 * (i:Int)+1<(n:Int):=by omega
   have hj1b:(0:Int)≤2 * (i:Int)+1:=by omega
   have hd1:decide ((n:Int)≤2 * (i:Int)+1)=false:=by simp;omega
   have hd2:decide (2 * (i:Int)+1<0)=false:=by simp;omega
   have hLl:∀k,k<n→∃x,L'[k]?=some x:=fun k hk=>⟨_,List.getElem?_eq_getElem (by have:=(HR ()).1.1;have:=HT ();omega)⟩
   obtain⟨xi,hxi⟩:=hLl i (by omega)
   obtain⟨x1,hx1⟩:=hLl (2 * i+1) hj1
   have c1:((2 * i+1:Nat):Int)=2 * (i:Int)+1:=by omega
   have c2:((2 * i+1+1:Nat):Int)=2 * (i:Int)+1+1:=by omega
   have hm0:=fun k=>less_at k hb ho _ _ _ wr hcell
   by_cases hj2:2 * i+1+1<n
   ·have hj2I:2 * (i:Int)+1+1<(n:Int):=by omega
    obtain⟨x2,hx2⟩:=hLl (2 * i+1+1) hj2
    have HL:Unit→_:=fun _=>less_any pb N c L' (2 * i+1+1) (2 * i+1) x2 x1 hx2 hx1 wr (HR ()).2.1 (by have:=HT ();omega) (by have:=HT ();omega)
    have HX:Unit→L'[i]?=some xi∧L'[2 * i+1]?=some x1∧L'[2 * i+1+1]?=some x2:=fun _=>⟨hxi,hx1,hx2⟩
    clear hLl hxi hx1 hx2
    go_wp2_with fail
    rw[c1,c2]at HL
    refine(HL ()).mono ?_
    rintro e w3 ⟨rfl,m3,hw3'⟩
    have kd3:Keep nil wr w3:=by rw[hw3'];exact(Keep.refl nil wr).drewN m3
    clear hw3'
    have hcell3:w3.cell? ⟨hb,ho,none⟩=some (.slice (some ⟨pb,0,none⟩) N c):=(kd3.cell hb ho (World.block_lt_of_cell? wr _ hcell) (fun e=>e)).trans hcell
    have hm3:=fun k=>less_at k hb ho _ _ _ w3 hcell3
    have HKJ:Unit→Keep nil wr w3:=fun _=>kd3
    clear kd3 HL hm0
    by_cases hl3:x2.w<x1.w
    ·go_wp2_with fail
     rw[←c2]
     obtain⟨j,hj⟩:∃j,j=2 * i+1+1:=⟨_,rfl⟩
     obtain⟨xj,hxj⟩:∃xj,xj=x2:=⟨_,rfl⟩
     have HJ:Unit→L'[j]?=some xj∧L'[i]?=some xi∧(i<j∧j<n)∧(j:Int)<(N:Int)∧(i:Int)<(N:Int)∧i≠j:=fun _=>by
      rw[hj,hxj];exact⟨(HX ()).2.2,(HX ()).1,by omega,by have:=HT ();omega,by have:=HT ();omega,by omega⟩
     rw[←hj]
     clear hj hxj c1 c2
     refine(less_any pb N c L' j i xj xi (HJ ()).1 (HJ ()).2.1 w3 ((HR ()).2.1.keep (HKJ ()) (fun e=>e)) (HJ ()).2.2.2.1 (HJ ()).2.2.2.2.1).mono ?_
     rintro e w4 ⟨rfl,m4,hw4⟩
     have kd4:Keep nil wr w4:=by rw[hw4];exact(HKJ ()).trans ((Keep.refl nil w3).drewN m4)
     clear hw4
     have hcell4:w4.cell? ⟨hb,ho,none⟩=some (.slice (some ⟨pb,0,none⟩) N c):=(kd4.cell hb ho (World.block_lt_of_cell? wr _ hcell) (fun e=>e)).trans hcell
     have hm4:=fun k=>swap_at k hb ho _ _ _ w4 hcell4
     have HK4:Unit→Keep nil wr w4:=fun _=>kd4
     clear kd4
     by_cases hlt:xj.w<xi.w
     ·go_wp2_with fail
      refine(swap_any pb N c L' i j xi xj (HJ ()).2.1 (HJ ()).1 _ ((HR ()).2.1.keep (HK4 ()) (fun e=>e)) (HJ ()).2.2.2.2.1 (HJ ()).2.2.2.1 (HJ ()).2.2.2.2.2).mono ?_
      rintro e w5 ⟨rfl,hb5,hk5⟩
      have HP:Unit→SameT ((L'.set i xj).set j xi) L∧TBuf w5 pb ((L'.set i xj).set j xi) c∧Keep (only pb) w w5:=fun _=>⟨(sameT_swap (HJ ()).2.1 (HJ ()).1 (HJ ()).2.2.2.2.2).trans (HR ()).1,hb5,((HR ()).2.2.trans ((HK4 ()).mono (fun _ _ e=>e.elim))).trans hk5⟩
      clear hb5 hk5 hcell4 hm4
      go_wp2
      go_roundw
      case rel=>exact⟨j,_,Or.inl (HJ ()).2.2.1.2,rfl,HP ()⟩
      case measure=>simp[intOf];have:=(HJ ()).2.2.1;omega
     ·have hlt2:decide (xj.w<xi.w)=false:=by simp only[decide_eq_false_iff_not];exact hlt
      have hlt3:xi.w≤xj.w:=by omega
      clear hlt
      go_wp2
      go_ret
      exact⟨⟨_,rfl⟩,L',(HR ()).1,(HR ()).2.1.keep (HK4 ()) (fun e=>e),(HR ()).2.2.trans ((HK4 ()).mono (fun _ _ e=>e.elim))⟩
    ·have hl4:decide (x2.w<x1.w)=false:=by simp only[decide_eq_false_iff_not];exact hl3
     have hl5:x1.w≤x2.w:=by omega
     clear hl3
     go_wp2_with fail
     rw[←c1]
     obtain⟨j,hj⟩:∃j,j=2 * i+1:=⟨_,rfl⟩
     obtain⟨xj,hxj⟩:∃xj,xj=x1:=⟨_,rfl⟩
     have HJ:Unit→L'[j]?=some xj∧L'[i]?=some xi∧(i<j∧j<n)∧(j:Int)<(N:Int)∧(i:Int)<(N:Int)∧i≠j:=fun _=>by
      rw[hj,hxj];exact⟨(HX ()).2.1,(HX ()).1,by omega,by have:=HT ();omega,by have:=HT ();omega,by omega⟩
     rw[←hj]
     clear hj hxj c1 c2
     refine(less_any pb N c L' j i xj xi (HJ ()).1 (HJ ()).2.1 w3 ((HR ()).2.1.keep (HKJ ()) (fun e=>e)) (HJ ()).2.2.2.1 (HJ ()).2.2.2.2.1).mono ?_
     rintro e w4 ⟨rfl,m4,hw4⟩
     have kd4:Keep nil wr w4:=by rw[hw4];exact(HKJ ()).trans ((Keep.refl nil w3).drewN m4)
     clear hw4
     have hcell4:w4.cell? ⟨hb,ho,none⟩=some (.slice (some ⟨pb,0,none⟩) N c):=(kd4.cell hb ho (World.block_lt_of_cell? wr _ hcell) (fun e=>e)).trans hcell
     have hm4:=fun k=>swap_at k hb ho _ _ _ w4 hcell4
     have HK4:Unit→Keep nil wr w4:=fun _=>kd4
     clear kd4
     by_cases hlt:xj.w<xi.w
     ·go_wp2_with fail
      refine(swap_any pb N c L' i j xi xj (HJ ()).2.1 (HJ ()).1 _ ((HR ()).2.1.keep (HK4 ()) (fun e=>e)) (HJ ()).2.2.2.2.1 (HJ ()).2.2.2.1 (HJ ()).2.2.2.2.2).mono ?_
      rintro e w5 ⟨rfl,hb5,hk5⟩
      have HP:Unit→SameT ((L'.set i xj).set j xi) L∧TBuf w5 pb ((L'.set i xj).set j xi) c∧Keep (only pb) w w5:=fun _=>⟨(sameT_swap (HJ ()).2.1 (HJ ()).1 (HJ ()).2.2.2.2.2).trans (HR ()).1,hb5,((HR ()).2.2.trans ((HK4 ()).mono (fun _ _ e=>e.elim))).trans hk5⟩
      clear hb5 hk5 hcell4 hm4
      go_wp2
      go_roundw
      case rel=>exact⟨j,_,Or.inl (HJ ()).2.2.1.2,rfl,HP ()⟩
      case measure=>simp[intOf];have:=(HJ ()).2.2.1;omega
     ·have hlt2:decide (xj.w<xi.w)=false:=by simp only[decide_eq_false_iff_not];exact hlt
      have hlt3:xi.w≤xj.w:=by omega
      clear hlt
      go_wp2
      go_ret
      exact⟨⟨_,rfl⟩,L',(HR ()).1,(HR ()).2.1.keep (HK4 ()) (fun e=>e),(HR ()).2.2.trans ((HK4 ()).mono (fun _ _ e=>e.elim))⟩
   ·have hj2I:(n:Int)≤2 * (i:Int)+1+1:=by omega
    have hd3:decide (2 * (i:Int)+1+1<(n:Int))=false:=by simp;omega
    have HX:Unit→L'[i]?=some xi∧L'[2 * i+1]?=some x1:=fun _=>⟨hxi,hx1⟩
    have HKJ:Unit→Keep nil wr wr:=fun _=>Keep.refl nil wr
    clear hLl hxi hx1
    go_wp2_with fail
    rw[←c1]
    obtain⟨j,hj⟩:∃j,j=2 * i+1:=⟨_,rfl⟩
    obtain⟨xj,hxj⟩:∃xj,xj=x1:=⟨_,rfl⟩
    have HJ:Unit→L'[j]?=some xj∧L'[i]?=some xi∧(i<j∧j<n)∧(j:Int)<(N:Int)∧(i:Int)<(N:Int)∧i≠j:=fun _=>by
     rw[hj,hxj];exact⟨(HX ()).2,(HX ()).1,by omega,by have:=HT ();omega,by have:=HT ();omega,by omega⟩
    rw[←hj]
    have hwj:wrap64 (j:Int)=(j:Int):=by rw[hj,c1];exact hw2
    try simp only[hwj]
    clear hj hxj c1 c2 hm0
    refine(less_any pb N c L' j i xj xi (HJ ()).1 (HJ ()).2.1 wr ((HR ()).2.1.keep (HKJ ()) (fun e=>e)) (HJ ()).2.2.2.1 (HJ ()).2.2.2.2.1).mono ?_
    rintro e w4 ⟨rfl,m4,hw4⟩
    have kd4:Keep nil wr w4:=by rw[hw4];exact(HKJ ()).trans ((Keep.refl nil wr).drewN m4)
    clear hw4
    have hcell4:w4.cell? ⟨hb,ho,none⟩=some (.slice (some ⟨pb,0,none⟩) N c):=(kd4.cell hb ho (World.block_lt_of_cell? wr _ hcell) (fun e=>e)).trans hcell
    have hm4:=fun k=>swap_at k hb ho _ _ _ w4 hcell4
    have HK4:Unit→Keep nil wr w4:=fun _=>kd4
    clear kd4
    by_cases hlt:xj.w<xi.w
    ·go_wp2_with fail
     refine(swap_any pb N c L' i j xi xj (HJ ()).2.1 (HJ ()).1 _ ((HR ()).2.1.keep (HK4 ()) (fun e=>e)) (HJ ()).2.2.2.2.1 (HJ ()).2.2.2.1 (HJ ()).2.2.2.2.2).mono ?_
     rintro e w5 ⟨rfl,hb5,hk5⟩
     have HP:Unit→SameT ((L'.set i xj).set j xi) L∧TBuf w5 pb ((L'.set i xj).set j xi) c∧Keep (only pb) w w5:=fun _=>⟨(sameT_swap (HJ ()).2.1 (HJ ()).1 (HJ ()).2.2.2.2.2).trans (HR ()).1,hb5,((HR ()).2.2.trans ((HK4 ()).mono (fun _ _ e=>e.elim))).trans hk5⟩
     clear hb5 hk5 hcell4 hm4
     go_wp2
     go_roundw
     case rel=>exact⟨j,_,Or.inl (HJ ()).2.2.1.2,rfl,HP ()⟩
     case measure=>simp[intOf];have:=(HJ ()).2.2.1;omega
    ·have hlt2:decide (xj.w<xi.w)=false:=by simp only[decide_eq_false_iff_not];exact hlt
     have hlt3:xi.w≤xj.w:=by omega
     clear hlt
     go_wp2
     go_ret
     exact⟨⟨_,rfl⟩,L',(HR ()).1,(HR ()).2.1.keep (HK4 ()) (fun e=>e),(HR ()).2.2.trans ((HK4 ()).mono (fun _ _ e=>e.elim))⟩
  ·have hj1I:(n:Int)≤2 * (i:Int)+1:=by omega
   go_wp2
   go_ret
   exact⟨⟨_,rfl⟩,L',(HR ()).1,(HR ()).2.1,(HR ()).2.2⟩
@[go_sem] theorem field_what (v0 v1 v2 v3:Value) (w:World):(Instr.field 237 (.agg #[v0,v1,v2,v3]) 0).run Tryz.prog w=.ok (.agg #[v0,v1,v2]) w:=by kernel_rfl
structure HeapAt(w:World)(hb ho:Nat)(cs:Array Value)(ty:TypeId)(a:Option Addr)(n c:Nat)(L:List Th):Prop where
 blk:Blk w hb cs ty
 at_:cs[ho]?=some (.slice a n c)
 len:L.length=n
 cap:n≤c
 row:(a=none∧n=0∧c=0)∨∃pb,a=some ⟨pb,0,none⟩∧hb≠pb∧TBuf w pb L c
def HeapTo(w w':World)(hb ho:Nat)(cs:Array Value)(ty:TypeId)(a:Option Addr)(P:List Th→Prop):Prop:=
 ∃a' n' c' L',HeapAt w' hb ho (cs.setIfInBounds ho (.slice a' n' c')) ty a' n' c' L'∧P L'∧(∀b,a'=some ⟨b,0,none⟩→a=some ⟨b,0,none⟩∨w.heap.size≤b)∧Keep (fun b=>b=hb∨a=some ⟨b,0,none⟩) w w'
theorem set_get{cs:Array Value}{ho:Nat}{u v:Value}(h:cs[ho]?=some u):(cs.setIfInBounds ho v)[ho]?=some v:=by
 have hl:=(Array.getElem?_eq_some_iff.1 h).1
 simp[Array.getElem?_setIfInBounds,hl]
theorem hpush_any(hb ho:Nat)(cs:Array Value)(ty:TypeId)(a:Option Addr)(n c:Nat)(L:List Th)(t:Th)(w:World)(h:HeapAt w hb ho cs ty a n c L)(hn:(n:Int)<100000):
 Calls Tryz.prog 185 #[ifv hb ho,thv t] w fun e w'=>e=.returned (.tuple #[])∧HeapTo w w' hb ho cs ty a (fun L'=>SameT L' (L++[t])):=by
 have HPU:Unit→Calls Tryz.prog 249 #[.pointer (some ⟨hb,ho,none⟩),thv t] w fun e w'=>e=.returned (.tuple #[])∧∃pb' c',Blk w' hb (cs.setIfInBounds ho (.slice (some ⟨pb',0,none⟩) (n+1) c')) ty∧
  TBuf w' pb' (L++[t]) c'∧n+1≤c'∧(a=some ⟨pb',0,none⟩∨w.heap.size≤pb')∧pb'≠hb∧Keep (fun b=>b=hb∨a=some ⟨b,0,none⟩) w w':=fun _=>by
  rcases h.row with⟨rfl,rfl,rfl⟩|⟨pb,rfl,hne,ht⟩
  ·have hL:L=[]:=List.eq_nil_of_length_eq_zero h.len
   subst hL
   refine(push_nil hb ho cs ty t w h.blk h.at_).mono ?_
   rintro e w' ⟨he,pb',c',h1,h2,h3,h4,h5,h6⟩
   exact⟨he,pb',c',h1,h2,h3,Or.inr h4,h5,h6.mono (fun _ _ e=>Or.inl e)⟩
  ·have hl:=h.len
   subst hl
   refine(push_some hb ho cs ty pb c L t w h.blk h.at_ hne ht (by omega)).mono ?_
   rintro e w' ⟨he,pb',c',h1,h2,h3,h4,h5,h6⟩
   refine⟨he,pb',c',h1,h2,h3,h4.imp (fun e=>by rw[e]) id,h5,h6.mono (fun _ _ e=>e.imp id (fun e=>by rw[e]))⟩
 have HH:Unit→HeapAt w hb ho cs ty a n c L∧(n:Int)<100000:=fun _=>⟨h,hn⟩
 have hmp:=fun k=>push_at k hb ho w
 clear h hn
 go_enter Tryz.func185,Tryz.ntmps185
 go_wp2_with fail
 refine(HPU ()).mono ?_
 rintro e w1 ⟨rfl,pb',c',h1,h2,h3,h4,h5,h6⟩
 have HP:Unit→Blk w1 hb (cs.setIfInBounds ho (.slice (some ⟨pb',0,none⟩) (n+1) c')) ty∧TBuf w1 pb' (L++[t]) c'∧n+1≤c'∧(a=some ⟨pb',0,none⟩∨w.heap.size≤pb')∧pb'≠hb∧Keep (fun b=>b=hb∨a=some ⟨b,0,none⟩) w w1:=fun _=>⟨h1,h2,h3,h4,h5,h6⟩
 have hcell:=(h1.cell ho).trans (set_get (HH ()).1.at_)
 have hml:=fun k=>len_at k hb ho _ _ _ w1 hcell
 have hw1:wrap64 ((n:Int)+1 - 1)=(n:Int):=by unfold wrap64;have:=(HH ()).2;omega
 have hw2:wrap64 (n:Int)=(n:Int):=by unfold wrap64;have:=(HH ()).2;omega
 clear h1 h2 h3 h4 h5 h6 hmp
 go_wp2_with fail
 refine(len_any (some ⟨pb',0,none⟩) (n+1) c' w1).mono ?_
 rintro e w2 ⟨rfl,rfl⟩
 have HU:Unit→_:=fun _=>up_any hb ho _ ty pb' c' (n+1) (L++[t]) n w1 (HP ()).1 (set_get (HH ()).1.at_) (Ne.symm (HP ()).2.2.2.2.1) (HP ()).2.1 (by rw[List.length_append,(HH ()).1.len];rfl) (by omega) (by have:=(HH ()).2;omega)
 go_wp2_with fail
 refine(HU ()).mono ?_
 rintro e w3 ⟨rfl,L',hs,hb3,hk3⟩
 have HE:Unit→HeapTo w w3 hb ho cs ty a (fun L'=>SameT L' (L++[t])):=fun _=>by
  obtain⟨h1,h2,h3,h4,h5,h6⟩:=HP ()
  have hl3:L'.length=n+1:=by rw[hs.1,List.length_append,(HH ()).1.len];rfl
  refine⟨some ⟨pb',0,none⟩,n+1,c',L',⟨h1.keep hk3 (fun e=>h5 e.symm),set_get (HH ()).1.at_,hl3,h3,Or.inr ⟨pb',rfl,Ne.symm h5,hb3⟩⟩,hs,fun b e=>?_,h6.trans' hk3 (fun i hi e=>?_)⟩
  ·cases e;exact h4
  ·simp only[only]at e
   subst e
   rcases h4 with h4|h4
   ·exact Or.inr h4
   ·omega
 clear hs hb3 hk3
 go_wp2
 go_end0
 exact⟨rfl,HE ()⟩
def Took(L:List Th)(t:Th)(n:Nat)(L':List Th):Prop:=L'.length=n∧(∀x,x∈L→x=t∨x∈L')∧(∀x,x∈L'→x∈L)∧t∈L
theorem hpop_any(hb ho:Nat)(cs:Array Value)(ty:TypeId)(a:Option Addr)(n c:Nat)(L:List Th)(w:World)(h:HeapAt w hb ho cs ty a (n+1) c L)(hn:(n:Int)<100000):
 Calls Tryz.prog 148 #[ifv hb ho] w fun e w'=>∃t,e=.returned (thv t)∧HeapTo w w' hb ho cs ty a (fun L'=>Took L t n L'):=by
 obtain⟨pb,rfl,hne,ht⟩:∃pb,a=some ⟨pb,0,none⟩∧hb≠pb∧TBuf w pb L c:=by
  rcases h.row with⟨_,h0,_⟩|h
  ·omega
  ·exact h
 have HH:Unit→HeapAt w hb ho cs ty (some ⟨pb,0,none⟩) (n+1) c L∧TBuf w pb L c∧(n:Int)<100000:=fun _=>⟨h,ht,hn⟩
 have hcell:=(h.blk.cell ho).trans h.at_
 have hml:=fun k=>len_at k hb ho _ _ _ w hcell
 have hms:=fun k=>swap_at k hb ho _ _ _ w hcell
 have hw1:wrap64 ((n:Int)+1 - 1)=(n:Int):=by unfold wrap64;omega
 have hw2:wrap64 (n:Int)=(n:Int):=by unfold wrap64;omega
 have HSW:Unit→Calls Tryz.prog 246 #[.slice (some ⟨pb,0,none⟩) (n+1) c,.int .i64 0,.int .i64 (n:Int)] w fun e w'=>e=.returned (.tuple #[])∧∃L1,SameT L1 L∧TBuf w' pb L1 c∧Keep (only pb) w w':=fun _=>by
  have hL:=h.len
  obtain⟨x,hx⟩:∃x,L[0]?=some x:=⟨_,List.getElem?_eq_getElem (by omega)⟩
  obtain⟨y,hy⟩:∃y,L[n]?=some y:=⟨_,List.getElem?_eq_getElem (by omega)⟩
  by_cases h0:n=0
  ·subst h0
   refine(swap_same pb (0+1) c L 0 x hx w ht (by omega)).mono ?_
   rintro e w' ⟨he,h1,h2⟩
   exact⟨he,L,SameT.refl L,h1,h2⟩
  ·refine(swap_any pb (n+1) c L 0 n x y hx hy w ht (by omega) (by omega) (by omega)).mono ?_
   rintro e w' ⟨he,h1,h2⟩
   exact⟨he,_,sameT_swap hx hy (by omega),h1,h2⟩
 clear h ht hn
 go_enter Tryz.func148,Tryz.ntmps148
 go_wp2_with fail
 refine(len_any (some ⟨pb,0,none⟩) (n+1) c w).mono ?_
 rintro e w0 ⟨rfl,rfl⟩
 go_wp2_with fail
 refine(HSW ()).mono ?_
 rintro e w1 ⟨rfl,L1,hs1,hb1,hk1⟩
 have HD:Unit→_:=fun _=>down_any hb ho cs ty pb c (n+1) L1 n w1 ((HH ()).1.blk.keep hk1 (fun e=>hne e)) (HH ()).1.at_ hne hb1 (hs1.1.trans (HH ()).1.len) (by omega) (by have:=(HH ()).2.2;omega)
 have H1:Unit→SameT L1 L∧Keep (only pb) w w1:=fun _=>⟨hs1,hk1⟩
 clear hs1 hb1 hk1 hml hms hcell HSW
 go_wp2_with fail
 refine(HD ()).mono ?_
 rintro e w2 ⟨⟨b,rfl⟩,L2,hs2,hb2,hk2⟩
 have hsm:SameT L2 L:=hs2.trans (H1 ()).1
 have hkk:Keep (only pb) w w2:=(H1 ()).2.trans hk2
 have hblk:=(HH ()).1.blk.keep hkk (fun e=>hne e)
 have hL2:L2.length=n+1:=hsm.1.trans (HH ()).1.len
 obtain⟨t,hlast⟩:∃t,L2[n]?=some t:=⟨_,List.getElem?_eq_getElem (by omega)⟩
 have HPO:Unit→_:=fun _=>pop_any hb ho cs ty pb c n L2 t w2 hblk (HH ()).1.at_ hne hb2 hL2 (HH ()).1.cap hlast (by have:=(HH ()).2.2;omega)
 have H2:Unit→SameT L2 L∧Keep (only pb) w w2∧L2[n]?=some t∧L2.length=n+1:=fun _=>⟨hsm,hkk,hlast,hL2⟩
 have hmq:=fun k=>pop_at k hb ho w2
 clear hs2 hb2 hk2 hsm hkk hblk hL2 hlast HD
 go_wp2_with fail
 refine(HPO ()).mono ?_
 rintro e w3 ⟨rfl,e1,e2,e3⟩
 have HE:Unit→HeapTo w w3 hb ho cs ty (some ⟨pb,0,none⟩) (fun L'=>Took L t n L'):=fun _=>by
  obtain⟨h1,h2,h3,h4⟩:=H2 ()
  refine⟨some ⟨pb,0,none⟩,n,c,L2.take n,⟨e1,set_get (HH ()).1.at_,by rw[List.length_take];omega,by have:=(HH ()).1.cap;omega,Or.inr ⟨pb,rfl,hne,e2⟩⟩,⟨by rw[List.length_take];omega,fun x hx=>?_,fun x hx=>(h1.2 x).1 (List.mem_of_mem_take hx),(h1.2 t).1 (List.mem_of_getElem? h3)⟩,fun b e=>Or.inl e,(h2.mono (fun _ _ e=>Or.inr (by rw[e]))).trans (e3.mono (fun _ _ e=>Or.inl e))⟩
  obtain⟨k,hk⟩:=List.getElem?_of_mem ((h1.2 x).2 hx)
  have hkl:=(List.getElem?_eq_some_iff.1 hk).1
  by_cases hkn:k=n
  ·subst hkn
   rw[h3]at hk
   cases hk
   exact Or.inl rfl
  ·exact Or.inr (List.mem_of_getElem? (i:=k) (by rw[List.getElem?_take_of_lt (by omega)];exact hk))
 clear e1 e2 e3 HPO
 go_wp2
 go_ret
 exact⟨t,rfl,HE ()⟩
theorem add_any(hb ho:Nat)(cs:Array Value)(ty:TypeId)(a:Option Addr)(n c:Nat)(L:List Th)(e:Ed)(wt:Int)(w:World)(h:HeapAt w hb ho cs ty a n c L)(hn:(n:Int)<100000):
 Calls Tryz.prog 147 #[.pointer (some ⟨hb,ho,none⟩),.agg #[.int .i64 e.a,.int .i64 e.b,.int .i64 e.wt],.int .i64 wt] w fun r w'=>r=.returned (.tuple #[])∧HeapTo w w' hb ho cs ty a (fun L'=>SameT L' (L++[⟨e,wt⟩])):=by
 have HH:Unit→∀w1,Keep nil w w1→HeapAt w1 hb ho cs ty a n c L:=fun _ w1 k=>⟨h.blk.keep k (fun e=>e),h.at_,h.len,h.cap,h.row.imp id (fun⟨pb,h1,h2,h3⟩=>⟨pb,h1,h2,h3.keep k (fun e=>e)⟩)⟩
 have HN:Unit→(n:Int)<100000:=fun _=>hn
 clear h hn
 go_enter Tryz.func147,Tryz.ntmps147
 go_wp2_with fail
 obtain⟨W1,hW1⟩:∃W1,W1=w.alloc (.cells #[.int .i64 e.a,.int .i64 e.b,.int .i64 e.wt] 30):=⟨_,rfl⟩
 have hbx:Blk W1 w.heap.size #[.int .i64 e.a,.int .i64 e.b,.int .i64 e.wt] 30:=by rw[hW1];exact Blk.new _ _ _
 have hk1:Keep nil w W1:=by rw[hW1];exact(Keep.refl nil w).alloc _
 rw[←hW1]
 obtain⟨xb,hxb⟩:∃xb,xb=w.heap.size:=⟨_,rfl⟩
 rw[←hxb]at hbx⊢
 have z0:=hbx.cell 0
 have z1:=hbx.cell 1
 have z2:=hbx.cell 2
 simp at z0 z1 z2
 have HK:Unit→Keep nil w W1:=fun _=>hk1
 clear hW1 hbx hk1 hxb
 have HPH:Unit→_:=fun _=>hpush_any hb ho cs ty a n c L ⟨e,wt⟩ W1.drew (HH () W1.drew (HK ()).drew) (HN ())
 go_still_tail 8,(by kernel_rfl)
 go_wp2_with fail
 refine(HPH ()).mono ?_
 rintro r w2 ⟨rfl,h2⟩
 have HE:Unit→HeapTo w w2 hb ho cs ty a (fun L'=>SameT L' (L++[⟨e,wt⟩])):=fun _=>by
  obtain⟨a',n',c',L',g1,g2,g3,g4⟩:=h2
  exact⟨a',n',c',L',g1,g2,fun b hb=>(g3 b hb).imp id (fun h=>Nat.le_trans (HK ()).size h),((HK ()).drew.mono (fun _ _ e=>e.elim)).trans g4⟩
 clear h2 HPH
 go_wp2
 go_end0
 exact⟨rfl,HE ()⟩
theorem take_none(hb ho:Nat)(a:Option Addr)(c:Nat)(w:World)(h:w.cell? ⟨hb,ho,none⟩=some (.slice a 0 c)):
 Calls Tryz.prog 103 #[.pointer (some ⟨hb,ho,none⟩)] w fun r w'=>r=.returned (.tuple #[.agg #[.int .i64 0,.int .i64 0,.int .i64 0],.bool false])∧Keep nil w w':=by
 have hl:=World.block_lt_of_cell? w _ h
 simp only at hl
 go_enter Tryz.func103,Tryz.ntmps103
 go_wp2
 refine bodyPost_ret (v:=.tuple #[.agg #[.int .i64 0,.int .i64 0,.int .i64 0],.bool false]) ?_ rfl ?_
 ·rw[results_cell_tmp rfl]
  unfold loadVar
  go_simp
 ·exact⟨rfl,(Keep.refl nil w).alloc _⟩
theorem take_some(hb ho:Nat)(cs:Array Value)(ty:TypeId)(a:Option Addr)(n c:Nat)(L:List Th)(w:World)(h:HeapAt w hb ho cs ty a (n+1) c L)(hn:(n:Int)<100000):
 Calls Tryz.prog 103 #[.pointer (some ⟨hb,ho,none⟩)] w fun r w'=>∃t:Th,r=.returned (.tuple #[.agg #[.int .i64 t.e.a,.int .i64 t.e.b,.int .i64 t.e.wt],.bool true])∧HeapTo w w' hb ho cs ty a (fun L'=>Took L t n L'):=by
 have HH:Unit→∀w1,Keep nil w w1→HeapAt w1 hb ho cs ty a (n+1) c L:=fun _ w1 k=>⟨h.blk.keep k (fun e=>e),h.at_,h.len,h.cap,h.row.imp id (fun⟨pb,h1,h2,h3⟩=>⟨pb,h1,h2,h3.keep k (fun e=>e)⟩)⟩
 have HN:Unit→(n:Int)<100000:=fun _=>hn
 have hcell:=(h.blk.cell ho).trans h.at_
 have hhl:=h.blk.lt
 have hpl:∀pb,a=some ⟨pb,0,none⟩→pb<w.heap.size:=fun pb e=>by
  rcases h.row with⟨e',_⟩|⟨pb',e',_,ht⟩
  ·rw[e']at e;cases e
  ·rw[e']at e;cases e;exact ht.lt
 have HPL:Unit→∀pb,a=some ⟨pb,0,none⟩→pb<w.heap.size:=fun _=>hpl
 have hne0:¬((n:Int)+1=0):=by omega
 clear h hn hpl
 go_enter Tryz.func103,Tryz.ntmps103
 go_wp2_with fail
 obtain⟨W1,hW1⟩:∃W1,W1=w.alloc (.cells #[.int .i64 0,.int .i64 0,.int .i64 0] 30):=⟨_,rfl⟩
 have hbx:Blk W1 w.heap.size #[.int .i64 0,.int .i64 0,.int .i64 0] 30:=by rw[hW1];exact Blk.new _ _ _
 have hk1:Keep nil w W1:=by rw[hW1];exact(Keep.refl nil w).alloc _
 rw[←hW1]
 obtain⟨xb,hxb⟩:∃xb,xb=w.heap.size:=⟨_,rfl⟩
 rw[←hxb]at hbx⊢
 have HX:Unit→Blk W1 xb #[.int .i64 0,.int .i64 0,.int .i64 0] 30∧Keep nil w W1∧xb=w.heap.size:=fun _=>⟨hbx,hk1,hxb⟩
 clear hW1 hbx hk1 hxb
 refine(hpop_any hb ho cs ty a n c L W1 (HH () W1 (HX ()).2.1) (HN ())).mono ?_
 rintro r w2 ⟨t,rfl,h2⟩
 have hbx2:Blk w2 xb #[.int .i64 0,.int .i64 0,.int .i64 0] 30:=by
  obtain⟨_,_,_,_,_,_,_,g4⟩:=h2
  exact(HX ()).1.keep g4 (fun e=>by
   have hx:=(HX ()).2.2
   rcases e with e|e
   ·omega
   ·have:=HPL () xb e;omega)
 have z0:=hbx2.cell 0
 have z1:=hbx2.cell 1
 have z2:=hbx2.cell 2
 have f0:=hbx2.frozen 0
 have f1:=hbx2.frozen 1
 have f2:=hbx2.frozen 2
 simp at z0 z1 z2
 have HE:Unit→HeapTo W1 w2 hb ho cs ty a (fun L'=>Took L t n L')∧Blk w2 xb #[.int .i64 0,.int .i64 0,.int .i64 0] 30:=fun _=>⟨h2,hbx2⟩
 clear h2 hbx2
 go_wp2
 refine bodyPost_ret (v:=.tuple #[.agg #[.int .i64 t.e.a,.int .i64 t.e.b,.int .i64 t.e.wt],.bool true]) ?_ rfl ?_
 ·rw[results_cell_tmp rfl]
  unfold loadVar
  go_simp
 ·refine⟨t,rfl,?_⟩
  obtain⟨⟨a',n',c',L',g1,g2,g3,g4⟩,hbx⟩:=HE ()
  have hx:=(HX ()).2.2
  have hs:=(HX ()).2.1.size
  have kx:Keep (only xb) w2 (((w2.setCell ⟨xb,0,none⟩ (.int .i64 t.e.a)).setCell ⟨xb,1,none⟩ (.int .i64 t.e.b)).setCell ⟨xb,2,none⟩ (.int .i64 t.e.wt)):=(((Keep.refl (only xb) w2).setCell (p:=⟨xb,0,none⟩) (fun _=>rfl) _).setCell (p:=⟨xb,1,none⟩) (fun _=>rfl) _).setCell (p:=⟨xb,2,none⟩) (fun _=>rfl) _
  have hw12:=(HX ()).1.lt
  refine⟨a',n',c',L',⟨g1.blk.keep kx (fun e=>by simp only[only]at e;omega),g1.at_,g1.len,g1.cap,g1.row.imp id (fun⟨pb,h1,h2,h3⟩=>⟨pb,h1,h2,h3.keep kx (fun e=>by
   simp only[only]at e
   rcases g3 pb h1 with h|h
   ·have:=HPL () pb h;omega
   ·omega)⟩)⟩,g2,fun b hb=>(g3 b hb).imp id (fun h=>by omega),?_⟩
  ·exact(((HX ()).2.1.mono (fun _ _ e=>e.elim)).trans g4).trans' kx (fun i hi e=>by simp only[only]at e;omega)
end Go.Proofs.YtlfijfodklhplaaGreat
namespace Go.Proofs.YtlfijfodklhplaaGreat.HI
open Go.RowKit
@[go_sem] theorem field_what (v0 v1:Value) (w:World):(Instr.field 304 (.agg #[v0,v1]) 0).run Tryz.prog w=.ok v0 w:=by kernel_rfl
structure HeapAt(w:World)(hb ho:Nat)(cs:Array Value)(ty:TypeId)(a:Option Addr)(n c:Nat)(L:List Th):Prop where
 blk:Blk w hb cs ty
 at_:cs[ho]?=some (.slice a n c)
 len:L.length=n
 cap:n≤c
 row:(a=none∧n=0∧c=0)∨∃pb,a=some ⟨pb,0,none⟩∧hb≠pb∧TBuf w pb L c
def HeapTo(w w':World)(hb ho:Nat)(cs:Array Value)(ty:TypeId)(a:Option Addr)(P:List Th→Prop):Prop:=
 ∃a' n' c' L',HeapAt w' hb ho (cs.setIfInBounds ho (.slice a' n' c')) ty a' n' c' L'∧P L'∧(∀b,a'=some ⟨b,0,none⟩→a=some ⟨b,0,none⟩∨w.heap.size≤b)∧Keep (fun b=>b=hb∨a=some ⟨b,0,none⟩) w w'
theorem hpush_any(hb ho:Nat)(cs:Array Value)(ty:TypeId)(a:Option Addr)(n c:Nat)(L:List Th)(t:Th)(w:World)(h:HeapAt w hb ho cs ty a n c L)(hn:(n:Int)<100000)(hrise:∀x∈L,x.w≤t.w):
 Calls Tryz.prog 185 #[ifv hb ho,thv t] w fun e w'=>e=.returned (.tuple #[])∧HeapTo w w' hb ho cs ty a (fun L'=>L'=L++[t]):=by
 have HPU:Unit→Calls Tryz.prog 254 #[.pointer (some ⟨hb,ho,none⟩),thv t] w fun e w'=>e=.returned (.tuple #[])∧∃pb' c',Blk w' hb (cs.setIfInBounds ho (.slice (some ⟨pb',0,none⟩) (n+1) c')) ty∧
  TBuf w' pb' (L++[t]) c'∧n+1≤c'∧(a=some ⟨pb',0,none⟩∨w.heap.size≤pb')∧pb'≠hb∧Keep (fun b=>b=hb∨a=some ⟨b,0,none⟩) w w':=fun _=>by
  rcases h.row with⟨rfl,rfl,rfl⟩|⟨pb,rfl,hne,ht⟩
  ·have hL:L=[]:=List.eq_nil_of_length_eq_zero h.len
   subst hL
   refine(push_nil hb ho cs ty t w h.blk h.at_).mono ?_
   rintro e w' ⟨he,pb',c',h1,h2,h3,h4,h5,h6⟩
   exact⟨he,pb',c',h1,h2,h3,Or.inr h4,h5,h6.mono (fun _ _ e=>Or.inl e)⟩
  ·have hl:=h.len
   subst hl
   refine(push_some hb ho cs ty pb c L t w h.blk h.at_ hne ht (by omega)).mono ?_
   rintro e w' ⟨he,pb',c',h1,h2,h3,h4,h5,h6⟩
   refine⟨he,pb',c',h1,h2,h3,h4.imp (fun e=>by rw[e]) id,h5,h6.mono (fun _ _ e=>e.imp id (fun e=>by rw[e]))⟩
 have HH:Unit→HeapAt w hb ho cs ty a n c L∧(n:Int)<100000:=fun _=>⟨h,hn⟩
 have HRS:Unit→∀x∈L,x.w≤t.w:=fun _=>hrise
 have hmp:=fun k=>push_at k hb ho w
 clear h hn hrise
 go_enter Tryz.func185,Tryz.ntmps185
 go_wp2_with fail
 refine(HPU ()).mono ?_
 rintro e w1 ⟨rfl,pb',c',h1,h2,h3,h4,h5,h6⟩
 have HP:Unit→Blk w1 hb (cs.setIfInBounds ho (.slice (some ⟨pb',0,none⟩) (n+1) c')) ty∧TBuf w1 pb' (L++[t]) c'∧n+1≤c'∧(a=some ⟨pb',0,none⟩∨w.heap.size≤pb')∧pb'≠hb∧Keep (fun b=>b=hb∨a=some ⟨b,0,none⟩) w w1:=fun _=>⟨h1,h2,h3,h4,h5,h6⟩
 have hcell:=(h1.cell ho).trans (set_get (HH ()).1.at_)
 have hml:=fun k=>len_at k hb ho _ _ _ w1 hcell
 have hw1:wrap64 ((n:Int)+1 - 1)=(n:Int):=by unfold wrap64;have:=(HH ()).2;omega
 have hw2:wrap64 (n:Int)=(n:Int):=by unfold wrap64;have:=(HH ()).2;omega
 clear h1 h2 h3 h4 h5 h6 hmp
 go_wp2_with fail
 refine(len_any (some ⟨pb',0,none⟩) (n+1) c' w1).mono ?_
 rintro e w2 ⟨rfl,rfl⟩
 have HU:Unit→_:=fun _=>up_stay hb ho _ ty pb' c' (n+1) (L++[t]) n w1 (HP ()).1 (set_get (HH ()).1.at_) (Ne.symm (HP ()).2.2.2.2.1) (HP ()).2.1 (by rw[List.length_append,(HH ()).1.len];rfl) (by omega) (by have:=(HH ()).2;omega) (fun x y hx hy=>by
  have hLn:=(HH ()).1.len
  rw[List.getElem?_append_right (by omega),hLn]at hx
  simp at hx
  subst hx
  by_cases h0:(n - 1) / 2<L.length
  ·rw[List.getElem?_append_left h0]at hy
   exact HRS () y (List.mem_of_getElem? hy)
  ·rw[List.getElem?_append_right (by omega)]at hy
   have:=List.mem_of_getElem? hy
   simp at this
   rw[this]
   exact Int.le_refl _)
 go_wp2_with fail
 refine(HU ()).mono ?_
 rintro e w3 ⟨rfl,hk3⟩
 have HE:Unit→HeapTo w w3 hb ho cs ty a (fun L'=>L'=L++[t]):=fun _=>by
  obtain⟨h1,h2,h3,h4,h5,h6⟩:=HP ()
  refine⟨some ⟨pb',0,none⟩,n+1,c',L++[t],⟨h1.keep hk3 (fun e=>e),set_get (HH ()).1.at_,by rw[List.length_append,(HH ()).1.len];rfl,h3,Or.inr ⟨pb',rfl,Ne.symm h5,h2.keep hk3 (fun e=>e)⟩⟩,rfl,fun b e=>?_,h6.trans' hk3 (fun i hi e=>e.elim)⟩
  cases e;exact h4
 clear hk3
 go_wp2
 go_end0
 exact⟨rfl,HE ()⟩
theorem hpop_any(hb ho:Nat)(cs:Array Value)(ty:TypeId)(a:Option Addr)(n c:Nat)(L:List Th)(w:World)(h:HeapAt w hb ho cs ty a (n+1) c L)(hn:(n:Int)<100000)(t:Th)(h0t:L[0]?=some t):
 Calls Tryz.prog 148 #[ifv hb ho] w fun e w'=>e=.returned (thv t)∧HeapTo w w' hb ho cs ty a (fun L'=>True):=by
 obtain⟨pb,rfl,hne,ht⟩:∃pb,a=some ⟨pb,0,none⟩∧hb≠pb∧TBuf w pb L c:=by
  rcases h.row with⟨_,h0,_⟩|h
  ·omega
  ·exact h
 have HH:Unit→HeapAt w hb ho cs ty (some ⟨pb,0,none⟩) (n+1) c L∧TBuf w pb L c∧(n:Int)<100000:=fun _=>⟨h,ht,hn⟩
 have hcell:=(h.blk.cell ho).trans h.at_
 have hml:=fun k=>len_at k hb ho _ _ _ w hcell
 have hms:=fun k=>swap_at k hb ho _ _ _ w hcell
 have hw1:wrap64 ((n:Int)+1 - 1)=(n:Int):=by unfold wrap64;omega
 have hw2:wrap64 (n:Int)=(n:Int):=by unfold wrap64;omega
 have HSW:Unit→Calls Tryz.prog 252 #[.slice (some ⟨pb,0,none⟩) (n+1) c,.int .i64 0,.int .i64 (n:Int)] w fun e w'=>e=.returned (.tuple #[])∧∃L1,SameT L1 L∧L1[n]?=some t∧TBuf w' pb L1 c∧Keep (only pb) w w':=fun _=>by
  have hL:=h.len
  obtain⟨x,hx,hxt⟩:∃x,L[0]?=some x∧x=t:=⟨t,h0t,rfl⟩
  obtain⟨y,hy⟩:∃y,L[n]?=some y:=⟨_,List.getElem?_eq_getElem (by omega)⟩
  by_cases h0:n=0
  ·subst h0
   refine(swap_same pb (0+1) c L 0 x hx w ht (by omega)).mono ?_
   rintro e w' ⟨he,h1,h2⟩
   exact⟨he,L,SameT.refl L,h0t,h1,h2⟩
  ·refine(swap_any pb (n+1) c L 0 n x y hx hy w ht (by omega) (by omega) (by omega)).mono ?_
   rintro e w' ⟨he,h1,h2⟩
   exact⟨he,_,sameT_swap hx hy (by omega),by rw[List.getElem?_set_self (by rw[List.length_set];omega),hxt],h1,h2⟩
 clear h ht hn h0t
 go_enter Tryz.func148,Tryz.ntmps148
 go_wp2_with fail
 refine(len_any (some ⟨pb,0,none⟩) (n+1) c w).mono ?_
 rintro e w0 ⟨rfl,rfl⟩
 go_wp2_with fail
 refine(HSW ()).mono ?_
 rintro e w1 ⟨rfl,L1,hs1,hlt1,hb1,hk1⟩
 have HD:Unit→_:=fun _=>down_any hb ho cs ty pb c (n+1) L1 n w1 ((HH ()).1.blk.keep hk1 (fun e=>hne e)) (HH ()).1.at_ hne hb1 (hs1.1.trans (HH ()).1.len) (by omega) (by have:=(HH ()).2.2;omega)
 have H1:Unit→SameT L1 L∧Keep (only pb) w w1∧L1[n]?=some t:=fun _=>⟨hs1,hk1,hlt1⟩
 clear hs1 hb1 hk1 hlt1 hml hms hcell HSW
 go_wp2_with fail
 refine(HD ()).mono ?_
 rintro e w2 ⟨⟨b,rfl⟩,L2,hs2,hb2,hk2⟩
 have hsm:SameT L2 L:=hs2.1.trans (H1 ()).1
 have hkk:Keep (only pb) w w2:=(H1 ()).2.1.trans hk2
 have hblk:=(HH ()).1.blk.keep hkk (fun e=>hne e)
 have hL2:L2.length=n+1:=hsm.1.trans (HH ()).1.len
 have hlast:L2[n]?=some t:=(hs2.2 n (Nat.le_refl _)).trans (H1 ()).2.2
 have HPO:Unit→_:=fun _=>pop_any hb ho cs ty pb c n L2 t w2 hblk (HH ()).1.at_ hne hb2 hL2 (HH ()).1.cap hlast (by have:=(HH ()).2.2;omega)
 have H2:Unit→SameT L2 L∧Keep (only pb) w w2∧L2[n]?=some t∧L2.length=n+1:=fun _=>⟨hsm,hkk,hlast,hL2⟩
 have hmq:=fun k=>pop_at k hb ho w2
 clear hs2 hb2 hk2 hsm hkk hblk hL2 hlast HD
 go_wp2_with fail
 refine(HPO ()).mono ?_
 rintro e w3 ⟨rfl,e1,e2,e3⟩
 have HE:Unit→HeapTo w w3 hb ho cs ty (some ⟨pb,0,none⟩) (fun L'=>True):=fun _=>by
  obtain⟨h1,h2,h3,h4⟩:=H2 ()
  exact⟨some ⟨pb,0,none⟩,n,c,L2.take n,⟨e1,set_get (HH ()).1.at_,by rw[List.length_take];omega,by have:=(HH ()).1.cap;omega,Or.inr ⟨pb,rfl,hne,e2⟩⟩,trivial,fun b e=>Or.inl e,(h2.mono (fun _ _ e=>Or.inr (by rw[e]))).trans (e3.mono (fun _ _ e=>Or.inl e))⟩
 clear e1 e2 e3 HPO
 go_wp2
 go_ret
 exact⟨rfl,HE ()⟩
theorem add_any(hb ho:Nat)(cs:Array Value)(ty:TypeId)(a:Option Addr)(n c:Nat)(L:List Th)(e wt:Int)(w:World)(h:HeapAt w hb ho cs ty a n c L)(hn:(n:Int)<100000)(hrise:∀x∈L,x.w≤wt):
 Calls Tryz.prog 159 #[.pointer (some ⟨hb,ho,none⟩),.int .i64 e,.int .i64 wt] w fun r w'=>r=.returned (.tuple #[])∧HeapTo w w' hb ho cs ty a (fun L'=>L'=L++[⟨e,wt⟩]):=by
 have HPH:Unit→∀w1,Keep nil w w1→_:=fun _ w1 k=>hpush_any hb ho cs ty a n c L ⟨e,wt⟩ w1 ⟨h.blk.keep k (fun e=>e),h.at_,h.len,h.cap,h.row.imp id (fun⟨pb,h1,h2,h3⟩=>⟨pb,h1,h2,h3.keep k (fun e=>e)⟩)⟩ hn hrise
 clear h hn hrise
 go_enter Tryz.func159,Tryz.ntmps159
 go_wp2_with fail
 refine Calls.mono (HPH () w (Keep.refl _ _)) ?_
 rintro r w2 ⟨rfl,h2⟩
 have HE:Unit→HeapTo w w2 hb ho cs ty a (fun L'=>L'=L++[⟨e,wt⟩]):=fun _=>h2
 clear h2 HPH
 go_wp2
 go_end0
 exact⟨rfl,HE ()⟩
theorem take_none(hb ho:Nat)(a:Option Addr)(c:Nat)(w:World)(h:w.cell? ⟨hb,ho,none⟩=some (.slice a 0 c)):
 Calls Tryz.prog 160 #[.pointer (some ⟨hb,ho,none⟩)] w fun r w'=>r=.returned (.tuple #[.int .i64 0,.bool false])∧Keep nil w w':=by
 have hl:=World.block_lt_of_cell? w _ h
 simp only at hl
 go_enter Tryz.func160,Tryz.ntmps160
 go_wp2
 go_ret2
 exact⟨rfl,Keep.refl _ _⟩
theorem take_some(hb ho:Nat)(cs:Array Value)(ty:TypeId)(a:Option Addr)(n c:Nat)(L:List Th)(w:World)(h:HeapAt w hb ho cs ty a (n+1) c L)(hn:(n:Int)<100000)(t:Th)(h0t:L[0]?=some t):
 Calls Tryz.prog 160 #[.pointer (some ⟨hb,ho,none⟩)] w fun r w'=>r=.returned (.tuple #[.int .i64 t.e,.bool true])∧HeapTo w w' hb ho cs ty a (fun L'=>True):=by
 have HH:Unit→∀w1,Keep nil w w1→_:=fun _ w1 k=>hpop_any hb ho cs ty a n c L w1 ⟨h.blk.keep k (fun e=>e),h.at_,h.len,h.cap,h.row.imp id (fun⟨pb,h1,h2,h3⟩=>⟨pb,h1,h2,h3.keep k (fun e=>e)⟩)⟩ hn t h0t
 have hcell:=(h.blk.cell ho).trans h.at_
 have hhl:=h.blk.lt
 have hne0:¬((n:Int)+1=0):=by omega
 clear h hn h0t
 go_enter Tryz.func160,Tryz.ntmps160
 go_wp2_with fail
 refine Calls.mono (HH () w (Keep.refl _ _)) ?_
 rintro r w2 ⟨rfl,h2⟩
 have HE:Unit→HeapTo w w2 hb ho cs ty a (fun L'=>True):=fun _=>h2
 clear h2 HH
 go_wp2
 go_ret2
 exact⟨rfl,HE ()⟩
end Go.Proofs.YtlfijfodklhplaaGreat.HI
namespace Go.Proofs.YtlfijfodklhplaaGreat
open Go.RowKit
inductive NMsg where
 |connect (l:Nat)
 |initiate (l n:Nat) (f:Bool)
 |test (l n:Nat)
 |accept
 |reject
 |report (w:Nat)
 |root
def NMsg.plain:NMsg→Fr.Msg
 | .connect l=>⟨1,l,0,false⟩
 | .initiate l n f=>⟨2,l,n,f⟩
 | .test l n=>⟨3,l,n,false⟩
 | .accept=>⟨4,0,0,false⟩
 | .reject=>⟨5,0,0,false⟩
 | .report w=>⟨6,0,if w=1001 then 0 else w,false⟩
 | .root=>⟨7,0,0,false⟩
def typed(m:Fr.Msg):NMsg:=match m.kind with
 |1=>.connect m.level
 |2=>.initiate m.level m.name m.finding
 |3=>.test m.level m.name
 |4=>.accept
 |5=>.reject
 |6=>.report (if m.name=0 then 1001 else m.name)
 |_=>.root
structure Nod where
 state:Nat
 level:Nat
 name:Nat
 edges:List (Nat×Nat)
 inn:Option Nat
 best:Option Nat
 bw:Nat
 tested:Option Nat
 count:Int
 over:Bool
 off:List (Nat×NMsg)
 sent:List (Nat×Fr.Msg)
namespace Nod
def new(ws:List Nat):Nod:=⟨0,0,0,ws.map (fun w=>(w,0)),none,none,1001,none,0,false,[],[]⟩
def st(n:Nod)(j:Nat):Nat:=match n.edges[j]? with|some e=>e.2|none=>0
def wt(n:Nod)(j:Nat):Nat:=match n.edges[j]? with|some e=>e.1|none=>0
def setSt(n:Nod)(j s:Nat):Nod:={ n with edges:=n.edges.set j (n.wt j,s)}
def send(n:Nod)(j:Nat)(m:NMsg):Nod:={ n with sent:=n.sent++[(j,m.plain)]}
def lightFrom:List (Nat×Nat)→Nat→Option Nat
 |[],_=>none
 |e::r,k=>if e.2=0 then some k else lightFrom r (k+1)
def light(n:Nod):Option Nat:=lightFrom n.edges 0
def wake(n:Nod):Nod:=
 if n.state=0 then
  match ({ n with level:=0,state:=2,count:=0}:Nod).light with
  |none=>{ n with level:=0,state:=2,count:=0,over:=true}
  |some j=>(({ n with level:=0,state:=2,count:=0}:Nod).setSt j 1).send j (.connect 0)
 else n
def spread(n:Nod)(j:Nat)(l nm:Nat)(f:Bool):Nod:=
 if f then { n.send j (.initiate l nm f)with count:=wrap64 (n.count+1)}else n.send j (.initiate l nm f)
def reports(n:Nod):Nod:=
 if n.count=0∧n.tested=none then
  match n.inn with
  |none=>{ n with state:=2}
  |some i=>({ n with state:=2}:Nod).send i (.report n.bw)
 else n
def tests(n:Nod):Nod:=
 match n.light with
 |none=>({ n with tested:=none}:Nod).reports
 |some j=>({ n with tested:=some j}:Nod).send j (.test n.level n.name)
def spreads(n:Nod)(fr l nm:Nat)(f:Bool):Nat→Nat→Nod
 |0,_=>n
 |k+1,j=>(if j≠fr∧n.st j=1 then n.spread j l nm f else n).spreads fr l nm f k (j+1)
def initiate(n:Nod)(fr l nm:Nat)(f:Bool):Nod:=
 let n1:Nod:={ n with level:=l,name:=nm,state:=if f then 1 else 2,inn:=some fr,best:=none,bw:=1001}
 let n2:=n1.spreads fr l nm f n.edges.length 0
 if f then n2.tests else n2
def reject(n:Nod)(j:Nat):Nod:=if n.st j=0 then n.setSt j 2 else n
def hear(n:Nod)(j w:Nat):Nod:=if w<n.bw then { n with best:=some j,bw:=w}else n
def changeRoot(n:Nod):Nod:=match n.best with
 |none=>n
 |some b=>if n.st b=1 then n.send b .root else (n.send b (.connect n.level)).setSt b 1
def connect(n:Nod)(j l:Nat):Nod×Bool:=
 let n1:=n.wake
 if l<n1.level then ((n1.setSt j 1).spread j n1.level n1.name (n1.state==1),true)
 else if n1.st j=0 then (n1,false)
 else (n1.send j (.initiate (n1.level+1) (n1.wt j) true),true)
def test(n:Nod)(j l nm:Nat):Nod×Bool:=
 let n1:=n.wake
 if n1.level<l then (n1,false)
 else if nm≠n1.name then (n1.send j .accept,true)
 else if n1.tested=some j then ((n1.reject j).tests,true)else ((n1.reject j).send j .reject,true)
def accept(n:Nod)(j:Nat):Nod:=(({ n with tested:=none}:Nod).hear j (n.wt j)).reports
def report(n:Nod)(j w:Nat):Nod×Bool:=
 if n.inn=some j then
  if n.state=1 then (n,false)
  else if n.bw<w then (n.changeRoot,true)
  else if w=1001∧n.bw=1001 then ({ n with over:=true},true)else (n,true)
 else ((({ n with count:=wrap64 (n.count - 1)}:Nod).hear j w).reports,true)
def act(n:Nod)(j:Nat):NMsg→Nod×Bool
 | .connect l=>n.connect j l
 | .initiate l nm f=>(n.initiate j l nm f,true)
 | .test l nm=>n.test j l nm
 | .accept=>(n.accept j,true)
 | .reject=>((n.reject j).tests,true)
 | .report w=>n.report j w
 | .root=>(n.changeRoot,true)
def oneOff(n:Nod):Nat→Nat→Nod×Bool
 |0,_=>(n,false)
 |f+1,k=>match n.off[k]? with
  |none=>(n,false)
  |some c=>if (n.act c.1 c.2).2 then ({ (n.act c.1 c.2).1 with off:=(n.act c.1 c.2).1.off.eraseIdx k},true)else (n.act c.1 c.2).1.oneOff f (k+1)
def offs(n:Nod):Nat→Nod
 |0=>n
 |f+1=>if (n.oneOff n.off.length 0).2 then (n.oneOff n.off.length 0).1.offs f else (n.oneOff n.off.length 0).1
def take(n:Nod)(j:Nat)(m:Fr.Msg):Nod:=
 if (n.act j (typed m)).2 then (n.act j (typed m)).1.offs ((n.act j (typed m)).1.off.length+1)
 else { (n.act j (typed m)).1 with off:=(n.act j (typed m)).1.off++[(j,typed m)]}
end Nod
def oi:Option Nat→Int
 |none=>-1
 |some j=>(j:Int)
theorem oi_some(j:Nat):oi (some j)=(j:Int):=rfl
theorem oi_inj{a b:Option Nat}(h:oi a=oi b):a=b:=by
 cases a<;>cases b<;>simp[oi]at h⊢ <;>omega
def NMsg.val:NMsg→Value
 | .connect l=>.iface 193 (.agg #[.int .i64 (l:Int)])
 | .initiate l n f=>.iface 313 (.agg #[.int .i64 (l:Int),.int .i64 (n:Int),.bool f])
 | .test l n=>.iface 315 (.agg #[.int .i64 (l:Int),.int .i64 (n:Int)])
 | .accept=>.iface 316 (.agg #[])
 | .reject=>.iface 317 (.agg #[])
 | .report w=>.iface 319 (.agg #[.int .i64 (w:Int)])
 | .root=>.iface 321 (.agg #[])
def necell(e:Nat×Nat):List Value:=[.int .i64 (e.1:Int),.int .i64 (e.2:Int)]
def necells(l:List (Nat×Nat)):List Value:=l.flatMap necell
def ccell(c:Nat×NMsg):List Value:=[.int .i64 (c.1:Int),c.2.val]
def ccells(l:List (Nat×NMsg)):List Value:=l.flatMap ccell
def lcell(c:Nat×Fr.Msg):List Value:=.int .i64 (c.1:Int)::mcell c.2
def lcells(l:List (Nat×Fr.Msg)):List Value:=l.flatMap lcell
structure Np where
 ea:Option Addr
 ec:Nat
 fa:Option Addr
 fc:Nat
 sa:Option Addr
 sc:Nat
def ncells(n:Nod)(p:Np):Array Value:=#[.int .i64 (n.state:Int),.int .i64 (n.level:Int),.int .i64 (n.name:Int),.slice p.ea n.edges.length p.ec,.int .i64 (oi n.inn),.int .i64 (oi n.best),.int .i64 (n.bw:Int),.int .i64 (oi n.tested),.int .i64 n.count,.bool n.over,.slice p.fa n.off.length p.fc,.slice p.sa n.sent.length p.sc]
def NMine(b:Nat)(p:Np)(k:Nat):Prop:=k=b∨inB p.ea k∨inB p.fa k∨inB p.sa k
structure NRep(w:World)(b:Nat)(n:Nod)(p:Np):Prop where
 blk:Blk w b (ncells n p) 187
 erow:RV w 190 2 p.ea n.edges.length p.ec (necells n.edges)
 frow:RV w 270 2 p.fa n.off.length p.fc (ccells n.off)
 srow:RV w 197 5 p.sa n.sent.length p.sc (lcells n.sent)
 eb:¬inB p.ea b
 fb:¬inB p.fa b
 sb:¬inB p.sa b
 ef:∀k,inB p.ea k→¬inB p.fa k
 es:∀k,inB p.ea k→¬inB p.sa k
 fs:∀k,inB p.fa k→¬inB p.sa k
theorem NRep.keep{ex:Nat→Prop}{w w':World}{b:Nat}{n:Nod}{p:Np}(h:NRep w b n p)(k:Keep ex w w')(hn:∀i,NMine b p i→¬ex i):NRep w' b n p:=
 ⟨h.blk.keep k (hn b (Or.inl rfl)),h.erow.keep k (fun g hg=>hn g (Or.inr (Or.inl hg))),h.frow.keep k (fun g hg=>hn g (Or.inr (Or.inr (Or.inl hg)))),h.srow.keep k (fun g hg=>hn g (Or.inr (Or.inr (Or.inr hg)))),h.eb,h.fb,h.sb,h.ef,h.es,h.fs⟩
theorem NRep.lt{w:World}{b:Nat}{n:Nod}{p:Np}(h:NRep w b n p):∀i,NMine b p i→i<w.heap.size:=fun i hi=>by
 rcases hi with rfl|hi|hi|hi
 ·exact h.blk.lt
 ·exact h.erow.lt i hi
 ·exact h.frow.lt i hi
 ·exact h.srow.lt i hi
structure NStep(w w':World)(b:Nat)(p p':Np):Prop where
 mine:∀k,NMine b p' k→NMine b p k∨w.heap.size≤k
 keep:Keep (NMine b p) w w'
 fa:p'.fa=p.fa
 fc:p'.fc=p.fc
theorem NStep.refl(w:World)(b:Nat)(p:Np):NStep w w b p p:=⟨fun _ h=>Or.inl h,Keep.refl _ _,rfl,rfl⟩
theorem NStep.of_keep{w w1:World}(b:Nat)(p:Np)(h:Keep nil w w1):NStep w w1 b p p:=⟨fun _ h=>Or.inl h,h.mono (fun _ _ e=>e.elim),rfl,rfl⟩
theorem NStep.trans{w w1 w2:World}{b:Nat}{p p1 p2:Np}(h:NStep w w1 b p p1)(k:NStep w1 w2 b p1 p2):NStep w w2 b p p2:=
 ⟨fun i hi=>by
  rcases k.mine i hi with h1|h1
  ·exact h.mine i h1
  ·exact Or.inr (Nat.le_trans h.keep.size h1),h.keep.trans' k.keep (fun i hi e=>by
  rcases h.mine i e with h1|h1
  ·exact h1
  ·omega),k.fa.trans h.fa,k.fc.trans h.fc⟩
theorem NRep.set{w:World}{b:Nat}{n n':Nod}{p:Np}(h:NRep w b n p)(i:Nat)(v:Value)(hc:(ncells n p).setIfInBounds i v=ncells n' p)(h1:n'.edges=n.edges)(h2:n'.off=n.off)(h3:n'.sent=n.sent):
 NRep (w.setCell ⟨b,i,none⟩ v) b n' p∧NStep w (w.setCell ⟨b,i,none⟩ v) b p p:=by
 have ks:Keep (only b) w (w.setCell ⟨b,i,none⟩ v):=(Keep.refl (only b) w).setCell (p:=⟨b,i,none⟩) (fun _=>rfl) _
 refine⟨⟨?_,?_,?_,?_,h.eb,h.fb,h.sb,h.ef,h.es,h.fs⟩,⟨fun _ h=>Or.inl h,ks.mono (fun _ _ e=>Or.inl e),rfl,rfl⟩⟩
 ·have:=h.blk.set i v;rw[hc]at this;exact this
 ·rw[h1];exact h.erow.keep ks (fun g hg e=>by rw[show g=b from e]at hg;exact h.eb hg)
 ·rw[h2];exact h.frow.keep ks (fun g hg e=>by rw[show g=b from e]at hg;exact h.fb hg)
 ·rw[h3];exact h.srow.keep ks (fun g hg e=>by rw[show g=b from e]at hg;exact h.sb hg)
theorem necells_get(l:List (Nat×Nat)):∀(k:Nat) (e:Nat×Nat),l[k]?=some e→(necells l)[k * 2]?=some (.int .i64 (e.1:Int))∧(necells l)[k * 2+1]?=some (.int .i64 (e.2:Int)):=by
 induction l with
 |nil=>intro k e h;simp at h
 |cons x t ih=>
  intro k e h
  have hc:necells (x::t)=necell x++necells t:=by simp[necells]
  rw[hc]
  cases k with
  |zero=>simp at h;subst h;exact⟨rfl,rfl⟩
  |succ k=>
   rw[List.getElem?_cons_succ]at h
   have:=ih k e h
   have hl:(necell x).length=2:=rfl
   rw[List.getElem?_append_right (by omega),List.getElem?_append_right (by omega),hl,show (k+1) * 2 - 2=k * 2 by omega,show (k+1) * 2+1 - 2=k * 2+1 by omega]
   exact this
theorem NRep.edge_at{w:World}{b:Nat}{n:Nod}{p:Np}(h:NRep w b n p)(j:Nat)(e:Nat×Nat)(he:n.edges[j]?=some e):∃g o,p.ea=some ⟨g,o,none⟩∧g<w.heap.size∧w.cell? ⟨g,o+j * 2,none⟩=some (.int .i64 (e.1:Int))∧w.cell? ⟨g,o+j * 2+1,none⟩=some (.int .i64 (e.2:Int))∧w.frozen? ⟨g,o+j * 2+1,none⟩=false:=by
 obtain⟨h1,h2,h3⟩:=h.erow
 have hj:=(List.getElem?_eq_some_iff.1 he).1
 rcases h3 with⟨_,h3,_⟩|⟨g,o,h3,hv⟩
 ·omega
 ·obtain⟨c0,c1⟩:=necells_get n.edges j e he
  exact⟨g,o,h3,hv.lt,hv.cell _ _ c0,by rw[Nat.add_assoc];exact hv.cell _ _ c1,hv.frozen _⟩
end Go.Proofs.YtlfijfodklhplaaGreat
