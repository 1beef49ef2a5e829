import Derived.Test.YtlfijfodklhplaaGreatTn07
import Derived.Test.YtlfijfodklhplaaGreatTn22
import Derived.Test.YtlfijfodklhplaaGreatTn17
set_option maxRecDepth 100000
set_option maxHeartbeats 4000000
set_option linter.unusedVariables false
set_option linter.unusedSimpArgs false
namespace Go.Proofs.YtlfijfodklhplaaGreat
open Go.RowKit
abbrev edv(e:Ed):Value:=.agg #[.int .i64 e.a,.int .i64 e.b,.int .i64 e.wt]
def strayB(n:Int)(e:Ed):Bool:=!(decide (0≤e.a)&&decide (e.a<n))|| !(decide (0≤e.b)&&decide (e.b<n))||(e.a==e.b)
def heavyB(e:Ed):Bool:=decide (e.wt<1)||decide (1000<e.wt)
def sameWB(e f:Ed):Bool:=e.wt==f.wt
def sameEB(e f:Ed):Bool:=(e.a==f.a&&e.b==f.b)||(e.a==f.b&&e.b==f.a)
theorem ecells_get(l:List Ed):∀(k:Nat) (e:Ed),l[k]?=some e→(ecells l)[k * 3]?=some (.int .i64 e.a)∧(ecells l)[k * 3+1]?=some (.int .i64 e.b)∧(ecells l)[k * 3+2]?=some (.int .i64 e.wt):=by
 induction l with
 |nil=>intro k e h;simp at h
 |cons x t ih=>
  intro k e h
  have hc:ecells (x::t)=x.cells++ecells t:=by simp[ecells]
  rw[hc]
  cases k with
  |zero=>
   simp at h
   subst h
   exact⟨rfl,rfl,rfl⟩
  |succ k=>
   rw[List.getElem?_cons_succ]at h
   have:=ih k e h
   have hl:x.cells.length=3:=rfl
   rw[List.getElem?_append_right (by omega),List.getElem?_append_right (by omega),List.getElem?_append_right (by omega),hl]
   rw[show (k+1) * 3 - 3=k * 3 by omega,show (k+1) * 3+1 - 3=k * 3+1 by omega,show (k+1) * 3+2 - 3=k * 3+2 by omega]
   exact this
theorem erow_get{w:World}{b o:Nat}{l:List Ed}(h:ERow w b o l)(k:Nat)(e:Ed)(hk:l[k]?=some e):
 w.cell? ⟨b,o+k * 3,none⟩=some (.int .i64 e.a)∧w.cell? ⟨b,o+k * 3+1,none⟩=some (.int .i64 e.b)∧w.cell? ⟨b,o+k * 3+2,none⟩=some (.int .i64 e.wt):=by
 obtain⟨h0,h1,h2⟩:=ecells_get l k e hk
 exact⟨h _ _ h0,h _ _ h1,h _ _ h2⟩
def ESl(w:World)(sa:Option Addr)(es:List Ed):Prop:=es=[]∨∃bb bo,sa=some ⟨bb,bo,none⟩∧bb<w.heap.size∧ERow w bb bo es
theorem ESl.keep{w w':World}{sa:Option Addr}{es:List Ed}(h:ESl w sa es)(k:Keep nil w w'):ESl w' sa es:=
 h.imp id (fun⟨bb,bo,h1,h2,h3⟩=>⟨bb,bo,h1,Nat.lt_of_lt_of_le h2 k.size,h3.keep k h2 (fun e=>e)⟩)
theorem ESl.some{w:World}{sa:Option Addr}{es:List Ed}(h:ESl w sa es){i:Nat}(hi:i<es.length):∃bb bo,sa=some ⟨bb,bo,none⟩∧bb<w.heap.size∧ERow w bb bo es:=by
 rcases h with h|h
 ·rw[h]at hi;simp at hi
 ·exact h
theorem mem_take_succ{es:List Ed}{k:Nat}{e:Ed}(he:es[k]?=some e){x:Ed}:x∈es.take (k+1)↔x∈es.take k∨x=e:=by
 rw[List.take_add_one,he];simp
theorem isNode_any(k n:Int)(w:World):Calls Tryz.prog 50 #[.int .i64 k,.int .i64 n] w fun r w'=>r=.returned (.bool (decide (0≤k)&&decide (k<n)))∧w=w':=by
 go_enter Tryz.func50,Tryz.ntmps50
 go_wp2
 all_goals
  go_ret
  refine⟨?_,rfl⟩
  simp_all<;>omega
theorem weighsWrong_any(e:Ed)(w:World):Calls Tryz.prog 52 #[edv e] w fun r w'=>r=.returned (.bool (heavyB e))∧Keep nil w w':=by
 obtain⟨a,b,wt⟩:=e
 go_enter Tryz.func52,Tryz.ntmps52
 go_wp2
 all_goals
  go_ret
  refine⟨?_,(Keep.refl nil w).alloc _⟩
  simp_all [heavyB]
theorem weighAlike_any(e f:Ed)(w:World):Calls Tryz.prog 54 #[edv e,edv f] w fun r w'=>r=.returned (.bool (sameWB e f))∧Keep nil w w':=by
 obtain⟨a,b,wt⟩:=e
 obtain⟨a2,b2,wt2⟩:=f
 go_enter Tryz.func54,Tryz.ntmps54
 go_wp2
 all_goals
  go_ret
  refine⟨?_,((Keep.refl nil w).alloc _).alloc _⟩
  simp_all [sameWB]
theorem joinAlike_any(e f:Ed)(w:World):Calls Tryz.prog 55 #[edv e,edv f] w fun r w'=>r=.returned (.bool (sameEB e f))∧Keep nil w w':=by
 obtain⟨a,b,wt⟩:=e
 obtain⟨a2,b2,wt2⟩:=f
 go_enter Tryz.func55,Tryz.ntmps55
 go_wp2
 all_goals
  go_ret
  refine⟨?_,((Keep.refl nil w).alloc _).alloc _⟩
  simp_all [sameEB]
theorem strays_any(nb:Nat)(n:Int)(e:Ed)(w:World)(hn:w.cell? ⟨nb,0,none⟩=some (.int .i64 n)):
 Calls Tryz.prog 49 #[edv e,.pointer (some ⟨nb,0,none⟩)] w fun r w'=>r=.returned (.bool (strayB n e))∧Keep nil w w':=by
 obtain⟨a,b,wt⟩:=e
 have hl:=World.block_lt_of_cell? w _ hn
 simp only at hl
 have HI:Unit→∀k w,Calls Tryz.prog 50 #[.int .i64 k,.int .i64 n] w fun r w'=>r=.returned (.bool (decide (0≤k)&&decide (k<n)))∧w=w':=fun _ k w=>isNode_any k n w
 go_enter Tryz.func49,Tryz.ntmps49
 go_wp2_with fail
 refine(HI () _ _).mono ?_
 rintro r w' ⟨rfl,rfl⟩
 cases hA:(decide (0≤a)&&decide (a<n))
 ·go_wp2
  go_ret
  refine⟨?_,((Keep.refl nil w).alloc _)⟩
  simp_all [strayB]<;>omega
 ·go_wp2_with fail
  refine(HI () _ _).mono ?_
  rintro r w' ⟨rfl,rfl⟩
  cases hB:(decide (0≤b)&&decide (b<n))
  ·go_wp2
   go_ret
   refine⟨?_,((Keep.refl nil w).alloc _)⟩
   simp_all [strayB]<;>omega
  ·go_wp2
   all_goals
    go_ret
    refine⟨?_,((Keep.refl nil w).alloc _)⟩
    simp_all [strayB]
def mkSd(k:Nat)(e:Ed):Sd:=⟨(e.a+e.b - (k:Int)).toNat,En.new,Pl.new⟩
def ownE(k:Nat)(es:List Ed):List Ed:=es.filter (fun e=>decide (e.a=(k:Int)∨e.b=(k:Int)))
def wts(F:List Ed):List Nat:=F.map (fun e=>e.wt.toNat)
theorem side_info:(Tryz.prog.info? 181).map (fun i=>(i.zero,i.size,i.bytes))=some (some (.agg #[.int .i64 0,.int .i64 0,.slice none 0 0,.int .i64 0,.int .i64 0,.int .i64 0,.int .i64 0,.bool false,.bool false,.int .i64 0,.int .i64 0,.int .i64 0,.bool false,.bool false,.int .i64 0,.int .i64 0,.int .i64 0,.bool false,.bool false,.int .i64 0,.int .i64 0,.int .i64 0,.bool false,.bool false,.slice none 0 0]),25,232):=by kernel_rfl
structure NSp(w wr:World)(k:Nat)(F:List Ed)(rb sb:Nat)(a:Option Addr)(c:Nat)(wa:Option Addr)(wc:Nat):Prop where
 keep:Keep nil w wr
 rblk:Blk wr rb #[.pointer none,.slice none 0 0] 125
 sblk:Blk wr sb #[.pointer none,.slice a F.length c] 125
 row:RV wr 181 25 a F.length c (sdcells (F.map (mkSd k)))
 wrow:RV wr 3 1 wa F.length wc (icells (wts F))
 fr:w.heap.size≤rb∧w.heap.size≤sb∧rb≠sb
 new:∀g,inB a g→w.heap.size≤g∧g≠sb∧g≠rb
 wnew:∀g,inB wa g→w.heap.size≤g∧g≠sb∧g≠rb∧¬inB a g
theorem NSp.keepN{w wr w1:World}{k rb sb c wc:Nat}{F:List Ed}{a wa:Option Addr}(h:NSp w wr k F rb sb a c wa wc)(k1:Keep nil wr w1):NSp w w1 k F rb sb a c wa wc:=
 ⟨h.keep.trans k1,h.rblk.keep k1 id,h.sblk.keep k1 id,h.row.keep k1 (fun _ _ e=>e),h.wrow.keep k1 (fun _ _ e=>e),h.fr,h.new,h.wnew⟩
theorem NSp.next{w wr w4 w6:World}{k rb sb c wc c4 c6:Nat}{F:List Ed}{a wa a4 a6:Option Addr}(h:NSp w wr k F rb sb a c wa wc)(e:Ed){W3 W5:World}(k3:Keep nil wr W3)(k5:Keep nil (w4.setCell ⟨sb,1,none⟩ (.slice a4 (F.length+1) c4)) W5)
 (hb4:RV w4 181 25 a4 (F.length+1) c4 (sdcells (F.map (mkSd k))++sdcell (mkSd k e))) (hd4:(a4=a∧c4=c)∨(a4=some ⟨W3.heap.size,0,none⟩∧Keep nil W3 w4)) (hk4:Keep (inB a) W3 w4)
 (hb6:RV w6 3 1 a6 (F.length+1) c6 (icells (wts F)++[.int .i64 (e.wt.toNat:Int)])) (hd6:(a6=wa∧c6=wc)∨(a6=some ⟨W5.heap.size,0,none⟩∧Keep nil W5 w6)) (hk6:Keep (inB wa) W5 w6):
 NSp w w6 k (F++[e]) rb sb a4 c4 a6 c6:=by
 have hsl:=h.sblk.lt
 have hrl:=h.rblk.lt
 have h34:W3.heap.size≤w4.heap.size:=hk4.size
 have h35:w4.heap.size≤W5.heap.size:=by have:=k5.size;simpa using this
 have hw3:=k3.size
 have hka:∀g,inB a g→g<wr.heap.size:=h.row.lt
 have hkw:∀g,inB wa g→g<wr.heap.size:=h.wrow.lt
 have ha4:∀g,inB a4 g→inB a g∨W3.heap.size≤g:=fun g hg=>by
  rcases hd4 with⟨e1,_⟩|⟨e1,_⟩
  ·rw[e1]at hg;exact Or.inl hg
  ·rw[e1]at hg;exact Or.inr (by rw[inB_some.1 hg];exact Nat.le_refl _)
 have ha6:∀g,inB a6 g→inB wa g∨W5.heap.size≤g:=fun g hg=>by
  rcases hd6 with⟨e1,_⟩|⟨e1,_⟩
  ·rw[e1]at hg;exact Or.inl hg
  ·rw[e1]at hg;exact Or.inr (by rw[inB_some.1 hg];exact Nat.le_refl _)
 have ha4l:∀g,inB a4 g→g<w4.heap.size:=hb4.lt
 obtain⟨w5,hw5⟩:∃w5,w5=w4.setCell ⟨sb,1,none⟩ (.slice a4 (F.length+1) c4):=⟨_,rfl⟩
 rw[←hw5]at k5
 have ks:Keep (only sb) w4 w5:=by rw[hw5];exact(Keep.refl (only sb) w4).setCell (p:=⟨sb,1,none⟩) (fun _=>rfl) _
 have hs4:Blk w4 sb #[.pointer none,.slice a F.length c] 125:=(h.sblk.keep k3 id).keep hk4 (fun x=>(h.new sb x).2.1 rfl)
 have hs5:Blk w5 sb #[.pointer none,.slice a4 (F.length+1) c4] 125:=by
  have:=hs4.set 1 (.slice a4 (F.length+1) c4)
  rw[←hw5]at this
  exact this
 have a4s:∀g,inB a4 g→g≠sb∧g≠rb:=fun g hg=>by
  rcases ha4 g hg with x|x
  ·exact⟨(h.new g x).2.1,(h.new g x).2.2⟩
  ·exact⟨by omega,by omega⟩
 have a4w:∀g,inB a4 g→¬inB wa g:=fun g hg x=>by
  rcases ha4 g hg with y|y
  ·exact(h.wnew g x).2.2.2 y
  ·have:=hkw g x;omega
 refine⟨?_,?_,?_,?_,?_,h.fr,?_,?_⟩
 ·refine((((h.keep.trans k3).trans' hk4 (fun i hi x=>?_)).trans' ks (fun i hi x=>?_)).trans k5).trans' hk6 (fun i hi x=>?_)
  ·have:=(h.new i x).1;omega
  ·rw[show i=sb from x]at hi;have:=h.fr.2.1;omega
  ·have:=(h.wnew i x).1;omega
 ·refine((((h.rblk.keep k3 id).keep hk4 (fun x=>(h.new rb x).2.2 rfl)).keep ks (fun x=>h.fr.2.2 x)).keep k5 id).keep hk6 (fun x=>(h.wnew rb x).2.2.1 rfl)
 ·rw[List.length_append]
  exact((hs5.keep k5 id).keep hk6 (fun x=>(h.wnew sb x).2.1 rfl))
 ·rw[List.length_append,List.map_append]
  have e1:sdcells (F.map (mkSd k)++[e].map (mkSd k))=sdcells (F.map (mkSd k))++sdcell (mkSd k e):=by simp[sdcells]
  rw[e1]
  exact((hb4.keep ks (fun g hg x=>(a4s g hg).1 x)).keep k5 (fun _ _ x=>x)).keep hk6 (fun g hg x=>a4w g hg x)
 ·rw[List.length_append]
  have e1:icells (wts (F++[e]))=icells (wts F)++[.int .i64 (e.wt.toNat:Int)]:=by simp[icells,wts]
  rw[e1]
  exact hb6
 ·intro g hg
  rcases ha4 g hg with x|x
  ·exact h.new g x
  ·have h0:=h.keep.size;exact⟨by omega,by omega,by omega⟩
 ·intro g hg
  rcases ha6 g hg with x|x
  ·obtain⟨w1,w2,w3,w4'⟩:=h.wnew g x
   exact⟨w1,w2,w3,fun y=>a4w g y x⟩
  ·have h0:=h.keep.size;exact⟨by omega,by omega,by omega,fun y=>by have:=ha4l g y;omega⟩
theorem edge_at{w:World}{a:Option Addr}{n c:Nat}{l:List Ed}(h:RV w 30 3 a n c (ecells l)){k:Nat}{x:Ed}(hx:l[k]?=some x)(hk:k<n):
 ∃g q,a=some ⟨g,q,none⟩∧g<w.heap.size∧w.cell? ⟨g,q+k * 3,none⟩=some (.int .i64 x.a)∧w.cell? ⟨g,q+k * 3+1,none⟩=some (.int .i64 x.b)∧w.cell? ⟨g,q+k * 3+2,none⟩=some (.int .i64 x.wt):=by
 obtain⟨g,q,h1,h2⟩:=rv_pos h (by omega)
 obtain⟨c0,c1,c2⟩:=ecells_get l k x hx
 refine⟨g,q,h1,h2.lt,h2.cell _ _ c0,?_,?_⟩
 ·rw[Nat.add_assoc];exact h2.cell _ _ c1
 ·rw[Nat.add_assoc];exact h2.cell _ _ c2
structure EOk(A:AN):Prop where
 few:A.es.length≤1000
 ends:∀e∈A.es,∃a b:Nat,e.a=(a:Int)∧e.b=(b:Int)∧(∃l,A.shape[a]?=some l∧b∈l)∧(∃l,A.shape[b]?=some l∧a∈l)
def AN.tr(A:AN)(e:Ed):Bool:=A.branch e.a.toNat e.b.toNat||A.branch e.b.toNat e.a.toNat
theorem tree_tr(A:AN):A.tree=A.es.filter A.tr:=rfl
theorem shape_spot{N:Nt}{a:Nat}{l:List Nat}(h:N.abs.shape[a]?=some l):∃s,N.sps[a]?=some s∧l=s.ss.map Sd.to_:=by
 simp only[AN.shape,Nt.abs,List.map_map,List.getElem?_map]at h
 obtain⟨s,h1,h2⟩:=Option.map_eq_some_iff.1 h
 exact⟨s,h1,by rw[←h2];simp[Sp.abs,Sd.abs,Function.comp_def]⟩
structure Tre(w wr:World)(F:List Ed)(a:Option Addr)(c:Nat):Prop where
 keep:Keep nil w wr
 row:RV wr 30 3 a F.length c (ecells F)
 new:∀g,inB a g→w.heap.size≤g
theorem quiet_take{P:Program}{ops:Array Oper}{C:World→Prop}{Q:Act→Prop}{a:Act}{o:Oper}{rest:List Oper}(v:Value)(hw:Region.wanted o (yielded ops a.tmps)=true)(h:∀w,C w→o.quietAt P a C w v)(hk:wpQuiet P ops C Q rest (a.put o.dst v)):wpQuiet P ops C Q (o::rest) a:=
 BigFrame.wpQuiet_want hw (fun K hK=>⟨v,h,hK _ hk⟩)
theorem Tre.keepN{w wr w1:World}{F:List Ed}{a:Option Addr}{c:Nat}(h:Tre w wr F a c)(k:Keep nil wr w1):Tre w w1 F a c:=⟨h.keep.trans k,h.row.keep k (fun _ _ e=>e),h.new⟩
theorem Tre.next{w wr w4 w6:World}{F:List Ed}{a a':Option Addr}{c c':Nat}(h:Tre w wr F a c)(x:Ed)(k4:Keep nil wr w4){o:Obj}(hb:RV w6 30 3 a' (F.length+1) c' (ecells F++[.int .i64 x.a,.int .i64 x.b,.int .i64 x.wt]))(hd:(a'=a∧c'=c)∨(a'=some ⟨(w4.alloc o).heap.size,0,none⟩∧Keep nil (w4.alloc o) w6))(hk:Keep (inB a) w4 w6):Tre w w6 (F++[x]) a' c':=by
 refine⟨?_,?_,?_⟩
 ·exact(h.keep.trans k4).trans' hk (fun i hi e=>by have:=h.new i e;omega)
 ·have e1:ecells (F++[x])=ecells F++[.int .i64 x.a,.int .i64 x.b,.int .i64 x.wt]:=by simp[ecells,Ed.cells]
  rw[e1,List.length_append]
  exact hb
 ·intro g hg
  rcases hd with⟨rfl,_⟩|⟨rfl,_⟩
  ·exact h.new g hg
  ·have:=inB_some.1 hg
   have h1:=(h.keep.trans k4).size
   simp only[World.size_alloc]at this
   omega
theorem mtree_any(N:Nt)(B:Nat)(w:World)(h:NtR w N)(ho:AOk N.abs B)(he:EOk N.abs):
 Calls Tryz.prog 34 #[.pointer (some ⟨N.nb,0,none⟩)] w fun r w'=>∃a c,r=.returned (.slice a N.abs.tree.length c)∧Tre w w' N.abs.tree a c:=by
 have H:Unit→NtR w N∧AOk N.abs B∧EOk N.abs:=fun _=>⟨h,ho,he⟩
 have q0:=h.c0
 have hnl:=h.blk.lt
 have hel:(N.es.length:Int)≤1000:=by have:=he.few;have e:N.abs.es.length=N.es.length:=rfl;omega
 have HC:Unit→∀w1,Keep nil w w1→w1.cell? ⟨N.nb,1,none⟩=some (.slice N.pa N.sps.length N.pc)∧N.nb<w1.heap.size:=fun _ w1 k1=>by
  have h1:=h.keep k1 (fun _ _ e=>e)
  exact⟨h1.c1,h1.blk.lt⟩
 obtain⟨nb,hnb⟩:∃nb,nb=N.nb:=⟨_,rfl⟩
 rw[←hnb]at q0 hnl HC⊢
 have HT0:Unit→Tre w w [] none 0:=fun _=>⟨Keep.refl _ _,RV.nil _ _ _,fun g hg=>(inB_none g hg).elim⟩
 clear h ho he hnb
 go_enter Tryz.func34,Tryz.ntmps34
 go_wp2_with fail
 go_loopw [3,11] (fun u v wr=>∃(i:Nat) (a:Option Addr) (c:Nat),i≤N.es.length∧v=.int .i64 (i:Int)∧u=.slice a ((N.es.take i).filter N.abs.tr).length c∧Tre w wr ((N.es.take i).filter N.abs.tr) a c) (fun _ v _=>N.es.length - (intOf v).toNat)
 case atStart=>exact⟨0,none,0,by omega,rfl,rfl,HT0 ()⟩
 case round=>
  obtain⟨i,a,c,hi,rfl,rfl,htre⟩:=hrel
  have HQ:Unit→Tre w wr ((N.es.take i).filter N.abs.tr) a c∧i≤N.es.length:=fun _=>⟨htre,hi⟩
  by_cases hil:i<N.es.length
  ·have HIL:Unit→i<N.es.length:=fun _=>hil
   have hiI:(i:Int)<(N.es.length:Int):=by omega
   have hi9:(i:Int)<2000:=by omega
   obtain⟨x,hx⟩:∃x,N.es[i]?=some x:=⟨_,List.getElem?_eq_getElem hil⟩
   have hNr:=(H ()).1.keep htre.keep (fun _ _ e=>e)
   obtain⟨g,q,hga,hgl,e0,e1,e2⟩:=edge_at hNr.erow hx hil
   obtain⟨ea,eb,h1,h2,⟨la,h3,h4⟩,⟨lb,h5,h6⟩⟩:=(H ()).2.2.ends x (List.mem_of_getElem? hx)
   obtain⟨sa,hsa,rfl⟩:=shape_spot h3
   obtain⟨sb,hsb,rfl⟩:=shape_spot h5
   have hal:=(List.getElem?_eq_some_iff.1 hsa).1
   have hbl:=(List.getElem?_eq_some_iff.1 hsb).1
   have hspl:N.sps.length≤1000:=by have:=(H ()).2.1.few;rw[NtR.abs_len.2]at this;exact this
   obtain⟨pb,po,hpa,hpl,_,_⟩:=hNr.spot_at hsa
   have haI:(ea:Int)<(N.sps.length:Int):=by omega
   have hbI:(eb:Int)<(N.sps.length:Int):=by omega
   have ha9:(ea:Int)<2000:=by omega
   have hb9:(eb:Int)<2000:=by omega
   have HB1:Unit→∀w1,Keep nil wr w1→_:=fun _ w1 k1=>sbranch_any N ea eb B pb po sa w1 (hNr.keep k1 (fun _ _ e=>e)) hsa (H ()).2.1 hpa h4
   have HB2:Unit→∀w1,Keep nil wr w1→_:=fun _ w1 k1=>sbranch_any N eb ea B pb po sb w1 (hNr.keep k1 (fun _ _ e=>e)) hsb (H ()).2.1 hpa h6
   have HXT:Unit→N.es[i]?=some x∧N.abs.tr x=(N.abs.branch ea eb||N.abs.branch eb ea):=fun _=>⟨hx,by unfold AN.tr;rw[h1,h2];simp⟩
   obtain⟨q1,hnl1⟩:=HC () wr htre.keep
   rw[hpa]at q1
   obtain⟨xa,xb,xw⟩:=x
   simp only at h1 h2 e0 e1 e2
   subst h1 h2
   generalize hB1:N.abs.branch ea eb=b1 at HB1 HXT
   generalize hB2:N.abs.branch eb ea=b2 at HB2 HXT
   have HTR:Unit→RV wr 30 3 a ((N.es.take i).filter N.abs.tr).length c (ecells ((N.es.take i).filter N.abs.tr)):=fun _=>(HQ ()).1.row
   have hflen:((N.es.take i).filter N.abs.tr).length≤1000:=by
    have:=List.length_filter_le N.abs.tr (N.es.take i)
    rw[List.length_take]at this
    omega
   obtain⟨fl,hfl⟩:∃fl,fl=((N.es.take i).filter N.abs.tr).length:=⟨_,rfl⟩
   have HFL:Unit→fl=((N.es.take i).filter N.abs.tr).length∧fl≤1000:=fun _=>⟨hfl,by rw[hfl];exact hflen⟩
   rw[←hfl]at HTR⊢
   rw[hga]
   clear hi hil hx htre hNr hga h3 h4 h5 h6 hsa hsb hal hbl hspl hpa hB1 hB2 q0 hnl hfl hflen
   go_wp2_with fail
   obtain⟨W3,hW3⟩:∃W3,W3=wr.alloc (Obj.cells #[.int .i64 (ea:Int),.int .i64 (eb:Int),.int .i64 xw] 30):=⟨_,rfl⟩
   have k3:Keep nil wr W3:=by rw[hW3];exact(Keep.refl nil wr).alloc _
   have hb3:Blk W3 wr.heap.size #[.int .i64 (ea:Int),.int .i64 (eb:Int),.int .i64 xw] 30:=by rw[hW3];exact Blk.new _ _ _
   rw[←hW3]
   obtain⟨yb,hyb⟩:∃yb,yb=wr.heap.size:=⟨_,rfl⟩
   rw[←hyb]at hb3⊢
   have HX:Unit→∀w',Keep nil W3.drew w'→w'.cell? ⟨nb,1,none⟩=some (.slice (some ⟨pb,po,none⟩) N.sps.length N.pc)∧w'.cell? ⟨yb,0,none⟩=some (.int .i64 (ea:Int))∧w'.cell? ⟨yb,1,none⟩=some (.int .i64 (eb:Int))∧w'.cell? ⟨yb,2,none⟩=some (.int .i64 xw)∧yb<w'.heap.size:=fun _ w' k'=>by
    have hb':=hb3.keep ((Keep.refl nil W3).drew.trans k') id
    exact⟨(((Keep.refl nil wr).trans (k3.drew.trans k')).cell nb 1 hnl1 id).trans q1,by rw[hb'.cell];rfl,by rw[hb'.cell];rfl,by rw[hb'.cell];rfl,hb'.lt⟩
   have K3:Unit→Keep nil wr W3.drew:=fun _=>k3.drew
   clear hW3 k3 hb3 hyb e0 e1 e2 hgl q1 hnl1
   cases b1 with
   |true=>
    refine wp_region_held_drew (S:=(fun w'=>w'.cell? ⟨nb,1,none⟩=some (.slice (some ⟨pb,po,none⟩) N.sps.length N.pc)∧w'.cell? ⟨yb,0,none⟩=some (.int .i64 (ea:Int))∧w'.cell? ⟨yb,1,none⟩=some (.int .i64 (eb:Int)))) (by kernel_rfl) ⟨(HX () W3.drew (Keep.refl nil _)).1,(HX () W3.drew (Keep.refl nil _)).2.1,(HX () W3.drew (Keep.refl nil _)).2.2.1⟩ (fun hHeld=>?_)
    refine wpAnyH_take (i:=0) (v:=.pointer (some ⟨nb,0,none⟩)) rfl (by kernel_rfl) (by kernel_rfl) (by kernel_rfl) (fun _ _ _ h=>h) (Or.inl ⟨by rfl,fun w' hS'=>?_⟩) hHeld ?_
    ·(try dsimp only at hS');go_simp
    try simp only[Act.put,List.getElem_toArray,List.getElem_cons_zero,List.getElem_cons_succ,List.setIfInBounds_toArray,List.set_cons_zero,List.set_cons_succ]
    refine wpAnyH_take (i:=1) (v:=.pointer (some ⟨nb,0,none⟩)) rfl (by kernel_rfl) (by kernel_rfl) (by kernel_rfl) (fun _ _ _ h=>h) (Or.inl ⟨by rfl,fun w' hS'=>?_⟩) hHeld ?_
    ·(try dsimp only at hS');go_simp
    try simp only[Act.put,List.getElem_toArray,List.getElem_cons_zero,List.getElem_cons_succ,List.setIfInBounds_toArray,List.set_cons_zero,List.set_cons_succ]
    refine wpAnyH_take (i:=2) (v:=.pointer (some ⟨nb,1,none⟩)) rfl (by kernel_rfl) (by kernel_rfl) (by kernel_rfl) (fun _ _ _ h=>h) (Or.inl ⟨by rfl,fun w' hS'=>?_⟩) hHeld ?_
    ·(try dsimp only at hS');go_simp
    try simp only[Act.put,List.getElem_toArray,List.getElem_cons_zero,List.getElem_cons_succ,List.setIfInBounds_toArray,List.set_cons_zero,List.set_cons_succ]
    refine wpAnyH_take (i:=3) (v:=.slice (some ⟨pb,po,none⟩) N.sps.length N.pc) rfl (by kernel_rfl) (by kernel_rfl) (by kernel_rfl) (fun _ _ _ h=>h) (Or.inl ⟨by rfl,fun w' hS'=>?_⟩) hHeld ?_
    ·(try dsimp only at hS');go_simp
    try simp only[Act.put,List.getElem_toArray,List.getElem_cons_zero,List.getElem_cons_succ,List.setIfInBounds_toArray,List.set_cons_zero,List.set_cons_succ]
    refine wpAnyH_take (i:=4) (v:=.pointer (some ⟨yb,0,none⟩)) rfl (by kernel_rfl) (by kernel_rfl) (by kernel_rfl) (fun _ _ _ h=>h) (Or.inl ⟨by rfl,fun w' hS'=>?_⟩) hHeld ?_
    ·(try dsimp only at hS');go_simp
    try simp only[Act.put,List.getElem_toArray,List.getElem_cons_zero,List.getElem_cons_succ,List.setIfInBounds_toArray,List.set_cons_zero,List.set_cons_succ]
    refine wpAnyH_take (i:=5) (v:=.int .i64 (ea:Int)) rfl (by kernel_rfl) (by kernel_rfl) (by kernel_rfl) (fun _ _ _ h=>h) (Or.inl ⟨by rfl,fun w' hS'=>?_⟩) hHeld ?_
    ·(try dsimp only at hS');go_simp
    try simp only[Act.put,List.getElem_toArray,List.getElem_cons_zero,List.getElem_cons_succ,List.setIfInBounds_toArray,List.set_cons_zero,List.set_cons_succ]
    refine wpAnyH_take (i:=6) (v:=.pointer (some ⟨pb,po+ea * 2,none⟩)) rfl (by kernel_rfl) (by kernel_rfl) (by kernel_rfl) (fun _ _ _ h=>h) (Or.inl ⟨by rfl,fun w' hS'=>?_⟩) hHeld ?_
    ·(try dsimp only at hS');go_simp
    try simp only[Act.put,List.getElem_toArray,List.getElem_cons_zero,List.getElem_cons_succ,List.setIfInBounds_toArray,List.set_cons_zero,List.set_cons_succ]
    refine wpAnyH_take (i:=7) (v:=.pointer (some ⟨yb,1,none⟩)) rfl (by kernel_rfl) (by kernel_rfl) (by kernel_rfl) (fun _ _ _ h=>h) (Or.inl ⟨by rfl,fun w' hS'=>?_⟩) hHeld ?_
    ·(try dsimp only at hS');go_simp
    try simp only[Act.put,List.getElem_toArray,List.getElem_cons_zero,List.getElem_cons_succ,List.setIfInBounds_toArray,List.set_cons_zero,List.set_cons_succ]
    refine wpAnyH_take (i:=8) (v:=.int .i64 (eb:Int)) rfl (by kernel_rfl) (by kernel_rfl) (by kernel_rfl) (fun _ _ _ h=>h) (Or.inl ⟨by rfl,fun w' hS'=>?_⟩) hHeld ?_
    ·(try dsimp only at hS');go_simp
    try simp only[Act.put,List.getElem_toArray,List.getElem_cons_zero,List.getElem_cons_succ,List.setIfInBounds_toArray,List.set_cons_zero,List.set_cons_succ]
    refine wpAnyH_ready (rs:=[9]) (by kernel_rfl) (by simp) (AllReadyH.cons rfl (fun K hK=>?_) AllReadyH.nil)
    go_simp
    refine(HB1 () W3.drew (K3 ())).mono ?_
    rintro r w4 ⟨rfl,hk4⟩
    refine hK.out _ _ ⟨(HX () _ hk4).1,(HX () _ hk4).2.1,(HX () _ hk4).2.2.1⟩ (fun hHeld=>?_)
    clear hK K
    try simp only[Act.put,List.getElem_toArray,List.getElem_cons_zero,List.getElem_cons_succ,List.setIfInBounds_toArray,List.set_cons_zero,List.set_cons_succ]
    refine wpAnyH_take (i:=10) (v:=.bool true) rfl (by kernel_rfl) (by kernel_rfl) (by kernel_rfl) (fun _ _ _ h=>h) (Or.inl ⟨by rfl,fun w' hS'=>?_⟩) hHeld ?_
    ·(try dsimp only at hS');go_simp
    try simp only[Act.put,List.getElem_toArray,List.getElem_cons_zero,List.getElem_cons_succ,List.setIfInBounds_toArray,List.set_cons_zero,List.set_cons_succ]
    refine wpAnyH_take (i:=11) (v:=undef) rfl (by kernel_rfl) (by kernel_rfl) (by kernel_rfl) (fun _ _ _ h=>h) (Or.inr ⟨by kernel_rfl,rfl⟩) hHeld ?_
    try simp only[Act.put,List.getElem_toArray,List.getElem_cons_zero,List.getElem_cons_succ,List.setIfInBounds_toArray,List.set_cons_zero,List.set_cons_succ]
    refine wpAnyH_take (i:=12) (v:=undef) rfl (by kernel_rfl) (by kernel_rfl) (by kernel_rfl) (fun _ _ _ h=>h) (Or.inr ⟨by kernel_rfl,rfl⟩) hHeld ?_
    try simp only[Act.put,List.getElem_toArray,List.getElem_cons_zero,List.getElem_cons_succ,List.setIfInBounds_toArray,List.set_cons_zero,List.set_cons_succ]
    refine wpAnyH_take (i:=13) (v:=undef) rfl (by kernel_rfl) (by kernel_rfl) (by kernel_rfl) (fun _ _ _ h=>h) (Or.inr ⟨by kernel_rfl,rfl⟩) hHeld ?_
    try simp only[Act.put,List.getElem_toArray,List.getElem_cons_zero,List.getElem_cons_succ,List.setIfInBounds_toArray,List.set_cons_zero,List.set_cons_succ]
    refine wpAnyH_take (i:=14) (v:=undef) rfl (by kernel_rfl) (by kernel_rfl) (by kernel_rfl) (fun _ _ _ h=>h) (Or.inr ⟨by kernel_rfl,rfl⟩) hHeld ?_
    try simp only[Act.put,List.getElem_toArray,List.getElem_cons_zero,List.getElem_cons_succ,List.setIfInBounds_toArray,List.set_cons_zero,List.set_cons_succ]
    refine wpAnyH_take (i:=15) (v:=undef) rfl (by kernel_rfl) (by kernel_rfl) (by kernel_rfl) (fun _ _ _ h=>h) (Or.inr ⟨by kernel_rfl,rfl⟩) hHeld ?_
    try simp only[Act.put,List.getElem_toArray,List.getElem_cons_zero,List.getElem_cons_succ,List.setIfInBounds_toArray,List.set_cons_zero,List.set_cons_succ]
    refine wpAnyH_take (i:=16) (v:=undef) rfl (by kernel_rfl) (by kernel_rfl) (by kernel_rfl) (fun _ _ _ h=>h) (Or.inr ⟨by kernel_rfl,rfl⟩) hHeld ?_
    try simp only[Act.put,List.getElem_toArray,List.getElem_cons_zero,List.getElem_cons_succ,List.setIfInBounds_toArray,List.set_cons_zero,List.set_cons_succ]
    refine wpAnyH_take (i:=17) (v:=undef) rfl (by kernel_rfl) (by kernel_rfl) (by kernel_rfl) (fun _ _ _ h=>h) (Or.inr ⟨by kernel_rfl,rfl⟩) hHeld ?_
    try simp only[Act.put,List.getElem_toArray,List.getElem_cons_zero,List.getElem_cons_succ,List.setIfInBounds_toArray,List.set_cons_zero,List.set_cons_succ]
    refine wpAnyH_take (i:=18) (v:=undef) rfl (by kernel_rfl) (by kernel_rfl) (by kernel_rfl) (fun _ _ _ h=>h) (Or.inr ⟨by kernel_rfl,rfl⟩) hHeld ?_
    try simp only[Act.put,List.getElem_toArray,List.getElem_cons_zero,List.getElem_cons_succ,List.setIfInBounds_toArray,List.set_cons_zero,List.set_cons_succ]
    refine wpAnyH_take (i:=19) (v:=undef) rfl (by kernel_rfl) (by kernel_rfl) (by kernel_rfl) (fun _ _ _ h=>h) (Or.inr ⟨by kernel_rfl,rfl⟩) hHeld ?_
    try simp only[Act.put,List.getElem_toArray,List.getElem_cons_zero,List.getElem_cons_succ,List.setIfInBounds_toArray,List.set_cons_zero,List.set_cons_succ]
    refine wpAnyH_take (i:=20) (v:=undef) rfl (by kernel_rfl) (by kernel_rfl) (by kernel_rfl) (fun _ _ _ h=>h) (Or.inr ⟨by kernel_rfl,rfl⟩) hHeld ?_
    try simp only[Act.put,List.getElem_toArray,List.getElem_cons_zero,List.getElem_cons_succ,List.setIfInBounds_toArray,List.set_cons_zero,List.set_cons_succ]
    refine wpAnyH_take (i:=21) (v:=.bool true) rfl (by kernel_rfl) (by kernel_rfl) (by kernel_rfl) (fun _ _ _ h=>h) (Or.inl ⟨by rfl,fun w' hS'=>?_⟩) hHeld ?_
    ·(try dsimp only at hS');go_simp
    try simp only[Act.put,List.getElem_toArray,List.getElem_cons_zero,List.getElem_cons_succ,List.setIfInBounds_toArray,List.set_cons_zero,List.set_cons_succ]
    refine wpAnyH_done (by kernel_rfl) ?_ _
    clear hHeld
    have HW:Unit→Keep nil wr w4:=fun _=>(K3 ()).trans hk4
    have y0:=(HX () w4 hk4).2.1
    have y1:=(HX () w4 hk4).2.2.1
    have y2:=(HX () w4 hk4).2.2.2.1
    have hyl4:=(HX () w4 hk4).2.2.2.2
    have HR4:Unit→RV w4 30 3 a fl c (ecells ((N.es.take i).filter N.abs.tr)):=fun _=>(HTR ()).keep (HW ()) (fun _ _ e=>e)
    clear HB1 HB2 HX HTR HC hk4
    obtain⟨ls,hls⟩:∃ls,ls=ecells ((N.es.take i).filter N.abs.tr):=⟨_,rfl⟩
    rw[←hls]at HR4
    go_wp2_with (at_builtin;refine wpList_append_rvS _ rfl (.tmp 37) (.tmp 39) 26 rfl 30 (.agg #[.int .i64 0,.int .i64 0,.int .i64 0]) 3 24 Tryz.underlying26 edge_info rfl a fl c rfl ls ((HR4 ()).alloc _) ⟨w4.heap.size,0,none⟩ 1 1 (by omega) rfl [.int .i64 (ea:Int),.int .i64 (eb:Int),.int .i64 xw] rfl (cells_elist w4 [.int .i64 (ea:Int),.int .i64 (eb:Int),.int .i64 xw] 30 _ rfl) (by intro u hu;simp at hu;rcases hu with rfl|rfl|rfl<;>rfl) (by have:=(HFL ()).2;omega) (by have:=(HFL ()).2;omega) ?_;intro a' c' w6 hb6 hd6 hk6)
    have hT:=Tre.next (HQ ()).1 ⟨(ea:Int),(eb:Int),xw⟩ (HW ()) (by rw[←(HFL ()).1,←hls];exact hb6) hd6 (((((Keep.refl nil w4).alloc _).mono (fun _ _ e=>e.elim)).trans hk6))
    have hE:(N.es.take (i+1)).filter N.abs.tr=(N.es.take i).filter N.abs.tr++[⟨(ea:Int),(eb:Int),xw⟩]:=by rw[take_succ_get (HXT ()).1,List.filter_append];simp[(HXT ()).2]
    refine⟨⟨i+1,a',c',by have:=HIL ();omega,by go_num,?_,by rw[hE];exact hT⟩,by have:=HIL ();simp[intOf];omega⟩
    rw[hE,List.length_append,←(HFL ()).1];rfl
   |false=>
    refine wp_region_quiet (C:=fun w'=>Keep nil W3.drew w') (by kernel_rfl) (by kernel_rfl) (Keep.refl nil W3.drew) ?_
    simp only[List.toList_toArray]
    refine quiet_take (.pointer (some ⟨nb,0,none⟩)) (by kernel_rfl) (fun w' hC=>?_) ?_
    ·obtain⟨q3,x0,x1,x2,hyl⟩:=HX () w' hC;go_simp
    try simp only[Act.put,List.setIfInBounds_toArray,List.set_cons_zero,List.set_cons_succ]
    refine quiet_take (.pointer (some ⟨nb,0,none⟩)) (by kernel_rfl) (fun w' hC=>?_) ?_
    ·obtain⟨q3,x0,x1,x2,hyl⟩:=HX () w' hC;go_simp
    try simp only[Act.put,List.setIfInBounds_toArray,List.set_cons_zero,List.set_cons_succ]
    refine quiet_take (.pointer (some ⟨nb,1,none⟩)) (by kernel_rfl) (fun w' hC=>?_) ?_
    ·obtain⟨q3,x0,x1,x2,hyl⟩:=HX () w' hC;go_simp
    try simp only[Act.put,List.setIfInBounds_toArray,List.set_cons_zero,List.set_cons_succ]
    refine quiet_take (.slice (some ⟨pb,po,none⟩) N.sps.length N.pc) (by kernel_rfl) (fun w' hC=>?_) ?_
    ·obtain⟨q3,x0,x1,x2,hyl⟩:=HX () w' hC;go_simp
    try simp only[Act.put,List.setIfInBounds_toArray,List.set_cons_zero,List.set_cons_succ]
    refine quiet_take (.pointer (some ⟨yb,0,none⟩)) (by kernel_rfl) (fun w' hC=>?_) ?_
    ·obtain⟨q3,x0,x1,x2,hyl⟩:=HX () w' hC;go_simp
    try simp only[Act.put,List.setIfInBounds_toArray,List.set_cons_zero,List.set_cons_succ]
    refine quiet_take (.int .i64 (ea:Int)) (by kernel_rfl) (fun w' hC=>?_) ?_
    ·obtain⟨q3,x0,x1,x2,hyl⟩:=HX () w' hC;go_simp
    try simp only[Act.put,List.setIfInBounds_toArray,List.set_cons_zero,List.set_cons_succ]
    refine quiet_take (.pointer (some ⟨pb,po+ea * 2,none⟩)) (by kernel_rfl) (fun w' hC=>?_) ?_
    ·obtain⟨q3,x0,x1,x2,hyl⟩:=HX () w' hC;go_simp
    try simp only[Act.put,List.setIfInBounds_toArray,List.set_cons_zero,List.set_cons_succ]
    refine quiet_take (.pointer (some ⟨yb,1,none⟩)) (by kernel_rfl) (fun w' hC=>?_) ?_
    ·obtain⟨q3,x0,x1,x2,hyl⟩:=HX () w' hC;go_simp
    try simp only[Act.put,List.setIfInBounds_toArray,List.set_cons_zero,List.set_cons_succ]
    refine quiet_take (.int .i64 (eb:Int)) (by kernel_rfl) (fun w' hC=>?_) ?_
    ·obtain⟨q3,x0,x1,x2,hyl⟩:=HX () w' hC;go_simp
    try simp only[Act.put,List.setIfInBounds_toArray,List.set_cons_zero,List.set_cons_succ]
    refine quiet_take (.bool false) (by kernel_rfl) (fun w' hC=>?_) ?_
    ·go_simp;refine Calls.mono (HB1 () w' ((K3 ()).trans hC)) ?_;rintro r w9 ⟨rfl,h9⟩;exact⟨rfl,hC.trans h9⟩
    try simp only[Act.put,List.setIfInBounds_toArray,List.set_cons_zero,List.set_cons_succ]
    refine quiet_take (.bool false) (by kernel_rfl) (fun w' hC=>?_) ?_
    ·obtain⟨q3,x0,x1,x2,hyl⟩:=HX () w' hC;go_simp
    try simp only[Act.put,List.setIfInBounds_toArray,List.set_cons_zero,List.set_cons_succ]
    refine quiet_take (.pointer (some ⟨nb,0,none⟩)) (by kernel_rfl) (fun w' hC=>?_) ?_
    ·obtain⟨q3,x0,x1,x2,hyl⟩:=HX () w' hC;go_simp
    try simp only[Act.put,List.setIfInBounds_toArray,List.set_cons_zero,List.set_cons_succ]
    refine quiet_take (.pointer (some ⟨nb,0,none⟩)) (by kernel_rfl) (fun w' hC=>?_) ?_
    ·obtain⟨q3,x0,x1,x2,hyl⟩:=HX () w' hC;go_simp
    try simp only[Act.put,List.setIfInBounds_toArray,List.set_cons_zero,List.set_cons_succ]
    refine quiet_take (.pointer (some ⟨nb,1,none⟩)) (by kernel_rfl) (fun w' hC=>?_) ?_
    ·obtain⟨q3,x0,x1,x2,hyl⟩:=HX () w' hC;go_simp
    try simp only[Act.put,List.setIfInBounds_toArray,List.set_cons_zero,List.set_cons_succ]
    refine quiet_take (.slice (some ⟨pb,po,none⟩) N.sps.length N.pc) (by kernel_rfl) (fun w' hC=>?_) ?_
    ·obtain⟨q3,x0,x1,x2,hyl⟩:=HX () w' hC;go_simp
    try simp only[Act.put,List.setIfInBounds_toArray,List.set_cons_zero,List.set_cons_succ]
    refine quiet_take (.pointer (some ⟨yb,1,none⟩)) (by kernel_rfl) (fun w' hC=>?_) ?_
    ·obtain⟨q3,x0,x1,x2,hyl⟩:=HX () w' hC;go_simp
    try simp only[Act.put,List.setIfInBounds_toArray,List.set_cons_zero,List.set_cons_succ]
    refine quiet_take (.int .i64 (eb:Int)) (by kernel_rfl) (fun w' hC=>?_) ?_
    ·obtain⟨q3,x0,x1,x2,hyl⟩:=HX () w' hC;go_simp
    try simp only[Act.put,List.setIfInBounds_toArray,List.set_cons_zero,List.set_cons_succ]
    refine quiet_take (.pointer (some ⟨pb,po+eb * 2,none⟩)) (by kernel_rfl) (fun w' hC=>?_) ?_
    ·obtain⟨q3,x0,x1,x2,hyl⟩:=HX () w' hC;go_simp
    try simp only[Act.put,List.setIfInBounds_toArray,List.set_cons_zero,List.set_cons_succ]
    refine quiet_take (.pointer (some ⟨yb,0,none⟩)) (by kernel_rfl) (fun w' hC=>?_) ?_
    ·obtain⟨q3,x0,x1,x2,hyl⟩:=HX () w' hC;go_simp
    try simp only[Act.put,List.setIfInBounds_toArray,List.set_cons_zero,List.set_cons_succ]
    refine quiet_take (.int .i64 (ea:Int)) (by kernel_rfl) (fun w' hC=>?_) ?_
    ·obtain⟨q3,x0,x1,x2,hyl⟩:=HX () w' hC;go_simp
    try simp only[Act.put,List.setIfInBounds_toArray,List.set_cons_zero,List.set_cons_succ]
    refine quiet_take (.bool b2) (by kernel_rfl) (fun w' hC=>?_) ?_
    ·go_simp;refine Calls.mono (HB2 () w' ((K3 ()).trans hC)) ?_;rintro r w9 ⟨rfl,h9⟩;exact⟨rfl,hC.trans h9⟩
    try simp only[Act.put,List.setIfInBounds_toArray,List.set_cons_zero,List.set_cons_succ]
    refine quiet_take (.bool b2) (by kernel_rfl) (fun w' hC=>?_) ?_
    ·obtain⟨q3,x0,x1,x2,hyl⟩:=HX () w' hC;go_simp
    try simp only[Act.put,List.setIfInBounds_toArray,List.set_cons_zero,List.set_cons_succ]
    refine wpQuiet_nil ?_
    intro w4 hk4
    cases b2 with
    |true=>
     have HW:Unit→Keep nil wr w4:=fun _=>(K3 ()).trans hk4
     have y0:=(HX () w4 hk4).2.1
     have y1:=(HX () w4 hk4).2.2.1
     have y2:=(HX () w4 hk4).2.2.2.1
     have hyl4:=(HX () w4 hk4).2.2.2.2
     have HR4:Unit→RV w4 30 3 a fl c (ecells ((N.es.take i).filter N.abs.tr)):=fun _=>(HTR ()).keep (HW ()) (fun _ _ e=>e)
     clear HB1 HB2 HX HTR HC hk4
     obtain⟨ls,hls⟩:∃ls,ls=ecells ((N.es.take i).filter N.abs.tr):=⟨_,rfl⟩
     rw[←hls]at HR4
     go_wp2_with (at_builtin;refine wpList_append_rvS _ rfl (.tmp 37) (.tmp 39) 26 rfl 30 (.agg #[.int .i64 0,.int .i64 0,.int .i64 0]) 3 24 Tryz.underlying26 edge_info rfl a fl c rfl ls ((HR4 ()).alloc _) ⟨w4.heap.size,0,none⟩ 1 1 (by omega) rfl [.int .i64 (ea:Int),.int .i64 (eb:Int),.int .i64 xw] rfl (cells_elist w4 [.int .i64 (ea:Int),.int .i64 (eb:Int),.int .i64 xw] 30 _ rfl) (by intro u hu;simp at hu;rcases hu with rfl|rfl|rfl<;>rfl) (by have:=(HFL ()).2;omega) (by have:=(HFL ()).2;omega) ?_;intro a' c' w6 hb6 hd6 hk6)
     have hT:=Tre.next (HQ ()).1 ⟨(ea:Int),(eb:Int),xw⟩ (HW ()) (by rw[←(HFL ()).1,←hls];exact hb6) hd6 (((((Keep.refl nil w4).alloc _).mono (fun _ _ e=>e.elim)).trans hk6))
     have hE:(N.es.take (i+1)).filter N.abs.tr=(N.es.take i).filter N.abs.tr++[⟨(ea:Int),(eb:Int),xw⟩]:=by rw[take_succ_get (HXT ()).1,List.filter_append];simp[(HXT ()).2]
     refine⟨⟨i+1,a',c',by have:=HIL ();omega,by go_num,?_,by rw[hE];exact hT⟩,by have:=HIL ();simp[intOf];omega⟩
     rw[hE,List.length_append,←(HFL ()).1];rfl
    |false=>
     have HW:Unit→Keep nil wr w4:=fun _=>(K3 ()).trans hk4
     clear HB1 HB2 HX HTR HC hk4
     go_wp2
     have hE:(N.es.take (i+1)).filter N.abs.tr=(N.es.take i).filter N.abs.tr:=by rw[take_succ_get (HXT ()).1,List.filter_append];simp[(HXT ()).2]
     refine⟨⟨i+1,a,c,by have:=HIL ();omega,by go_num,?_,by rw[hE];exact(HQ ()).1.keepN (HW ())⟩,by have:=HIL ();simp[intOf];omega⟩
     rw[hE,←(HFL ()).1]
  ·have HE:Unit→i=N.es.length:=fun _=>by have:=(HQ ()).2;omega
   have hiI:¬((i:Int)<(N.es.length:Int)):=by omega
   clear hi hil htre q0 hnl
   go_wp2
   go_ret
   have hT:=(HQ ()).1
   have e1:(N.es.take i).filter N.abs.tr=N.abs.tree:=by rw[HE (),List.take_length,tree_tr];rfl
   rw[e1]at hT⊢
   exact⟨a,c,rfl,hT⟩
theorem awake{R:Value→World→Prop}(nb:Nat)(k:Int)(w:World)(h:Calls Tryz.prog 31 #[.pointer (some ⟨nb,0,none⟩),.int .i64 k] w fun r w'=>∃v,r=.returned v∧R v w'):Calls Tryz.prog 15 #[.pointer (some ⟨nb,0,none⟩),.int .i64 k] w fun r w'=>∃v,r=.returned v∧R v w':=by
 have H:Unit→Calls Tryz.prog 31 #[.pointer (some ⟨nb,0,none⟩),.int .i64 k] w fun r w'=>∃v,r=.returned v∧R v w':=fun _=>h
 clear h
 go_enter Tryz.func15,Tryz.ntmps15
 go_wp2_with fail
 refine Calls.mono (H ()) ?_
 rintro r w1 ⟨v,rfl,hq⟩
 have HQ:Unit→R v w1:=fun _=>hq
 clear hq H
 go_wp2
 go_ret
 exact⟨v,rfl,HQ ()⟩
theorem adeliver{R:Value→World→Prop}(nb:Nat)(k:Int)(w:World)(h:Calls Tryz.prog 65 #[.pointer (some ⟨nb,0,none⟩),.int .i64 k] w fun r w'=>∃v,r=.returned v∧R v w'):Calls Tryz.prog 32 #[.pointer (some ⟨nb,0,none⟩),.int .i64 k] w fun r w'=>∃v,r=.returned v∧R v w':=by
 have H:Unit→Calls Tryz.prog 65 #[.pointer (some ⟨nb,0,none⟩),.int .i64 k] w fun r w'=>∃v,r=.returned v∧R v w':=fun _=>h
 clear h
 go_enter Tryz.func32,Tryz.ntmps32
 go_wp2_with fail
 refine Calls.mono (H ()) ?_
 rintro r w1 ⟨v,rfl,hq⟩
 have HQ:Unit→R v w1:=fun _=>hq
 clear hq H
 go_wp2
 go_ret
 exact⟨v,rfl,HQ ()⟩
theorem atick{R:Value→World→Prop}(nb:Nat)(k:Int)(w:World)(h:Calls Tryz.prog 66 #[.pointer (some ⟨nb,0,none⟩),.int .i64 k] w fun r w'=>∃v,r=.returned v∧R v w'):Calls Tryz.prog 33 #[.pointer (some ⟨nb,0,none⟩),.int .i64 k] w fun r w'=>∃v,r=.returned v∧R v w':=by
 have H:Unit→Calls Tryz.prog 66 #[.pointer (some ⟨nb,0,none⟩),.int .i64 k] w fun r w'=>∃v,r=.returned v∧R v w':=fun _=>h
 clear h
 go_enter Tryz.func33,Tryz.ntmps33
 go_wp2_with fail
 refine Calls.mono (H ()) ?_
 rintro r w1 ⟨v,rfl,hq⟩
 have HQ:Unit→R v w1:=fun _=>hq
 clear hq H
 go_wp2
 go_ret
 exact⟨v,rfl,HQ ()⟩
theorem apackets{R:Value→World→Prop}(nb:Nat) (w:World)(h:Calls Tryz.prog 39 #[.pointer (some ⟨nb,0,none⟩)] w fun r w'=>∃v,r=.returned v∧R v w'):Calls Tryz.prog 24 #[.pointer (some ⟨nb,0,none⟩)] w fun r w'=>∃v,r=.returned v∧R v w':=by
 have H:Unit→Calls Tryz.prog 39 #[.pointer (some ⟨nb,0,none⟩)] w fun r w'=>∃v,r=.returned v∧R v w':=fun _=>h
 clear h
 go_enter Tryz.func24,Tryz.ntmps24
 go_wp2_with fail
 refine Calls.mono (H ()) ?_
 rintro r w1 ⟨v,rfl,hq⟩
 have HQ:Unit→R v w1:=fun _=>hq
 clear hq H
 go_wp2
 go_ret
 exact⟨v,rfl,HQ ()⟩
theorem atree{R:Value→World→Prop}(nb:Nat) (w:World)(h:Calls Tryz.prog 34 #[.pointer (some ⟨nb,0,none⟩)] w fun r w'=>∃v,r=.returned v∧R v w'):Calls Tryz.prog 17 #[.pointer (some ⟨nb,0,none⟩)] w fun r w'=>∃v,r=.returned v∧R v w':=by
 have H:Unit→Calls Tryz.prog 34 #[.pointer (some ⟨nb,0,none⟩)] w fun r w'=>∃v,r=.returned v∧R v w':=fun _=>h
 clear h
 go_enter Tryz.func17,Tryz.ntmps17
 go_wp2_with fail
 refine Calls.mono (H ()) ?_
 rintro r w1 ⟨v,rfl,hq⟩
 have HQ:Unit→R v w1:=fun _=>hq
 clear hq H
 go_wp2
 go_ret
 exact⟨v,rfl,HQ ()⟩
end Go.Proofs.YtlfijfodklhplaaGreat
