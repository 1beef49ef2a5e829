import Derived.Test.YtlfijfodklhplaaGreatTn11
import Derived.Deep.RegionHeld3
set_option maxRecDepth 100000
set_option maxHeartbeats 2000000
set_option linter.unusedVariables false
set_option linter.unusedSimpArgs false
namespace Go.Proofs.YtlfijfodklhplaaGreat
open Go.RowKit
def Nod.ini(n:Nod)(fr l nm:Nat)(f:Bool):Nod:={ n with level:=l,name:=nm,state:=if f then 1 else 2,inn:=some fr,best:=none,bw:=1001}
theorem spread_same(n:Nod)(j l nm:Nat)(f:Bool):(n.spread j l nm f).edges=n.edges∧(n.spread j l nm f).sent.length=n.sent.length+1:=by
 unfold Nod.spread
 split<;>exact⟨rfl,by simp[Nod.send]⟩
theorem spreads_at(q:Nod)(fr l nm:Nat)(f:Bool)(L k:Nat)(h:k<L):q.spreads fr l nm f (L - k) k=(if k≠fr∧q.st k=1 then q.spread k l nm f else q).spreads fr l nm f (L - (k+1)) (k+1):=by
 rw[show L - k=(L - (k+1))+1 by omega,Nod.spreads]
structure Ini(w wr:World)(b:Nat)(n:Nod)(p:Np)(fr l nm:Nat)(f:Bool)(xb k:Nat)(q:Nod)(pr:Np):Prop where
 rep:NRep wr b q pr
 step:NStep w wr b p pr
 edges:q.edges=n.edges
 sent:q.sent.length≤n.sent.length+k
 rest:q.spreads fr l nm f (n.edges.length - k) k=(n.ini fr l nm f).spreads fr l nm f n.edges.length 0
 box:Blk wr xb #[.int .i64 (l:Int),.int .i64 (nm:Int),.bool f] 313
 off:¬NMine b pr xb
theorem Ini.keep{w wr w':World}{b:Nat}{n q:Nod}{p pr:Np}{fr l nm xb k:Nat}{f:Bool}(h:Ini w wr b n p fr l nm f xb k q pr)(hk:Keep nil wr w'):Ini w w' b n p fr l nm f xb k q pr:=
 ⟨h.rep.keep hk (fun _ _ e=>e),h.step.trans (NStep.of_keep b pr hk),h.edges,h.sent,h.rest,h.box.keep hk id,h.off⟩
theorem Ini.next{w wr w':World}{b:Nat}{n q:Nod}{p pr p':Np}{fr l nm xb k:Nat}{f:Bool}(h:Ini w wr b n p fr l nm f xb k q pr)(hkl:k<n.edges.length)(hc:k≠fr∧q.st k=1)(hr:NRep w' b (q.spread k l nm f) p')(hs:NStep wr w' b pr p'):Ini w w' b n p fr l nm f xb (k+1) (q.spread k l nm f) p':=by
 obtain⟨s1,s2⟩:=spread_same q k l nm f
 refine⟨hr,h.step.trans hs,by rw[s1];exact h.edges,by rw[s2];have:=h.sent;omega,?_,h.box.keep hs.keep h.off,fun e=>?_⟩
 ·have:=h.rest
  rw[spreads_at _ _ _ _ _ _ _ hkl,if_pos hc]at this
  exact this
 ·rcases hs.mine _ e with e|e
  ·exact h.off e
  ·have:=h.box.lt;omega
theorem Ini.skip{w wr:World}{b:Nat}{n q:Nod}{p pr:Np}{fr l nm xb k:Nat}{f:Bool}(h:Ini w wr b n p fr l nm f xb k q pr)(hkl:k<n.edges.length)(hc:¬(k≠fr∧q.st k=1)):Ini w wr b n p fr l nm f xb (k+1) q pr:=by
 refine⟨h.rep,h.step,h.edges,by have:=h.sent;omega,?_,h.box,h.off⟩
 have:=h.rest
 rw[spreads_at _ _ _ _ _ _ _ hkl,if_neg hc]at this
 exact this
theorem initiate_any(b:Nat)(n:Nod)(p:Np)(fr l nm:Nat)(f:Bool)(w:World)(h:NRep w b n p)(hr:NRise n)(hl:(n.sent.length:Int)<990000000000):
 Calls Tryz.prog 200 #[.pointer (some ⟨b,0,none⟩),.int .i64 (fr:Int),.agg #[.int .i64 (l:Int),.int .i64 (nm:Int),.bool f]] w fun r w'=>r=.returned (.tuple #[])∧∃p',NRep w' b (n.initiate fr l nm f) p'∧NStep w w' b p p':=by
 have HBL:Unit→∀k,NMine b p k→k<w.heap.size:=fun _=>h.lt
 have hblw:=h.blk.lt
 have H:Unit→NRep w b n p∧NRise n∧(n.sent.length:Int)<990000000000:=fun _=>⟨h,hr,hl⟩
 clear h hr hl
 go_enter Tryz.func200,Tryz.ntmps200
 go_wp2_with fail
 obtain⟨W1,hW1⟩:∃W1,W1=w.alloc (.cells #[.int .i64 (l:Int),.int .i64 (nm:Int),.bool f] 313):=⟨_,rfl⟩
 obtain⟨xb,hxb⟩:∃xb,xb=w.heap.size:=⟨_,rfl⟩
 have hb1:Blk W1 xb #[.int .i64 (l:Int),.int .i64 (nm:Int),.bool f] 313:=by rw[hW1,hxb];exact Blk.new _ _ _
 have hk1:Keep nil w W1:=by rw[hW1];exact(Keep.refl nil w).alloc _
 have hne:¬b=xb:=by omega
 have hne2:¬xb=b:=by omega
 have hr1:=(H ()).1.keep hk1 (fun _ _ e=>e)
 have f0:=hr1.blk.frozen 0
 have f1:=hr1.blk.frozen 1
 have f2:=hr1.blk.frozen 2
 have f4:=hr1.blk.frozen 4
 have f5:=hr1.blk.frozen 5
 have f6:=hr1.blk.frozen 6
 obtain⟨c0,c1,c2,-,c4,c5,c6,-⟩:=hr1.cells
 have x0:=hb1.cell 0
 have x1:=hb1.cell 1
 have x2:=hb1.cell 2
 simp at x0 x1 x2
 have hbl1:=hr1.blk.lt
 have hxl1:=hb1.lt
 rw[←hW1,←hxb]
 have H1:Unit→Blk W1 xb #[.int .i64 (l:Int),.int .i64 (nm:Int),.bool f] 313∧Keep nil w W1∧NRep W1 b n p∧xb=w.heap.size:=fun _=>⟨hb1,hk1,hr1,hxb⟩
 clear hW1 hb1 hk1 hr1 hxb
 generalize n.state=ns at *
 generalize n.level=nl at *
 generalize n.name=nn at *
 generalize oi n.inn=ni at *
 generalize oi n.best=nb at *
 generalize n.bw=nw at *
 go_region_held3 (fun w'=>w'.cell? ⟨xb,0,none⟩=some (.int .i64 (l:Int))∧w'.cell? ⟨xb,1,none⟩=some (.int .i64 (nm:Int))) (go_keep) (fail)
 have h1:=(H1 ()).2.2.1.set (n':={ n with level:=l}) 1 (.int .i64 (l:Int)) (by simp[ncells]) rfl rfl rfl
 have h2:=h1.1.set (n':={ n with level:=l,name:=nm}) 2 (.int .i64 (nm:Int)) (by simp[ncells]) rfl rfl rfl
 have h3:=h2.1.set (n':={ n with level:=l,name:=nm,state:=2}) 0 (.int .i64 2) (by simp[ncells]) rfl rfl rfl
 have h4:=(h1.2.trans h2.2).trans h3.2
 obtain⟨W2,hW2⟩:∃W2,W2=(((W1.setCell ⟨b,1,none⟩ (.int .i64 (l:Int))).setCell ⟨b,2,none⟩ (.int .i64 (nm:Int))).setCell ⟨b,0,none⟩ (.int .i64 2)):=⟨_,rfl⟩
 rw[←hW2]at h3 h4⊢
 have hk2:Keep nil W2 W2.drew:=(Keep.refl nil W2).drew
 obtain⟨W3,hW3⟩:∃W3,W3=W2.drew:=⟨_,rfl⟩
 rw[←hW3]at hk2⊢
 have hr3:=h3.1.keep hk2 (fun _ _ e=>e)
 have hs3:=((NStep.of_keep b p (H1 ()).2.1).trans h4).trans (NStep.of_keep b p hk2)
 have hx3:Blk W3 xb #[.int .i64 (l:Int),.int .i64 (nm:Int),.bool f] 313:=((H1 ()).1.keep h4.keep (fun e=>by have:=HBL () _ e;have:=(H1 ()).2.2.2;omega)).keep hk2 id
 clear h1 h2 h3 h4 hW2 hk2 hW3 c0 c1 c2 c4 c5 c6 x0 x1 x2 f0 f1 f2 f4 f5 f6 hbl1 hxl1
 have h5:=hr3.set (n':={ n with level:=l,name:=nm,state:=2,inn:=some fr}) 4 (.int .i64 (fr:Int)) (by simp[ncells,oi]) rfl rfl rfl
 have h6:=h5.1.set (n':={ n with level:=l,name:=nm,state:=2,inn:=some fr,best:=none}) 5 (.int .i64 (-1)) (by simp[ncells,oi]) rfl rfl rfl
 have h7:=h6.1.set (n':={ n with level:=l,name:=nm,state:=2,inn:=some fr,best:=none,bw:=1001}) 6 (.int .i64 1001) (by simp[ncells]) rfl rfl rfl
 have h8:=(h5.2.trans h6.2).trans h7.2
 have f0:=hr3.blk.frozen 0
 have f4:=hr3.blk.frozen 4
 have f5:=hr3.blk.frozen 5
 have f6:=hr3.blk.frozen 6
 obtain⟨c0,-,-,c3,c4,c5,c6,-⟩:=hr3.cells
 have x2:=hx3.cell 2
 simp at x2
 have hxl3:=hx3.lt
 have hbl3:=hr3.blk.lt
 have H3:Unit→NRep W3 b { n with level:=l,name:=nm,state:=2} p∧NStep w W3 b p p∧Blk W3 xb #[.int .i64 (l:Int),.int .i64 (nm:Int),.bool f] 313:=fun _=>⟨hr3,hs3,hx3⟩
 have H7:Unit→NRep (((W3.setCell ⟨b,4,none⟩ (.int .i64 (fr:Int))).setCell ⟨b,5,none⟩ (.int .i64 (-1))).setCell ⟨b,6,none⟩ (.int .i64 1001)) b { n with level:=l,name:=nm,state:=2,inn:=some fr,best:=none,bw:=1001} p∧NStep W3 (((W3.setCell ⟨b,4,none⟩ (.int .i64 (fr:Int))).setCell ⟨b,5,none⟩ (.int .i64 (-1))).setCell ⟨b,6,none⟩ (.int .i64 1001)) b p p:=fun _=>⟨h7.1,h8⟩
 clear h5 h6 h7 h8 hr3 hs3 hx3
 simp only at c0 c3 c4 c5 c6
 generalize oi n.inn=ni at *
 generalize oi n.best=nb at *
 generalize n.bw=nw at *
 cases f with
 |true=>
  have h9:=(H7 ()).1.set (n':=n.ini fr l nm true) 0 (.int .i64 1) (by simp[ncells,Nod.ini]) rfl rfl rfl
  obtain⟨W8,hW8⟩:∃W8,W8=(((W3.setCell ⟨b,4,none⟩ (.int .i64 (fr:Int))).setCell ⟨b,5,none⟩ (.int .i64 (-1))).setCell ⟨b,6,none⟩ (.int .i64 1001)).setCell ⟨b,0,none⟩ (.int .i64 1):=⟨_,rfl⟩
  rw[←hW8]at h9
  have h10:=(H7 ()).2.trans h9.2
  have HI0:Unit→Ini w W8 b n p fr l nm true xb 0 (n.ini fr l nm true) p:=fun _=>⟨h9.1,(H3 ()).2.1.trans h10,rfl,by simp[Nod.ini],rfl,(H3 ()).2.2.keep h10.keep (fun e=>by have:=HBL () _ e;have:=(H1 ()).2.2.2;omega),fun e=>by have:=HBL () _ e;have:=(H1 ()).2.2.2;omega⟩
  have HF:Unit→(n.edges.length:Int)<1000:=fun _=>(H ()).2.1.few
  go_wp2_with fail
  rw[←hW8]
  clear hW8 h9 h10 H7 H3 c0 c3 c4 c5 c6 f0 f4 f5 f6 x2 hxl3 hbl3
  go_loopw [40] (fun v wr=>∃(k:Nat) (q:Nod) (pr:Np),k≤n.edges.length∧v=.int .i64 (k:Int)∧Ini w wr b n p fr l nm true xb k q pr) (fun v _=>n.edges.length - (intOf v).toNat)
  case atStart=>exact⟨0,_,p,by omega,rfl,HI0 ()⟩
  case round=>
   obtain⟨k,q,pr,hk,rfl,hini⟩:=hrel
   have HQ:Unit→Ini w wr b n p fr l nm true xb k q pr∧k≤n.edges.length:=fun _=>⟨hini,hk⟩
   have hbr:=hini.rep.blk.lt
   clear hini
   by_cases hkl:k<n.edges.length
   ·have HKL:Unit→k<n.edges.length:=fun _=>hkl
    have hkI:(k:Int)<(n.edges.length:Int):=by omega
    obtain⟨e,he⟩:∃e,q.edges[k]?=some e:=⟨_,List.getElem?_eq_getElem (by rw[(HQ ()).1.edges];exact hkl)⟩
    have hst:q.st k=e.2:=by unfold Nod.st;rw[he]
    have HST:Unit→q.st k=e.2:=fun _=>hst
    have HB:Unit→_:=fun _=>isBranch_any b q pr k e wr (HQ ()).1.rep he (by rw[(HQ ()).1.edges];have:=HF ();omega)
    have hk9:(k:Int)<1000:=by have:=HF ();omega
    clear he hst hkl hk
    by_cases hfr:k=fr
    ·subst hfr
     clear HB
     have HP:Unit→Ini w wr b n p k l nm true xb (k+1) q pr:=fun _=>(HQ ()).1.skip (HKL ()) (fun e=>e.1 rfl)
     go_wp2
     exact⟨⟨k+1,q,pr,by have:=HKL ();omega,by go_num,HP ()⟩,by have:=HKL ();simp[intOf];omega⟩
    ·have hfr2:((k:Int)==(fr:Int))=false:=by rw[beq_eq_false_iff_ne];omega
     have hfr3:¬(k:Int)=(fr:Int):=by omega
     have HFR:Unit→k≠fr:=fun _=>hfr
     clear hfr
     go_wp2_with fail
     refine Calls.mono (HB ()) ?_
     rintro r w2 ⟨rfl,hk2⟩
     have HQ2:Unit→Ini w w2 b n p fr l nm true xb k q pr:=fun _=>(HQ ()).1.keep hk2
     have x0:=(HQ2 ()).box.cell 0
     have x1:=(HQ2 ()).box.cell 1
     have x2:=(HQ2 ()).box.cell 2
     simp at x0 x1 x2
     have hxl:=(HQ2 ()).box.lt
     clear hk2 HB
     by_cases h1:e.2=1
     ·have hd:decide (e.2=1)=true:=decide_eq_true h1
      rw[hd]
      have HS:Unit→_:=fun _=>spread_any b q pr k l nm true w2 (HQ2 ()).rep (by have:=(HQ2 ()).sent;have:=(H ()).2.2;have:=HF ();have:=HKL ();omega)
      go_wp2_with fail
      refine Calls.mono (HS ()) ?_
      rintro r w3 ⟨rfl,p3,hr3,hs3⟩
      have HP:Unit→Ini w w3 b n p fr l nm true xb (k+1) (q.spread k l nm true) p3:=fun _=>(HQ2 ()).next (HKL ()) ⟨HFR (),by rw[HST ()];exact h1⟩ hr3 hs3
      clear hr3 hs3 HS x0 x1 x2
      go_wp2
      exact⟨⟨k+1,_,p3,by have:=HKL ();omega,by go_num,HP ()⟩,by have:=HKL ();simp[intOf];omega⟩
     ·have hd:decide (e.2=1)=false:=decide_eq_false h1
      rw[hd]
      have HP:Unit→Ini w w2 b n p fr l nm true xb (k+1) q pr:=fun _=>(HQ2 ()).skip (HKL ()) (fun e=>h1 (by rw[←HST ()];exact e.2))
      clear x0 x1 x2
      go_wp2
      exact⟨⟨k+1,q,pr,by have:=HKL ();omega,by go_num,HP ()⟩,by have:=HKL ();simp[intOf];omega⟩
   ·have ek:k=n.edges.length:=by omega
    subst ek
    have x2:=(HQ ()).1.box.cell 2
    simp at x2
    have hxl:=(HQ ()).1.box.lt
    have HN:Unit→q=(n.ini fr l nm true).spreads fr l nm true n.edges.length 0:=fun _=>by have:=(HQ ()).1.rest;rw[Nat.sub_self,Nod.spreads]at this;exact this
    clear hkl hk
    have HT:Unit→_:=fun _=>tests_any b q pr wr (HQ ()).1.rep ((H ()).2.1.of (HQ ()).1.edges) (by have:=(HQ ()).1.sent;have:=(H ()).2.2;have:=HF ();omega)
    go_wp2_with fail
    refine Calls.mono (HT ()) ?_
    rintro r w3 ⟨rfl,p3,hr3,hs3⟩
    have HP:Unit→∃p',NRep w3 b (n.initiate fr l nm true) p'∧NStep w w3 b p p':=fun _=>⟨p3,by rw[HN ()]at hr3;exact hr3,(HQ ()).1.step.trans hs3⟩
    clear hr3 hs3 HT x2
    go_wp2
    go_end0
    exact⟨rfl,HP ()⟩
 |false=>
  have h9:=H7 ()
  obtain⟨W8,hW8⟩:∃W8,W8=((W3.setCell ⟨b,4,none⟩ (.int .i64 (fr:Int))).setCell ⟨b,5,none⟩ (.int .i64 (-1))).setCell ⟨b,6,none⟩ (.int .i64 1001):=⟨_,rfl⟩
  rw[←hW8]at h9
  have h10:=h9.2
  have HI0:Unit→Ini w W8 b n p fr l nm false xb 0 (n.ini fr l nm false) p:=fun _=>⟨h9.1,(H3 ()).2.1.trans h10,rfl,by simp[Nod.ini],rfl,(H3 ()).2.2.keep h10.keep (fun e=>by have:=HBL () _ e;have:=(H1 ()).2.2.2;omega),fun e=>by have:=HBL () _ e;have:=(H1 ()).2.2.2;omega⟩
  have HF:Unit→(n.edges.length:Int)<1000:=fun _=>(H ()).2.1.few
  go_wp2_with fail
  rw[←hW8]
  clear hW8 h9 h10 H7 H3 c0 c3 c4 c5 c6 f0 f4 f5 f6 x2 hxl3 hbl3
  go_loopw [40] (fun v wr=>∃(k:Nat) (q:Nod) (pr:Np),k≤n.edges.length∧v=.int .i64 (k:Int)∧Ini w wr b n p fr l nm false xb k q pr) (fun v _=>n.edges.length - (intOf v).toNat)
  case atStart=>exact⟨0,_,p,by omega,rfl,HI0 ()⟩
  case round=>
   obtain⟨k,q,pr,hk,rfl,hini⟩:=hrel
   have HQ:Unit→Ini w wr b n p fr l nm false xb k q pr∧k≤n.edges.length:=fun _=>⟨hini,hk⟩
   have hbr:=hini.rep.blk.lt
   clear hini
   by_cases hkl:k<n.edges.length
   ·have HKL:Unit→k<n.edges.length:=fun _=>hkl
    have hkI:(k:Int)<(n.edges.length:Int):=by omega
    obtain⟨e,he⟩:∃e,q.edges[k]?=some e:=⟨_,List.getElem?_eq_getElem (by rw[(HQ ()).1.edges];exact hkl)⟩
    have hst:q.st k=e.2:=by unfold Nod.st;rw[he]
    have HST:Unit→q.st k=e.2:=fun _=>hst
    have HB:Unit→_:=fun _=>isBranch_any b q pr k e wr (HQ ()).1.rep he (by rw[(HQ ()).1.edges];have:=HF ();omega)
    have hk9:(k:Int)<1000:=by have:=HF ();omega
    clear he hst hkl hk
    by_cases hfr:k=fr
    ·subst hfr
     clear HB
     have HP:Unit→Ini w wr b n p k l nm false xb (k+1) q pr:=fun _=>(HQ ()).1.skip (HKL ()) (fun e=>e.1 rfl)
     go_wp2
     exact⟨⟨k+1,q,pr,by have:=HKL ();omega,by go_num,HP ()⟩,by have:=HKL ();simp[intOf];omega⟩
    ·have hfr2:((k:Int)==(fr:Int))=false:=by rw[beq_eq_false_iff_ne];omega
     have hfr3:¬(k:Int)=(fr:Int):=by omega
     have HFR:Unit→k≠fr:=fun _=>hfr
     clear hfr
     go_wp2_with fail
     refine Calls.mono (HB ()) ?_
     rintro r w2 ⟨rfl,hk2⟩
     have HQ2:Unit→Ini w w2 b n p fr l nm false xb k q pr:=fun _=>(HQ ()).1.keep hk2
     have x0:=(HQ2 ()).box.cell 0
     have x1:=(HQ2 ()).box.cell 1
     have x2:=(HQ2 ()).box.cell 2
     simp at x0 x1 x2
     have hxl:=(HQ2 ()).box.lt
     clear hk2 HB
     by_cases h1:e.2=1
     ·have hd:decide (e.2=1)=true:=decide_eq_true h1
      rw[hd]
      have HS:Unit→_:=fun _=>spread_any b q pr k l nm false w2 (HQ2 ()).rep (by have:=(HQ2 ()).sent;have:=(H ()).2.2;have:=HF ();have:=HKL ();omega)
      go_wp2_with fail
      refine Calls.mono (HS ()) ?_
      rintro r w3 ⟨rfl,p3,hr3,hs3⟩
      have HP:Unit→Ini w w3 b n p fr l nm false xb (k+1) (q.spread k l nm false) p3:=fun _=>(HQ2 ()).next (HKL ()) ⟨HFR (),by rw[HST ()];exact h1⟩ hr3 hs3
      clear hr3 hs3 HS x0 x1 x2
      go_wp2
      exact⟨⟨k+1,_,p3,by have:=HKL ();omega,by go_num,HP ()⟩,by have:=HKL ();simp[intOf];omega⟩
     ·have hd:decide (e.2=1)=false:=decide_eq_false h1
      rw[hd]
      have HP:Unit→Ini w w2 b n p fr l nm false xb (k+1) q pr:=fun _=>(HQ2 ()).skip (HKL ()) (fun e=>h1 (by rw[←HST ()];exact e.2))
      clear x0 x1 x2
      go_wp2
      exact⟨⟨k+1,q,pr,by have:=HKL ();omega,by go_num,HP ()⟩,by have:=HKL ();simp[intOf];omega⟩
   ·have ek:k=n.edges.length:=by omega
    subst ek
    have x2:=(HQ ()).1.box.cell 2
    simp at x2
    have hxl:=(HQ ()).1.box.lt
    have HN:Unit→q=(n.ini fr l nm false).spreads fr l nm false n.edges.length 0:=fun _=>by have:=(HQ ()).1.rest;rw[Nat.sub_self,Nod.spreads]at this;exact this
    clear hkl hk
    have HP:Unit→∃p',NRep wr b (n.initiate fr l nm false) p'∧NStep w wr b p p':=fun _=>⟨pr,by have:=(HQ ()).1.rep;rw[HN ()]at this;exact this,(HQ ()).1.step⟩
    go_wp2
    go_end0
    exact⟨rfl,HP ()⟩
structure NOk(n:Nod):Prop where
 rise:NRise n
 best:∀i,n.best=some i→i<n.edges.length
 level:(n.level:Int)<1000
 sent:(n.sent.length:Int)<990000000000
theorem ta_yes{P:Program}{t xT:TypeId}{fs:_}(hu:P.underlying t=some (.struct fs))(v:Value)(w:World):(Instr.typeAssert (.iface t v) xT t true).run P w=.ok (.tuple #[v,.bool true]) w:=by
 simp[Instr.typeAssert,run_underlying hu]
theorem ta_no{P:Program}{t s xT:TypeId}{fs:_}{z:Value}(hu:P.underlying s=some (.struct fs))(ht:(t==s)=false)(hz:(P.info? s).map (·.zero)=some (some z))(v:Value)(w:World):(Instr.typeAssert (.iface t v) xT s true).run P w=.ok (.tuple #[z,.bool false]) w:=by
 obtain⟨j,hj,hz'⟩:=Option.map_eq_some_iff.1 hz
 have ht':t≠s:=by simpa using ht
 simp[Instr.typeAssert,run_underlying hu,ht',zeroValue,typeInfo,hj,hz']
theorem is_connect(v:Value)(xT:TypeId)(w:World):(Instr.typeAssert (.iface 193 v) xT 193 true).run Tryz.prog w=.ok (.tuple #[v,.bool true]) w:=ta_yes Tryz.underlying193 v w
theorem no_connect(t:TypeId)(ht:(t==193)=false)(v:Value)(xT:TypeId)(w:World):(Instr.typeAssert (.iface t v) xT 193 true).run Tryz.prog w=.ok (.tuple #[.agg #[.int .i64 0],.bool false]) w:=ta_no Tryz.underlying193 ht (by kernel_rfl) v w
theorem is_initiate(v:Value)(xT:TypeId)(w:World):(Instr.typeAssert (.iface 313 v) xT 313 true).run Tryz.prog w=.ok (.tuple #[v,.bool true]) w:=ta_yes Tryz.underlying313 v w
theorem no_initiate(t:TypeId)(ht:(t==313)=false)(v:Value)(xT:TypeId)(w:World):(Instr.typeAssert (.iface t v) xT 313 true).run Tryz.prog w=.ok (.tuple #[.agg #[.int .i64 0,.int .i64 0,.bool false],.bool false]) w:=ta_no Tryz.underlying313 ht (by kernel_rfl) v w
theorem is_test(v:Value)(xT:TypeId)(w:World):(Instr.typeAssert (.iface 315 v) xT 315 true).run Tryz.prog w=.ok (.tuple #[v,.bool true]) w:=ta_yes Tryz.underlying315 v w
theorem no_test(t:TypeId)(ht:(t==315)=false)(v:Value)(xT:TypeId)(w:World):(Instr.typeAssert (.iface t v) xT 315 true).run Tryz.prog w=.ok (.tuple #[.agg #[.int .i64 0,.int .i64 0],.bool false]) w:=ta_no Tryz.underlying315 ht (by kernel_rfl) v w
theorem is_accept(v:Value)(xT:TypeId)(w:World):(Instr.typeAssert (.iface 316 v) xT 316 true).run Tryz.prog w=.ok (.tuple #[v,.bool true]) w:=ta_yes Tryz.underlying316 v w
theorem no_accept(t:TypeId)(ht:(t==316)=false)(v:Value)(xT:TypeId)(w:World):(Instr.typeAssert (.iface t v) xT 316 true).run Tryz.prog w=.ok (.tuple #[.agg #[],.bool false]) w:=ta_no Tryz.underlying316 ht (by kernel_rfl) v w
theorem is_reject(v:Value)(xT:TypeId)(w:World):(Instr.typeAssert (.iface 317 v) xT 317 true).run Tryz.prog w=.ok (.tuple #[v,.bool true]) w:=ta_yes Tryz.underlying317 v w
theorem no_reject(t:TypeId)(ht:(t==317)=false)(v:Value)(xT:TypeId)(w:World):(Instr.typeAssert (.iface t v) xT 317 true).run Tryz.prog w=.ok (.tuple #[.agg #[],.bool false]) w:=ta_no Tryz.underlying317 ht (by kernel_rfl) v w
theorem is_report(v:Value)(xT:TypeId)(w:World):(Instr.typeAssert (.iface 319 v) xT 319 true).run Tryz.prog w=.ok (.tuple #[v,.bool true]) w:=ta_yes Tryz.underlying319 v w
theorem no_report(t:TypeId)(ht:(t==319)=false)(v:Value)(xT:TypeId)(w:World):(Instr.typeAssert (.iface t v) xT 319 true).run Tryz.prog w=.ok (.tuple #[.agg #[.int .i64 0],.bool false]) w:=ta_no Tryz.underlying319 ht (by kernel_rfl) v w
theorem is_root(v:Value)(xT:TypeId)(w:World):(Instr.typeAssert (.iface 321 v) xT 321 true).run Tryz.prog w=.ok (.tuple #[v,.bool true]) w:=ta_yes Tryz.underlying321 v w
theorem act_connect(b:Nat)(n:Nod)(p:Np)(j:Nat)(l:Nat)(w:World)(h:NRep w b n p)(ho:NOk n)(hj:j<n.edges.length):
 Calls Tryz.prog 173 #[.pointer (some ⟨b,0,none⟩),.agg #[.int .i64 (j:Int),(NMsg.connect l:NMsg).val]] w fun r w'=>r=.returned (.bool (n.act j (.connect l)).2)∧∃p',NRep w' b (n.act j (.connect l)).1 p'∧NStep w w' b p p':=by
 have HC:Unit→∀w1,Keep nil w w1→_:=fun _ w1 k1=>nconnect_any b n p j l w1 (h.keep k1 (fun _ _ e=>e)) ho.rise hj ho.level (by have:=ho.sent;omega)
 have hblw:=h.blk.lt
 simp only[NMsg.val]
 have ta_connect:=is_connect
 clear h ho hj
 go_enter Tryz.func173,Tryz.ntmps173
 go_wp2_with fail
 refine Calls.mono (HC () _ (((Keep.refl nil w).alloc _).alloc _)) ?_
 rintro r w3 ⟨rfl,p3,hr3,hs3⟩
 have HP:Unit→∃p',NRep w3 b (n.act j (.connect l)).1 p'∧NStep w w3 b p p':=fun _=>⟨p3,hr3,(NStep.of_keep b p (((Keep.refl nil w).alloc _).alloc _)).trans hs3⟩
 clear hr3 hs3 HC
 go_wp2
 go_ret
 exact⟨rfl,HP ()⟩
theorem act_initiate(b:Nat)(n:Nod)(p:Np)(j:Nat)(l nm:Nat)(f:Bool)(w:World)(h:NRep w b n p)(ho:NOk n)(hj:j<n.edges.length):
 Calls Tryz.prog 173 #[.pointer (some ⟨b,0,none⟩),.agg #[.int .i64 (j:Int),(NMsg.initiate l nm f:NMsg).val]] w fun r w'=>r=.returned (.bool (n.act j (.initiate l nm f)).2)∧∃p',NRep w' b (n.act j (.initiate l nm f)).1 p'∧NStep w w' b p p':=by
 have HC:Unit→∀w1,Keep nil w w1→_:=fun _ w1 k1=>initiate_any b n p j l nm f w1 (h.keep k1 (fun _ _ e=>e)) ho.rise ho.sent
 have hblw:=h.blk.lt
 simp only[NMsg.val]
 have ta_connect:=no_connect 313 (by rfl)
 have ta_initiate:=is_initiate
 clear h ho hj
 go_enter Tryz.func173,Tryz.ntmps173
 go_wp2_with fail
 refine Calls.mono (HC () _ (((Keep.refl nil w).alloc _).alloc _)) ?_
 rintro r w3 ⟨rfl,p3,hr3,hs3⟩
 have HP:Unit→∃p',NRep w3 b (n.act j (.initiate l nm f)).1 p'∧NStep w w3 b p p':=fun _=>⟨p3,hr3,(NStep.of_keep b p (((Keep.refl nil w).alloc _).alloc _)).trans hs3⟩
 clear hr3 hs3 HC
 go_wp2
 go_ret
 exact⟨rfl,HP ()⟩
theorem act_test(b:Nat)(n:Nod)(p:Np)(j:Nat)(l nm:Nat)(w:World)(h:NRep w b n p)(ho:NOk n)(hj:j<n.edges.length):
 Calls Tryz.prog 173 #[.pointer (some ⟨b,0,none⟩),.agg #[.int .i64 (j:Int),(NMsg.test l nm:NMsg).val]] w fun r w'=>r=.returned (.bool (n.act j (.test l nm)).2)∧∃p',NRep w' b (n.act j (.test l nm)).1 p'∧NStep w w' b p p':=by
 have HC:Unit→∀w1,Keep nil w w1→_:=fun _ w1 k1=>ntest_any b n p j l nm w1 (h.keep k1 (fun _ _ e=>e)) ho.rise hj (by have:=ho.sent;omega)
 have hblw:=h.blk.lt
 simp only[NMsg.val]
 have ta_connect:=no_connect 315 (by rfl)
 have ta_initiate:=no_initiate 315 (by rfl)
 have ta_test:=is_test
 clear h ho hj
 go_enter Tryz.func173,Tryz.ntmps173
 go_wp2_with fail
 refine Calls.mono (HC () _ (((Keep.refl nil w).alloc _).alloc _)) ?_
 rintro r w3 ⟨rfl,p3,hr3,hs3⟩
 have HP:Unit→∃p',NRep w3 b (n.act j (.test l nm)).1 p'∧NStep w w3 b p p':=fun _=>⟨p3,hr3,(NStep.of_keep b p (((Keep.refl nil w).alloc _).alloc _)).trans hs3⟩
 clear hr3 hs3 HC
 go_wp2
 go_ret
 exact⟨rfl,HP ()⟩
theorem act_accept(b:Nat)(n:Nod)(p:Np)(j:Nat) (w:World)(h:NRep w b n p)(ho:NOk n)(hj:j<n.edges.length):
 Calls Tryz.prog 173 #[.pointer (some ⟨b,0,none⟩),.agg #[.int .i64 (j:Int),(NMsg.accept:NMsg).val]] w fun r w'=>r=.returned (.bool (n.act j .accept).2)∧∃p',NRep w' b (n.act j .accept).1 p'∧NStep w w' b p p':=by
 have HC:Unit→∀w1,Keep nil w w1→_:=fun _ w1 k1=>accept_any b n p j w1 (h.keep k1 (fun _ _ e=>e)) ho.rise.few hj (by have:=ho.sent;omega)
 have hblw:=h.blk.lt
 simp only[NMsg.val]
 have ta_connect:=no_connect 316 (by rfl)
 have ta_initiate:=no_initiate 316 (by rfl)
 have ta_test:=no_test 316 (by rfl)
 have ta_accept:=is_accept
 clear h ho hj
 go_enter Tryz.func173,Tryz.ntmps173
 go_wp2_with fail
 refine Calls.mono (HC () _ (((Keep.refl nil w).alloc _).alloc _)) ?_
 rintro r w3 ⟨rfl,p3,hr3,hs3⟩
 have HP:Unit→∃p',NRep w3 b (n.act j .accept).1 p'∧NStep w w3 b p p':=fun _=>⟨p3,hr3,(NStep.of_keep b p (((Keep.refl nil w).alloc _).alloc _)).trans hs3⟩
 clear hr3 hs3 HC
 go_wp2
 go_ret
 exact⟨rfl,HP ()⟩
theorem act_reject(b:Nat)(n:Nod)(p:Np)(j:Nat) (w:World)(h:NRep w b n p)(ho:NOk n)(hj:j<n.edges.length):
 Calls Tryz.prog 173 #[.pointer (some ⟨b,0,none⟩),.agg #[.int .i64 (j:Int),(NMsg.reject:NMsg).val]] w fun r w'=>r=.returned (.bool (n.act j .reject).2)∧∃p',NRep w' b (n.act j .reject).1 p'∧NStep w w' b p p':=by
 have HC:Unit→∀w1,Keep nil w w1→_:=fun _ w1 k1=>nreject_any b n p j w1 (h.keep k1 (fun _ _ e=>e)) hj ho.rise.few
 have HT:Unit→∀w2 p2,NRep w2 b (n.reject j) p2→_:=fun _ w2 p2 h2=>tests_any b (n.reject j) p2 w2 h2 ((reject_same n j).2.2.2 ho.rise) (by rw[(reject_same n j).2.1];have:=ho.sent;omega)
 have hblw:=h.blk.lt
 simp only[NMsg.val]
 have ta_connect:=no_connect 317 (by rfl)
 have ta_initiate:=no_initiate 317 (by rfl)
 have ta_test:=no_test 317 (by rfl)
 have ta_accept:=no_accept 317 (by rfl)
 have ta_reject:=is_reject
 clear h ho hj
 go_enter Tryz.func173,Tryz.ntmps173
 go_wp2_with fail
 refine Calls.mono (HC () _ (((Keep.refl nil w).alloc _).alloc _)) ?_
 rintro r w2 ⟨rfl,hr2,hs2⟩
 have H2:Unit→NRep w2 b (n.reject j) p∧NStep w w2 b p p:=fun _=>⟨hr2,(NStep.of_keep b p (((Keep.refl nil w).alloc _).alloc _)).trans hs2⟩
 clear hr2 hs2 HC
 go_wp2_with fail
 refine Calls.mono (HT () _ _ (H2 ()).1) ?_
 rintro r w3 ⟨rfl,p3,hr3,hs3⟩
 have HP:Unit→∃p',NRep w3 b (n.act j .reject).1 p'∧NStep w w3 b p p':=fun _=>⟨p3,hr3,(H2 ()).2.trans hs3⟩
 clear hr3 hs3 HT
 go_wp2
 go_ret
 exact⟨rfl,HP ()⟩
theorem act_report(b:Nat)(n:Nod)(p:Np)(j:Nat)(x:Nat)(w:World)(h:NRep w b n p)(ho:NOk n)(hj:j<n.edges.length):
 Calls Tryz.prog 173 #[.pointer (some ⟨b,0,none⟩),.agg #[.int .i64 (j:Int),(NMsg.report x:NMsg).val]] w fun r w'=>r=.returned (.bool (n.act j (.report x)).2)∧∃p',NRep w' b (n.act j (.report x)).1 p'∧NStep w w' b p p':=by
 have HC:Unit→∀w1,Keep nil w w1→_:=fun _ w1 k1=>report_any b n p j x w1 (h.keep k1 (fun _ _ e=>e)) ho.rise.few ho.best (by have:=ho.sent;omega)
 have hblw:=h.blk.lt
 simp only[NMsg.val]
 have ta_connect:=no_connect 319 (by rfl)
 have ta_initiate:=no_initiate 319 (by rfl)
 have ta_test:=no_test 319 (by rfl)
 have ta_accept:=no_accept 319 (by rfl)
 have ta_reject:=no_reject 319 (by rfl)
 have ta_report:=is_report
 clear h ho hj
 go_enter Tryz.func173,Tryz.ntmps173
 go_wp2_with fail
 refine Calls.mono (HC () _ (((Keep.refl nil w).alloc _).alloc _)) ?_
 rintro r w3 ⟨rfl,p3,hr3,hs3⟩
 have HP:Unit→∃p',NRep w3 b (n.act j (.report x)).1 p'∧NStep w w3 b p p':=fun _=>⟨p3,hr3,(NStep.of_keep b p (((Keep.refl nil w).alloc _).alloc _)).trans hs3⟩
 clear hr3 hs3 HC
 go_wp2
 go_ret
 exact⟨rfl,HP ()⟩
theorem act_root(b:Nat)(n:Nod)(p:Np)(j:Nat) (w:World)(h:NRep w b n p)(ho:NOk n)(hj:j<n.edges.length):
 Calls Tryz.prog 173 #[.pointer (some ⟨b,0,none⟩),.agg #[.int .i64 (j:Int),(NMsg.root:NMsg).val]] w fun r w'=>r=.returned (.bool (n.act j .root).2)∧∃p',NRep w' b (n.act j .root).1 p'∧NStep w w' b p p':=by
 have HC:Unit→∀w1,Keep nil w w1→_:=fun _ w1 k1=>changeRoot_any b n p w1 (h.keep k1 (fun _ _ e=>e)) ho.rise.few ho.best (by have:=ho.sent;omega)
 have hblw:=h.blk.lt
 simp only[NMsg.val]
 have ta_connect:=no_connect 321 (by rfl)
 have ta_initiate:=no_initiate 321 (by rfl)
 have ta_test:=no_test 321 (by rfl)
 have ta_accept:=no_accept 321 (by rfl)
 have ta_reject:=no_reject 321 (by rfl)
 have ta_report:=no_report 321 (by rfl)
 have ta_root:=is_root
 clear h ho hj
 go_enter Tryz.func173,Tryz.ntmps173
 go_wp2_with fail
 refine Calls.mono (HC () _ (((Keep.refl nil w).alloc _).alloc _)) ?_
 rintro r w3 ⟨rfl,p3,hr3,hs3⟩
 have HP:Unit→∃p',NRep w3 b (n.act j .root).1 p'∧NStep w w3 b p p':=fun _=>⟨p3,hr3,(NStep.of_keep b p (((Keep.refl nil w).alloc _).alloc _)).trans hs3⟩
 clear hr3 hs3 HC
 go_wp2
 go_ret
 exact⟨rfl,HP ()⟩
theorem act_any(b:Nat)(n:Nod)(p:Np)(j:Nat)(m:NMsg)(w:World)(h:NRep w b n p)(ho:NOk n)(hj:j<n.edges.length):
 Calls Tryz.prog 173 #[.pointer (some ⟨b,0,none⟩),.agg #[.int .i64 (j:Int),m.val]] w fun r w'=>r=.returned (.bool (n.act j m).2)∧∃p',NRep w' b (n.act j m).1 p'∧NStep w w' b p p':=by
 cases m with
 |connect l=>exact act_connect b n p j l w h ho hj
 |initiate l nm f=>exact act_initiate b n p j l nm f w h ho hj
 |test l nm=>exact act_test b n p j l nm w h ho hj
 |accept=>exact act_accept b n p j w h ho hj
 |reject=>exact act_reject b n p j w h ho hj
 |report x=>exact act_report b n p j x w h ho hj
 |root=>exact act_root b n p j w h ho hj
theorem step_append_room{P:Program}{ops:Array Oper}{op:Oper}{a:Act}{w:World}{K:Act→World→Prop}{Q:Exit→Act→World→Prop}{E:Prop}
 (hg:op.guard=none) (s x:Operand) (t:TypeId) (hop:op.op=Op.call { callee:=Callee.builtin Builtin.append,args:=#[s,x],argTypes:=#[t,t]})
 (e:TypeId) (i:TypeInfo) (ht:P.underlying t=some (.slice e)) (hi:P.info? e=some i)
 (g o n c:Nat) (cur:List Value) (hb:Blk w g cur.toArray e) (hs:a.eval s=.slice (some ⟨g,o,none⟩) n c) (ad:Addr) (m c':Nat) (hx:a.eval x=.slice (some ad) m c') (news:List Value) (hm:news.length=m * i.size)
 (hc:∀j u,news[j]?=some u→w.cell? (ad.add j)=some u) (h1:∀u∈news,u.oneCell'=true) (hroom:n+m≤c) (hfit:o+n * i.size+news.length≤cur.length)
 (hK:∀w',Blk w' g (cur.take (o+n * i.size)++news++cur.drop (o+n * i.size+news.length)).toArray e→Keep (only g) w w'→K (a.put op.dst (.slice (some ⟨g,o,none⟩) (n+m) c)) w'):
 if Region.wanted op (yielded ops a.tmps)=true then Oper.wp P op a w K Q else E:=by
 have hw:Region.wanted op (yielded ops a.tmps)=true:=by simp[Region.wanted,hg]
 rw[if_pos hw]
 have hrun:=run_append_room_at (P:=P) w t op.type e i ht hi g o n c cur.toArray hb ad m c' news hm hc h1 hroom (by simpa using hfit)
 unfold Oper.wp
 simp[execOp,hop,resolve,invoke,builtin,hs,hx,hrun,Result.andThen]
 refine hK _ ?_ ?_
 ·unfold Blk at hb⊢
  rw[setRow_heap w g _ _ _ _ hb];simp
 ·exact⟨rfl,rfl,rfl,by simp[World.setRow],fun k hk hn=>setRow_other w g k _ (fun e=>hn e)⟩
theorem run_clear_at{P:Program}(w:World)(t ty e:TypeId)(z:Value)(ht:P.underlying t=some (.slice e))(hv:∀w,(zeroValue e).run P w= .ok z w)
 (g o n c:Nat) (h0:0<n) (cur:List Value) (hb:Blk w g cur.toArray e) (news:List Value) (hz:(Builtin.zeroCells z.cells n).toList=news)
 (h1:∀u∈news,u.oneCell'=true) (hfit:o+news.length≤cur.length):
 ∃w',(Builtin.clear_ #[t] ty #[.slice (some ⟨g,o,none⟩) n c]).run P w=.ok (.tuple #[]) w'∧Blk w' g (cur.take o++news++cur.drop (o+news.length)).toArray e∧Keep (only g) w w':=by
 obtain⟨m,rfl⟩:∃m,n=m+1:=⟨n - 1,by omega⟩
 have hst:=run_storeCells_at P g o e news 0 cur.toArray w hb (by simpa using hfit) h1
 simp only[Nat.add_zero]at hst
 refine⟨w.setRow g (cur.take o++news++cur.drop (o+news.length)).toArray,by simp[Builtin.clear_,run_underlying ht,hv,hz,hst],?_,?_⟩
 ·unfold Blk at hb⊢
  rw[setRow_heap w g _ _ _ _ hb]
 ·exact⟨rfl,rfl,rfl,by simp[World.setRow],fun k hk hn=>setRow_other w g k _ (fun e=>hn e)⟩
theorem zero_came(w:World):(zeroValue 270).run Tryz.prog w=.ok (.agg #[.int .i64 0,.nilIface]) w:=by
 have h:(Tryz.prog.info? 270).map (fun i=>i.zero)=some (some (.agg #[.int .i64 0,.nilIface])):=by kernel_rfl
 obtain⟨i,hi,hs⟩:=Option.map_eq_some_iff.1 h
 simp[zeroValue,typeInfo,hi,hs]
theorem came_info:∃i,Tryz.prog.info? 270=some i∧i.size=2:=by
 have h:(Tryz.prog.info? 270).map (fun i=>i.size)=some 2:=by kernel_rfl
 obtain⟨i,hi,hs⟩:=Option.map_eq_some_iff.1 h
 exact⟨i,hi,hs⟩
theorem delete_came(g o n c k j:Nat)(pre mid x tl sp:List Value)(w:World)(hb:Blk w g (pre++mid++x++tl++sp).toArray 270)(ho:pre.length=o)(hm:mid.length=k * 2)(hx:x.length=2)(ht:tl.length=(n - j) * 2)(h1:∀u∈tl,u.oneCell'=true)(hk:j=k+1)(hjn:j≤n)(hc:n≤c):
 Calls Tryz.prog 207 #[.slice (some ⟨g,o,none⟩) n c,.int .i64 (k:Int),.int .i64 (j:Int)] w fun r w'=>r=.returned (.slice (some ⟨g,o,none⟩) (n - 1) c)∧Blk w' g (pre++mid++tl++[Value.int .i64 0,Value.nilIface]++sp).toArray 270∧Keep (only g) w w':=by
 have hkj:k≤j:=by omega
 have hkn:k≤n:=by omega
 have hkc:k≤c:=by omega
 have hkI:(k:Int)≤(j:Int):=by omega
 have hjI:(j:Int)≤(n:Int):=by omega
 have hcI:(n:Int)≤(c:Int):=by omega
 have e1:((k:Int)==(j:Int))=false:=by rw[beq_eq_false_iff_ne];omega
 have e2:¬(k:Int)=(j:Int):=by omega
 have H:Unit→j=k+1∧j≤n∧n≤c:=fun _=>⟨hk,hjn,hc⟩
 obtain⟨i,hi,hsz⟩:=came_info
 clear hk
 have hbd:Blk w.drew g (pre++mid++x++tl++sp).toArray 270:=hb.keep ((Keep.refl nil w).drew) id
 obtain⟨ad,hite,hca⟩:∃ad:Addr,(if c=j then some (⟨g,o,none⟩:Addr)else some ⟨g,o+j * 2,none⟩)=some ad∧∀q u,tl[q]?=some u→w.drew.cell? (ad.add q)=some u:=by
  by_cases hcj:c=j
  ·refine⟨⟨g,o,none⟩,by rw[if_pos hcj],fun q u hu=>?_⟩
   have hq:=(List.getElem?_eq_some_iff.1 hu).1
   have:=H ()
   have hz:(n - j) * 2=0:=by rw[show n - j=0 by omega]
   omega
  ·refine⟨⟨g,o+j * 2,none⟩,by rw[if_neg hcj],fun q u hu=>?_⟩
   rw[Addr.add_lit]
   have hc0:=hbd.cell (o+j * 2+q)
   have hq:=(List.getElem?_eq_some_iff.1 hu).1
   rw[hc0]
   simp only[List.getElem?_toArray]
   rw[List.append_assoc,List.append_assoc,List.append_assoc,←List.append_assoc,List.getElem?_append_right (by simp;have:=H ();omega),List.getElem?_append_right (by simp;have:=H ();omega),List.getElem?_append_left (by simp;have:=H ();omega)]
   rw[←hu]
   congr 1
   simp
   have:=H ()
   omega
 have hln:tl.length=(n - j) * i.size:=by rw[hsz];exact ht
 have hrm:k+(n - j)≤c:=by have:=H ();omega
 have hft:o+k * i.size+tl.length≤(pre++mid++x++tl++sp).length:=by rw[hsz];simp;have:=H ();omega
 go_enter Tryz.func207,Tryz.ntmps207
 go_wp2_with fail
 go_region_law (refine step_append_room rfl (.tmp 22) (.tmp 25) 184 rfl 270 i Tryz.underlying184 hi g o k c (pre++mid++x++tl++sp) hbd rfl ad (n - j) (c - j) rfl tl hln hca h1 hrm hft ?_;intro W1 hb1 hk1)
 have e3:(pre++mid++x++tl++sp).take (o+k * i.size)=pre++mid:=by
  rw[hsz,List.append_assoc,List.append_assoc,show o+k * 2=(pre++mid).length by simp;omega];exact List.take_left
 have e4:(pre++mid++x++tl++sp).drop (o+k * i.size+tl.length)=(x++tl).drop tl.length++sp:=by
  rw[hsz,←List.drop_drop,show o+k * 2=(pre++mid).length by simp;omega,show pre++mid++x++tl++sp=(pre++mid)++(x++tl++sp)by simp,List.drop_left,List.drop_append_of_le_length (by simp)]
 rw[e3,e4]at hb1
 have H1:Unit→Blk W1 g (pre++mid++tl++((x++tl).drop tl.length++sp)).toArray 270∧Keep (only g) w W1:=fun _=>⟨hb1,((Keep.refl nil w).drew.mono (fun _ _ e=>e.elim)).trans' hk1 (fun _ _ e=>e)⟩
 have hlx:((x++tl).drop tl.length).length=2:=by simp;omega
 have hone:n - (k+(n - j))=1:=by have:=H ();omega
 have hzv:∀w,(zeroValue 270).run Tryz.prog w=.ok (.agg #[.int .i64 0,.nilIface]) w:=fun w=>zero_came w
 have hkn2:k+(n - j)≤n:=by have:=H ();omega
 have hkc2:k+(n - j)≤c:=hrm
 have hpl:(pre++mid++tl).length=o+(k+(n - j)) * 2:=by simp;omega
 obtain⟨W2,hrun,hb2,hk2⟩:=run_clear_at (P:=Tryz.prog) W1 184 0 270 _ Tryz.underlying184 hzv g (o+(k+(n - j)) * 2) (n - (k+(n - j))) (c - (k+(n - j))) (by omega) (pre++mid++tl++((x++tl).drop tl.length++sp)) hb1 [Value.int .i64 0,Value.nilIface] (by rw[hone];first|kernel_rfl|decide|simp[Builtin.zeroCells,Value.cells,List.ofFn]) (by simp[Value.oneCell']) (by simp only[List.length_append]at hpl hlx⊢;simp;omega)
 have e5:(pre++mid++tl++((x++tl).drop tl.length++sp)).take (o+(k+(n - j)) * 2)=pre++mid++tl:=by rw[←hpl];exact List.take_left
 have e6:(pre++mid++tl++((x++tl).drop tl.length++sp)).drop (o+(k+(n - j)) * 2+[Value.int .i64 0,Value.nilIface].length)=sp:=by
  rw[←List.drop_drop,←hpl,List.drop_left,show [Value.int .i64 0,Value.nilIface].length=((x++tl).drop tl.length).length by rw[hlx];rfl,List.drop_left]
 rw[e5,e6]at hb2
 have HP:Unit→Blk W2 g (pre++mid++tl++[Value.int .i64 0,Value.nilIface]++sp).toArray 270∧Keep (only g) w W2∧n - 1=k+(n - j):=fun _=>⟨hb2,(H1 ()).2.trans' hk2 (fun _ _ e=>e),by have:=H ();omega⟩
 clear hb1 hk1 e3 e4 hbd hb hb2 hk2 e5 e6 hpl hlx hone hzv
 go_wp2
 go_ret
 exact⟨by rw[(HP ()).2.2];rfl,(HP ()).1,(HP ()).2.1⟩
structure NFr(n n':Nod)(s:Nat):Prop where
 len:n'.edges.length=n.edges.length
 rise:NRise n→NRise n'
 best:(∀i,n.best=some i→i<n.edges.length)→∀i,n'.best=some i→i<n.edges.length
 level:n.level≤10→n'.level≤10
 off:n'.off=n.off
 sent:n'.sent.length≤n.sent.length+s
theorem NFr.refl(n:Nod):NFr n n 0:=⟨rfl,id,id,id,rfl,by omega⟩
theorem NFr.trans{n n1 n2:Nod}{s t:Nat}(h:NFr n n1 s)(k:NFr n1 n2 t):NFr n n2 (s+t):=
 ⟨k.len.trans h.len,fun e=>k.rise (h.rise e),fun e i hi=>by
  have:=k.best (fun i hi=>by rw[h.len];exact h.best e i hi) i hi
  rw[h.len]at this;exact this,fun e=>k.level (h.level e),k.off.trans h.off,by have:=h.sent;have:=k.sent;omega⟩
theorem NFr.mono{n n1:Nod}{s t:Nat}(h:NFr n n1 s)(hst:s≤t):NFr n n1 t:=⟨h.len,h.rise,h.best,h.level,h.off,by have:=h.sent;omega⟩
theorem NFr.of{n n':Nod}(he:n'.edges=n.edges)(hb:n'.best=n.best)(hl:n'.level≤n.level)(ho:n'.off=n.off)(hs:n'.sent=n.sent):NFr n n' 0:=
 ⟨by rw[he],fun h=>h.of he,fun h i hi=>h i (by rw[←hb];exact hi),fun h=>by omega,ho,by rw[hs];omega⟩
theorem fr_setSt(n:Nod)(j s:Nat):NFr n (n.setSt j s) 0:=⟨setSt_len n j s,fun h=>h.set j s,fun h i hi=>h i hi,id,rfl,by simp[Nod.setSt]⟩
theorem fr_send(n:Nod)(j:Nat)(m:NMsg):NFr n (n.send j m) 1:=⟨rfl,fun h=>h.of rfl,fun h i hi=>h i hi,id,rfl,by simp[Nod.send]⟩
theorem fr_wake(n:Nod):NFr n n.wake 1:=by
 unfold Nod.wake
 split
 ·have h0:NFr n { n with level:=0,state:=2,count:=0} 0:=NFr.of rfl rfl (Nat.zero_le _) rfl rfl
  split
  ·have h1:NFr n { n with level:=0,state:=2,count:=0,over:=true} 0:=NFr.of rfl rfl (Nat.zero_le _) rfl rfl
   exact h1.mono (by omega)
  ·rename_i j hj
   exact((h0.trans (fr_setSt _ j 1)).trans (fr_send _ j (.connect 0))).mono (by omega)
 ·exact(NFr.refl n).mono (by omega)
theorem fr_spread(n:Nod)(j l nm:Nat)(f:Bool):NFr n (n.spread j l nm f) 1:=by
 unfold Nod.spread
 split
 ·have h1:NFr (n.send j (.initiate l nm f)) { n.send j (.initiate l nm f)with count:=wrap64 (n.count+1)} 0:=NFr.of rfl rfl (Nat.le_refl _) rfl rfl
  exact(fr_send n j (.initiate l nm f)).trans h1
 ·exact fr_send n j _
theorem fr_reports(n:Nod):NFr n n.reports 1:=by
 unfold Nod.reports
 split
 ·have h0:NFr n { n with state:=2} 0:=NFr.of rfl rfl (Nat.le_refl _) rfl rfl
  split
  ·exact h0.mono (by omega)
  ·exact(h0.trans (fr_send _ _ _)).mono (by omega)
 ·exact(NFr.refl n).mono (by omega)
theorem fr_tests(n:Nod):NFr n n.tests 1:=by
 unfold Nod.tests
 split
 ·have h1:NFr n { n with tested:=none} 0:=NFr.of rfl rfl (Nat.le_refl _) rfl rfl
  exact(h1.trans (fr_reports _)).mono (by omega)
 ·rename_i j hj
  have h1:NFr n { n with tested:=some j} 0:=NFr.of rfl rfl (Nat.le_refl _) rfl rfl
  exact(h1.trans (fr_send _ _ _)).mono (by omega)
theorem fr_spreads(fr l nm:Nat)(f:Bool)(k:Nat):∀(n:Nod) (j:Nat),NFr n (n.spreads fr l nm f k j) k:=by
 induction k with
 |zero=>intro n j;exact NFr.refl n
 |succ k ih=>
  intro n j
  rw[Nod.spreads]
  split
  ·exact((fr_spread n j l nm f).trans (ih _ _)).mono (by omega)
  ·exact(ih n _).mono (by omega)
theorem initiate_eq(n:Nod)(fr l nm:Nat)(f:Bool):n.initiate fr l nm f=(if f then ((n.ini fr l nm f).spreads fr l nm f n.edges.length 0).tests else (n.ini fr l nm f).spreads fr l nm f n.edges.length 0):=rfl
theorem fr_initiate(n:Nod)(fr l nm:Nat)(f:Bool)(hl:l≤10):NFr n (n.initiate fr l nm f) (n.edges.length+1):=by
 have h0:NFr n (n.ini fr l nm f) 0:=⟨rfl,fun h=>h.of rfl,(fun h i hi=>by cases hi),fun _=>hl,rfl,Nat.le_refl _⟩
 have h1:NFr n ((n.ini fr l nm f).spreads fr l nm f n.edges.length 0) (0+n.edges.length):=h0.trans (fr_spreads fr l nm f n.edges.length (n.ini fr l nm f) 0)
 rw[initiate_eq]
 split
 ·exact(h1.trans (fr_tests _)).mono (by omega)
 ·exact h1.mono (by omega)
theorem fr_reject(n:Nod)(j:Nat):NFr n (n.reject j) 0:=by
 unfold Nod.reject
 split
 ·exact fr_setSt _ _ _
 ·exact NFr.refl n
theorem fr_hear(n:Nod)(j x:Nat)(hj:j<n.edges.length):NFr n (n.hear j x) 0:=by
 unfold Nod.hear
 split
 ·exact⟨rfl,fun h=>h.of rfl,(fun h i hi=>by cases hi;exact hj),id,rfl,Nat.le_refl _⟩
 ·exact NFr.refl n
theorem fr_changeRoot(n:Nod):NFr n n.changeRoot 1:=by
 unfold Nod.changeRoot
 split
 ·exact(NFr.refl n).mono (by omega)
 ·split
  ·exact fr_send _ _ _
  ·exact((fr_send n _ _).trans (fr_setSt _ _ _)).mono (by omega)
theorem fr_connect(n:Nod)(j l:Nat):NFr n (n.connect j l).1 2:=by
 unfold Nod.connect
 have h0:=fr_wake n
 simp only
 split
 ·exact((h0.trans (fr_setSt _ j 1)).trans (fr_spread _ _ _ _ _)).mono (by omega)
 ·split
  ·exact h0.mono (by omega)
  ·exact(h0.trans (fr_send _ _ _)).mono (by omega)
theorem fr_test(n:Nod)(j l nm:Nat):NFr n (n.test j l nm).1 2:=by
 unfold Nod.test
 have h0:=fr_wake n
 simp only
 split
 ·exact h0.mono (by omega)
 ·split
  ·exact(h0.trans (fr_send _ _ _)).mono (by omega)
  ·have h1:=h0.trans (fr_reject n.wake j)
   split
   ·exact(h1.trans (fr_tests _)).mono (by omega)
   ·exact(h1.trans (fr_send _ _ _)).mono (by omega)
theorem fr_accept(n:Nod)(j:Nat)(hj:j<n.edges.length):NFr n (n.accept j) 1:=by
 unfold Nod.accept
 have h1:NFr n { n with tested:=none} 0:=NFr.of rfl rfl (Nat.le_refl _) rfl rfl
 have h2:=fr_hear { n with tested:=none} j (n.wt j) hj
 exact((h1.trans h2).trans (fr_reports _)).mono (by omega)
theorem fr_report(n:Nod)(j x:Nat)(hj:j<n.edges.length):NFr n (n.report j x).1 1:=by
 unfold Nod.report
 split
 ·split
  ·exact(NFr.refl n).mono (by omega)
  ·split
   ·exact fr_changeRoot n
   ·split
    ·have h1:NFr n { n with over:=true} 0:=NFr.of rfl rfl (Nat.le_refl _) rfl rfl
     exact h1.mono (by omega)
    ·exact(NFr.refl n).mono (by omega)
 ·have h1:NFr n { n with count:=wrap64 (n.count - 1)} 0:=NFr.of rfl rfl (Nat.le_refl _) rfl rfl
  have h2:=fr_hear { n with count:=wrap64 (n.count - 1)} j x hj
  exact((h1.trans h2).trans (fr_reports _)).mono (by omega)
def NMsg.may:NMsg→Prop
 | .initiate l _ _=>l≤10
 |_=>True
theorem fr_act(n:Nod)(j:Nat)(m:NMsg)(hj:j<n.edges.length)(hm:m.may):NFr n (n.act j m).1 (n.edges.length+2):=by
 cases m with
 |connect l=>exact(fr_connect n j l).mono (by omega)
 |initiate l nm f=>exact(fr_initiate n j l nm f hm).mono (by omega)
 |test l nm=>exact(fr_test n j l nm).mono (by omega)
 |accept=>exact(fr_accept n j hj).mono (by omega)
 |reject=>exact((fr_reject n j).trans (fr_tests _)).mono (by omega)
 |report x=>exact(fr_report n j x hj).mono (by omega)
 |root=>exact(fr_changeRoot n).mono (by omega)
structure NGood(n:Nod):Prop where
 rise:NRise n
 best:∀i,n.best=some i→i<n.edges.length
 level:n.level≤10
 off:∀c∈n.off,c.1<n.edges.length∧c.2.may
theorem NGood.fr{n n':Nod}{s:Nat}(h:NGood n)(k:NFr n n' s):NGood n':=
 ⟨k.rise h.rise,fun i hi=>by rw[k.len];exact k.best h.best i hi,k.level h.level,fun c hc=>by rw[k.off]at hc;rw[k.len];exact h.off c hc⟩
theorem NGood.ok{n:Nod}(h:NGood n)(hs:(n.sent.length:Int)<990000000000):NOk n:=⟨h.rise,h.best,by have:=h.level;omega,hs⟩
theorem NGood.erase{n:Nod}(h:NGood n)(k:Nat):NGood { n with off:=n.off.eraseIdx k}:=
 ⟨h.rise.of rfl,h.best,h.level,fun c hc=>h.off c (List.mem_of_mem_eraseIdx hc)⟩
theorem NGood.put{n:Nod}(h:NGood n)(j:Nat)(m:NMsg)(hj:j<n.edges.length)(hm:m.may):NGood { n with off:=n.off++[(j,m)]}:=
 ⟨h.rise.of rfl,h.best,h.level,fun c hc=>by
  rcases List.mem_append.1 hc with hc|hc
  ·exact h.off c hc
  ·rw[List.mem_singleton.1 hc];exact⟨hj,hm⟩⟩
theorem NGood.new(ws:List Nat)(hr:∀(i k:Nat) (e f:Nat),i<k→ws[i]?=some e→ws[k]?=some f→e≤f)(hf:(ws.length:Int)<1000):NGood (Nod.new ws):=by
 refine⟨⟨fun i k e f hik he hf=>?_,by simpa [Nod.new]using hf⟩,(fun i hi=>by cases hi),Nat.zero_le _,(fun c hc=>by cases hc)⟩
 simp only[Nod.new,List.getElem?_map,Option.map_eq_some_iff]at he hf
 obtain⟨e',he',rfl⟩:=he
 obtain⟨f',hf',rfl⟩:=hf
 exact hr i k e' f' hik he' hf'
theorem typedReport_any(x:Nat)(w:World):
 Calls Tryz.prog 198 #[.int .i64 (x:Int)] w fun r w'=>r=.returned (.agg #[.int .i64 ((if x=0 then 1001 else x:Nat):Int)])∧Keep nil w w':=by
 by_cases hx:x=0
 ·subst hx
  go_enter Tryz.func198,Tryz.ntmps198
  go_wp2
  refine bodyPost_ret (v:=.agg #[.int .i64 ((if 0=0 then 1001 else 0:Nat):Int)]) ?_ rfl ⟨rfl,by repeat (first|exact Keep.refl _ _|apply Keep.alloc)⟩
  simp[results,Tryz.results198,go_sem]
 ·have h2:((x:Int)==0)=false:=by rw[beq_eq_false_iff_ne];omega
  have h3:¬(x:Int)=0:=by omega
  have HX:Unit→¬x=0:=fun _=>hx
  clear hx
  go_enter Tryz.func198,Tryz.ntmps198
  go_wp2
  refine bodyPost_ret (v:=.agg #[.int .i64 (x:Int)]) ?_ rfl ⟨by first|rfl|rw[if_neg (HX ())],by repeat (first|exact Keep.refl _ _|apply Keep.alloc)⟩
  simp[results,Tryz.results198,go_sem]
theorem typed_any(m:Fr.Msg)(w:World)(h1:1≤m.kind)(h7:m.kind≤7):
 Calls Tryz.prog 172 #[mv m] w fun r w'=>r=.returned (typed m).val∧Keep nil w w':=by
 obtain⟨kd,lv,nm,fi⟩:=m
 simp only at h1 h7
 have hk:kd=1∨kd=2∨kd=3∨kd=4∨kd=5∨kd=6∨kd=7:=by omega
 clear h1 h7
 rcases hk with rfl|rfl|rfl|rfl|rfl|rfl|rfl
 ·simp only[mv]
  go_enter Tryz.func172,Tryz.ntmps172
  go_wp2
  go_ret
  exact⟨rfl,by repeat (first|exact Keep.refl _ _|apply Keep.alloc|apply Keep.drew)⟩
 ·simp only[mv]
  go_enter Tryz.func172,Tryz.ntmps172
  go_wp2
  go_ret
  exact⟨rfl,by repeat (first|exact Keep.refl _ _|apply Keep.alloc|apply Keep.drew)⟩
 ·simp only[mv]
  go_enter Tryz.func172,Tryz.ntmps172
  go_wp2
  go_ret
  exact⟨rfl,by repeat (first|exact Keep.refl _ _|apply Keep.alloc|apply Keep.drew)⟩
 ·simp only[mv]
  go_enter Tryz.func172,Tryz.ntmps172
  go_wp2
  go_ret
  exact⟨rfl,by repeat (first|exact Keep.refl _ _|apply Keep.alloc|apply Keep.drew)⟩
 ·simp only[mv]
  go_enter Tryz.func172,Tryz.ntmps172
  go_wp2
  go_ret
  exact⟨rfl,by repeat (first|exact Keep.refl _ _|apply Keep.alloc|apply Keep.drew)⟩
 ·simp only[mv]
  go_enter Tryz.func172,Tryz.ntmps172
  have HC:Unit→∀w1,_:=fun _ w1=>typedReport_any nm w1
  obtain⟨v,hv⟩:∃v:Nat,v=(if nm=0 then 1001 else nm):=⟨_,rfl⟩
  rw[←hv]at HC
  have HV:Unit→(typed ⟨6,lv,nm,fi⟩).val=.iface 319 (.agg #[.int .i64 (v:Int)]):=fun _=>by rw[hv];rfl
  clear hv
  go_wp2_with fail
  refine Calls.mono (HC () _) ?_
  rintro r w2 ⟨rfl,hk2⟩
  have HK:Unit→Keep nil w w2:=fun _=>(by repeat (first|exact Keep.refl _ _|apply Keep.alloc|apply Keep.drew):Keep nil w _).trans hk2
  clear hk2
  go_wp2
  go_ret
  exact⟨by rw[HV ()];rfl,HK ()⟩
 ·simp only[mv]
  go_enter Tryz.func172,Tryz.ntmps172
  go_wp2
  go_ret
  exact⟨rfl,by repeat (first|exact Keep.refl _ _|apply Keep.alloc|apply Keep.drew)⟩
theorem nsent_any(b:Nat)(n:Nod)(p:Np)(w:World)(h:NRep w b n p):
 Calls Tryz.prog 110 #[.pointer (some ⟨b,0,none⟩)] w fun r w'=>r=.returned (.slice p.sa n.sent.length p.sc)∧w'=w.setCell ⟨b,11,none⟩ (.slice none 0 0):=by
 obtain⟨-,-,-,-,-,-,-,-,-,-,-,c11⟩:=h.cells
 have f11:=h.blk.frozen 11
 have hbl:=h.blk.lt
 clear h
 go_enter Tryz.func110,Tryz.ntmps110
 go_wp2
 go_ret
 exact⟨rfl,rfl⟩
theorem NRep.sentNil{w:World}{b:Nat}{n:Nod}{p:Np}(h:NRep w b n p):NRep (w.setCell ⟨b,11,none⟩ (.slice none 0 0)) b { n with sent:=[]} { p with sa:=none,sc:=0}∧Keep (only b) w (w.setCell ⟨b,11,none⟩ (.slice none 0 0))∧RV (w.setCell ⟨b,11,none⟩ (.slice none 0 0)) 197 5 p.sa n.sent.length p.sc (lcells n.sent):=by
 have ks:Keep (only b) w (w.setCell ⟨b,11,none⟩ (.slice none 0 0)):=(Keep.refl (only b) w).setCell (p:=⟨b,11,none⟩) (fun _=>rfl) _
 refine⟨⟨?_,h.erow.keep ks (fun g hg e=>h.eb (by rw[show g=b from e]at hg;exact hg)),h.frow.keep ks (fun g hg e=>h.fb (by rw[show g=b from e]at hg;exact hg)),?_,h.eb,h.fb,(fun e=>by obtain⟨_,e⟩:=e;cases e),h.ef,(fun _ _ e=>by obtain⟨_,e⟩:=e;cases e),(fun _ _ e=>by obtain⟨_,e⟩:=e;cases e)⟩,ks,h.srow.keep ks (fun g hg e=>h.sb (by rw[show g=b from e]at hg;exact hg))⟩
 ·have:=h.blk.set 11 (.slice none 0 0)
  have e1:(ncells n p).setIfInBounds 11 (.slice none 0 0)=ncells { n with sent:=[]} { p with sa:=none,sc:=0}:=by simp[ncells]
  rw[e1]at this
  exact this
 ·exact⟨rfl,Nat.le_refl _,Or.inl ⟨rfl,rfl,rfl⟩⟩
theorem ccells_get(l:List (Nat×NMsg)):∀(k:Nat) (e:Nat×NMsg),l[k]?=some e→(ccells l)[k * 2]?=some (.int .i64 (e.1:Int))∧(ccells l)[k * 2+1]?=some e.2.val:=by
 induction l with
 |nil=>intro k e h;simp at h
 |cons x t ih=>
  intro k e h
  have hc:ccells (x::t)=ccell x++ccells t:=by simp[ccells]
  rw[hc]
  cases k with
  |zero=>simp at h;subst h;exact⟨rfl,rfl⟩
  |succ k=>
   rw[List.getElem?_cons_succ]at h
   have:=ih k e h
   have hl:(ccell x).length=2:=rfl
   rw[List.getElem?_append_right (by omega),List.getElem?_append_right (by omega),hl,show (k+1) * 2 - 2=k * 2 by omega,show (k+1) * 2+1 - 2=k * 2+1 by omega]
   exact this
theorem NRep.off_at{w:World}{b:Nat}{n:Nod}{p:Np}(h:NRep w b n p)(j:Nat)(e:Nat×NMsg)(he:n.off[j]?=some e):∃g o,p.fa=some ⟨g,o,none⟩∧g<w.heap.size∧w.cell? ⟨g,o+j * 2,none⟩=some (.int .i64 (e.1:Int))∧w.cell? ⟨g,o+j * 2+1,none⟩=some e.2.val:=by
 obtain⟨h1,h2,h3⟩:=h.frow
 have hj:=(List.getElem?_eq_some_iff.1 he).1
 rcases h3 with⟨_,h3,_⟩|⟨g,o,h3,hv⟩
 ·omega
 ·obtain⟨c0,c1⟩:=ccells_get n.off j e he
  exact⟨g,o,h3,hv.lt,hv.cell _ _ c0,by rw[Nat.add_assoc];exact hv.cell _ _ c1⟩
theorem ccells_append(l m:List (Nat×NMsg)):ccells (l++m)=ccells l++ccells m:=by simp[ccells]
theorem ccells_len(l:List (Nat×NMsg)):(ccells l).length=l.length * 2:=by
 induction l with
 |nil=>rfl
 |cons x t ih=>
  have hc:ccells (x::t)=ccell x++ccells t:=by simp[ccells]
  rw[hc,List.length_append,ih,List.length_cons]
  have hl:(ccell x).length=2:=rfl
  omega
theorem ccells_one(l:List (Nat×NMsg)):∀u∈ccells l,u.oneCell'=true:=by
 intro u hu
 simp only[ccells,List.mem_flatMap]at hu
 obtain⟨c,_,hc⟩:=hu
 simp only[ccell,List.mem_cons,List.not_mem_nil,or_false]at hc
 rcases hc with rfl|rfl
 ·rfl
 ·cases c.2<;>rfl
theorem off_parts(l:List (Nat×NMsg))(k:Nat)(c:Nat×NMsg)(h:l[k]?=some c):ccells l=ccells (l.take k)++ccell c++ccells (l.drop (k+1))∧ccells (l.eraseIdx k)=ccells (l.take k)++ccells (l.drop (k+1)):=by
 have hk:=(List.getElem?_eq_some_iff.1 h).1
 have hl:l=l.take k++[c]++l.drop (k+1):=by
  have h2:=(List.take_append_drop (k+1) l).symm
  rw[take_add l k c h]at h2
  exact h2
 constructor
 ·conv=>lhs;rw[hl]
  rw[ccells_append,ccells_append]
  have:ccells [c]=ccell c:=by simp[ccells]
  rw[this]
 ·rw[List.eraseIdx_eq_take_drop_succ,ccells_append]
theorem NRep.erase{w w':World}{b:Nat}{n:Nod}{p:Np}(h:NRep w b n p)(k:Nat)(c:Nat×NMsg)(hc:n.off[k]? =some c)(g o:Nat)(pre sp:List Value)(hga:p.fa=some ⟨g,o,none⟩)(hpre:pre.length=o)(hcap:p.fc * 2≤(ccells n.off).length+sp.length)
 (hb:Blk w' g (pre++ccells (n.off.take k)++ccells (n.off.drop (k+1))++[Value.int .i64 0,Value.nilIface]++sp).toArray 270) (hk:Keep (only g) w w'):
 NRep (w'.setCell ⟨b,10,none⟩ (.slice p.fa (n.off.length - 1) p.fc)) b { n with off:=n.off.eraseIdx k} p∧NStep w (w'.setCell ⟨b,10,none⟩ (.slice p.fa (n.off.length - 1) p.fc)) b p p:=by
 have hkl:=(List.getElem?_eq_some_iff.1 hc).1
 have hg:inB p.fa g:=by rw[hga];exact inB_self g o
 have hgb:b≠g:=fun e=>h.fb (e▸hg)
 have ks:Keep (only b) w' (w'.setCell ⟨b,10,none⟩ (.slice p.fa (n.off.length - 1) p.fc)):=(Keep.refl (only b) w').setCell (p:=⟨b,10,none⟩) (fun _=>rfl) _
 have hel:(n.off.eraseIdx k).length=n.off.length - 1:=by rw[List.length_eraseIdx_of_lt hkl]
 obtain⟨h1,h2,h3⟩:=h.frow
 obtain⟨q1,q2⟩:=off_parts n.off k c hc
 refine⟨⟨?_,(h.erow.keep hk (fun i hi e=>h.ef i hi (by rw[show i=g from e];exact hg))).keep ks (fun i hi e=>h.eb (by rw[show i=b from e]at hi;exact hi)),?_,(h.srow.keep hk (fun i hi e=>h.fs g hg (by rw[←show i=g from e];exact hi))).keep ks (fun i hi e=>h.sb (by rw[show i=b from e]at hi;exact hi)),h.eb,h.fb,h.sb,h.ef,h.es,h.fs⟩,⟨fun _ e=>Or.inl e,(hk.mono (fun i _ e=>Or.inr (Or.inr (Or.inl (by rw[show i=g from e];exact hg))))).trans (ks.mono (fun i _ e=>Or.inl e)),rfl,rfl⟩⟩
 ·have hb1:=(h.blk.keep hk (fun e=>hgb e)).set 10 (.slice p.fa (n.off.length - 1) p.fc)
  have e1:(ncells n p).setIfInBounds 10 (.slice p.fa (n.off.length - 1) p.fc)=ncells { n with off:=n.off.eraseIdx k} p:=by simp[ncells,hel]
  rw[e1]at hb1
  exact hb1
 ·show RV _ _ 2 p.fa (n.off.eraseIdx k).length p.fc (ccells (n.off.eraseIdx k))
  refine⟨ccells_len _,by rw[hel];omega,Or.inr ⟨g,o,hga,pre,[Value.int .i64 0,Value.nilIface]++sp,?_,hpre,?_⟩⟩
  ·have hb2:=hb.keep ks (fun e=>hgb e.symm)
   rw[q2]
   simpa [List.append_assoc]using hb2
  ·rw[ccells_len]at hcap⊢
   rw[hel]
   simp
   omega
end Go.Proofs.YtlfijfodklhplaaGreat
