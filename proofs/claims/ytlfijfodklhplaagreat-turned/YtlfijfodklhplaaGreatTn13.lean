import Derived.Test.YtlfijfodklhplaaGreatTn12
set_option maxRecDepth 100000
set_option maxHeartbeats 2000000
set_option linter.unusedVariables false
set_option linter.unusedSimpArgs false
namespace Go.Proofs.YtlfijfodklhplaaGreat
open Go.RowKit
theorem oneOff_at(q:Nod)(L k:Nat)(c:Nat×NMsg)(hk:k<L)(hc:q.off[k]?=some c):q.oneOff (L - k) k=if (q.act c.1 c.2).2 then ({ (q.act c.1 c.2).1 with off:=(q.act c.1 c.2).1.off.eraseIdx k},true)else (q.act c.1 c.2).1.oneOff (L - (k+1)) (k+1):=by
 rw[show L - k=(L - (k+1))+1 by omega,Nod.oneOff,hc]
structure One(w wr:World)(b:Nat)(n:Nod)(p:Np)(k:Nat)(q:Nod)(pr:Np):Prop where
 rep:NRep wr b q pr
 step:NStep w wr b p pr
 fr:NFr n q (k * (n.edges.length+2))
 rest:q.oneOff (n.off.length - k) k=n.oneOff n.off.length 0
theorem oneOff_any(b:Nat)(n:Nod)(p:Np)(w:World)(h:NRep w b n p)(hg:NGood n)(ho:(n.off.length:Int)<100000)(hs:(n.sent.length:Int)<100000000000):
 Calls Tryz.prog 174 #[.pointer (some ⟨b,0,none⟩)] w fun r w'=>r=.returned (.bool (n.oneOff n.off.length 0).2)∧∃p',NRep w' b (n.oneOff n.off.length 0).1 p'∧NStep w w' b p p':=by
 have H:Unit→NRep w b n p∧NGood n∧(n.off.length:Int)<100000∧(n.sent.length:Int)<100000000000:=fun _=>⟨h,hg,ho,hs⟩
 obtain⟨-,-,-,-,-,-,-,-,-,-,c10,-⟩:=h.cells
 have hbl:=h.blk.lt
 clear h hg ho hs
 go_enter Tryz.func174,Tryz.ntmps174
 go_wp2_with fail
 have H0:Unit→One w w b n p 0 n p:=fun _=>⟨(H ()).1,NStep.refl _ _ _,(NFr.refl n).mono (by omega),rfl⟩
 clear c10
 go_loopw [10] (fun v wr=>∃(k:Nat) (q:Nod) (pr:Np),k≤n.off.length∧v=.int .i64 (k:Int)∧One w wr b n p k q pr) (fun v _=>n.off.length - (intOf v).toNat)
 case atStart=>exact⟨0,n,p,by omega,rfl,H0 ()⟩
 case round=>
  obtain⟨k,q,pr,hk,rfl,hone⟩:=hrel
  have HQ:Unit→One w wr b n p k q pr∧k≤n.off.length:=fun _=>⟨hone,hk⟩
  have hbr:=hone.rep.blk.lt
  clear hone
  by_cases hkl:k<n.off.length
  ·have HKL:Unit→k<n.off.length:=fun _=>hkl
   have hkI:(k:Int)<(n.off.length:Int):=by omega
   obtain⟨c,hc⟩:∃c,n.off[k]?=some c:=⟨_,List.getElem?_eq_getElem hkl⟩
   have hqc:q.off[k]?=some c:=by rw[(HQ ()).1.fr.off];exact hc
   obtain⟨g,o,hga,hgl,e0,e1⟩:=(HQ ()).1.rep.off_at k c hqc
   have hpa:p.fa=some ⟨g,o,none⟩:=by rw[←(HQ ()).1.step.fa];exact hga
   have HC:Unit→n.off[k]?=some c∧q.off[k]?=some c∧p.fa=some ⟨g,o,none⟩:=fun _=>⟨hc,hqc,hpa⟩
   rw[NMsg.val_eq]at e1
   have hk9:(k:Int)<100000:=by have:=(H ()).2.2.1;omega
   have HGQ:Unit→NGood q:=fun _=>(H ()).2.1.fr (HQ ()).1.fr
   have HMAY:Unit→c.1<q.edges.length∧c.2.may:=fun _=>(HGQ ()).off c (List.mem_of_getElem? (HC ()).2.1)
   have HSQ:Unit→(q.sent.length:Int)<990000000000:=fun _=>by
    have h1:=(HQ ()).1.fr.sent
    have h2:=(H ()).2.1.rise.few
    have h3:=(H ()).2.2.2
    have h4:k * (n.edges.length+2)≤k * 1002:=Nat.mul_le_mul_left _ (by omega)
    omega
   have HA:Unit→∀w1,Keep nil wr w1→_:=fun _ w1 k1=>act_any b q pr c.1 c.2 w1 ((HQ ()).1.rep.keep k1 (fun _ _ e=>e)) ((HGQ ()).ok (HSQ ())) (HMAY ()).1
   rw[NMsg.val_eq]at HA
   have HFA:Unit→NFr q (q.act c.1 c.2).1 (q.edges.length+2):=fun _=>fr_act q c.1 c.2 (HMAY ()).1 (HMAY ()).2
   have HRST:Unit→_:=fun _=>oneOff_at q n.off.length k c (HKL ()) (HC ()).2.1
   rw[hpa]
   clear hkl hk hc hqc hga hpa
   generalize c.2.ty=cty at *
   generalize c.2.inner=cin at *
   generalize hnol:n.off.length=nol at hkI
   clear hnol
   go_wp2_with fail
   refine Calls.mono (HA () _ ((Keep.refl nil wr).alloc _)) ?_
   rintro r w2 ⟨rfl,p2,hr2,hs2⟩
   have H2:Unit→NRep w2 b (q.act c.1 c.2).1 p2∧NStep w w2 b p p2:=fun _=>⟨hr2,((HQ ()).1.step.trans (NStep.of_keep b pr ((Keep.refl nil wr).alloc _))).trans hs2⟩
   clear hr2 hs2 HA e0 e1
   cases hb:(q.act c.1 c.2).2 with
   |false=>
    have HP:Unit→One w w2 b n p (k+1) (q.act c.1 c.2).1 p2:=fun _=>⟨(H2 ()).1,(H2 ()).2,((HQ ()).1.fr.trans (HFA ())).mono (by rw[(HQ ()).1.fr.len,Nat.succ_mul];omega),by
     have:=(HQ ()).1.rest
     rw[HRST (),hb]at this
     exact this⟩
    go_wp2
    exact⟨⟨k+1,_,p2,by have:=HKL ();omega,by go_num,HP ()⟩,by have:=HKL ();simp[intOf];omega⟩
   |true=>
    have HFIN:Unit→n.oneOff n.off.length 0=({ (q.act c.1 c.2).1 with off:=(q.act c.1 c.2).1.off.eraseIdx k},true):=fun _=>by
     have:=(HQ ()).1.rest
     rw[HRST (),hb]at this
     exact this.symm
    have HOFF:Unit→(q.act c.1 c.2).1.off=n.off:=fun _=>(HFA ()).off.trans (HQ ()).1.fr.off
    obtain⟨-,-,-,-,-,-,-,-,-,-,d10,-⟩:=(H2 ()).1.cells
    rw[HOFF ()]at d10
    have hp2:p2.fa=some ⟨g,o,none⟩:=by rw[(H2 ()).2.fa];exact(HC ()).2.2
    rw[hp2]at d10
    have hfrow:=(H2 ()).1.frow
    rw[HOFF (),hp2]at hfrow
    obtain⟨r1,r2,r3⟩:=hfrow
    obtain⟨pre,sp,hblk,hpre,hcap⟩:∃pre sp,Blk w2 g (pre++ccells n.off++sp).toArray 270∧pre.length=o∧p2.fc * 2≤(ccells n.off).length+sp.length:=by
     rcases r3 with⟨r3,_⟩|⟨g',o',r3,pre,sp,x1,x2,x3⟩
     ·cases r3
     ·cases r3;exact⟨pre,sp,x1,x2,x3⟩
    obtain⟨q1,q2⟩:=off_parts n.off k c (HC ()).1
    have hD:=delete_came g o n.off.length p2.fc k (k+1) pre (ccells (n.off.take k)) (ccell c) (ccells (n.off.drop (k+1))) sp w2 (by rw[q1]at hblk;simpa [List.append_assoc]using hblk) hpre (by rw[ccells_len,List.length_take];have:=HKL ();omega) rfl (by rw[ccells_len,List.length_drop]) (ccells_one _) rfl (by have:=HKL ();omega) r2
    have HD:Unit→_:=fun _=>hD
    have hbl2:=(H2 ()).1.blk.lt
    have f10:=(H2 ()).1.blk.frozen 10
    have hgb:¬b=g:=fun e=>(H2 ()).1.fb (by rw[hp2,e];exact inB_self g o)
    have hkw:wrap64 ((k:Int)+1)=((k+1:Nat):Int):=by unfold wrap64;omega
    have HPS:Unit→pre.length=o∧p2.fc * 2≤(ccells n.off).length+sp.length∧p2.fa=some ⟨g,o,none⟩:=fun _=>⟨hpre,hcap,hp2⟩
    rw[show ((k+1:Nat):Int)=(k:Int)+1 from by omega]at HD
    clear hD r1 r2 r3 hblk hpre hcap q1 q2
    go_wp2_with fail
    refine Calls.mono (HD ()) ?_
    rintro r w3 ⟨rfl,hb3,hk3⟩
    have he:=(H2 ()).1.erase (w':=w3) k c (by rw[HOFF ()];exact(HC ()).1) g o pre sp (HPS ()).2.2 (HPS ()).1 (by rw[HOFF ()];exact(HPS ()).2.1) (by rw[HOFF ()];exact hb3) hk3
    rw[HOFF (),(HPS ()).2.2]at he
    have HP:Unit→∃p',NRep (w3.setCell ⟨b,10,none⟩ (.slice (some ⟨g,o,none⟩) (n.off.length - 1) p2.fc)) b (n.oneOff n.off.length 0).1 p'∧NStep w (w3.setCell ⟨b,10,none⟩ (.slice (some ⟨g,o,none⟩) (n.off.length - 1) p2.fc)) b p p':=fun _=>⟨p2,by rw[HFIN (),HOFF ()];exact he.1,(H2 ()).2.trans he.2⟩
    have g10:=(hk3.frozen b 10 hbl2 hgb).trans f10
    have c10:=(hk3.cell b 10 hbl2 hgb).trans d10
    have hbl3:b<w3.heap.size:=Nat.lt_of_lt_of_le hbl2 hk3.size
    clear he hb3 hk3 HD d10 f10 hkw
    go_wp2
    go_ret
    exact⟨by rw[HFIN ()];rfl,HP ()⟩
  ·have ek:k=n.off.length:=by omega
   subst ek
   have HN:Unit→n.oneOff n.off.length 0=(q,false):=fun _=>by rw[←(HQ ()).1.rest,Nat.sub_self,Nod.oneOff]
   clear hkl hk
   go_wp2
   go_ret
   exact⟨by rw[HN ()];rfl,pr,by rw[HN ()];exact(HQ ()).1.rep,(HQ ()).1.step⟩
structure NMove(w w':World)(b:Nat)(p p':Np):Prop where
 mine:∀k,NMine b p' k→NMine b p k∨w.heap.size≤k
 keep:Keep (NMine b p) w w'
theorem NStep.move{w w':World}{b:Nat}{p p':Np}(h:NStep w w' b p p'):NMove w w' b p p':=⟨h.mine,h.keep⟩
theorem NMove.trans{w w1 w2:World}{b:Nat}{p p1 p2:Np}(h:NMove w w1 b p p1)(k:NMove w1 w2 b p1 p2):NMove w w2 b p p2:=
 ⟨fun i hi=>by
  rcases k.mine i hi with h1|h1
  ·exact h.mine i h1
  ·exact Or.inr (Nat.le_trans h.keep.size h1),h.keep.trans' k.keep (fun i hi e=>by
  rcases h.mine i e with h1|h1
  ·exact h1
  ·omega)⟩
structure NTk(n n':Nod)(s:Nat):Prop where
 len:n'.edges.length=n.edges.length
 good:NGood n→NGood n'
 off:n'.off.length≤n.off.length
 sent:n'.sent.length≤n.sent.length+s
theorem oneOff_tk(f:Nat):∀(k:Nat) (n:Nod),NGood n→NTk n (n.oneOff f k).1 (f * (n.edges.length+2))∧((n.oneOff f k).2=true→(n.oneOff f k).1.off.length+1=n.off.length):=by
 induction f with
 |zero=>intro k n h;exact⟨⟨rfl,id,Nat.le_refl _,by simp[Nod.oneOff]⟩,fun e=>by simp[Nod.oneOff]at e⟩
 |succ f ih=>
  intro k n h
  rw[Nod.oneOff]
  split
  ·exact⟨⟨rfl,id,Nat.le_refl _,Nat.le_add_right _ _⟩,fun e=>by simp at e⟩
  ·rename_i c hc
   have hm:=h.off c (List.mem_of_getElem? hc)
   have hf:=fr_act n c.1 c.2 hm.1 hm.2
   have hk:=(List.getElem?_eq_some_iff.1 hc).1
   have hg:=h.fr hf
   have hs:=hf.sent
   have hmul:(f+1) * (n.edges.length+2)=f * (n.edges.length+2)+(n.edges.length+2):=by rw[Nat.succ_mul]
   split
   ·have hel:((n.act c.1 c.2).1.off.eraseIdx k).length+1=n.off.length:=by
     rw[hf.off,List.length_eraseIdx_of_lt hk];omega
    refine⟨⟨hf.len,fun _=>hg.erase k,?_,?_⟩,fun _=>hel⟩
    ·show ((n.act c.1 c.2).1.off.eraseIdx k).length≤_;omega
    ·show (n.act c.1 c.2).1.sent.length≤_
     omega
   ·obtain⟨i1,i2⟩:=ih (k+1) (n.act c.1 c.2).1 hg
    refine⟨⟨i1.len.trans hf.len,fun _=>i1.good hg,by have:=i1.off;rw[hf.off]at this;exact this,?_⟩,fun e=>by have:=i2 e;rw[hf.off]at this;exact this⟩
    have:=i1.sent
    rw[hf.len]at this
    omega
def offLen(w:World)(b:Nat):Nat:=match w.cell? ⟨b,10,none⟩with|some (.slice _ n _)=>n|_=>0
structure Tk(w wr:World)(b:Nat)(n:Nod)(p:Np)(q:Nod)(pr:Np):Prop where
 rep:NRep wr b q pr
 step:NStep w wr b p pr
 good:NGood q
 len:q.edges.length=n.edges.length
 off:q.off.length≤n.off.length
 sent:q.sent.length+q.off.length * (5000 * 1002)≤n.sent.length+n.off.length * (5000 * 1002)
 rest:q.offs (q.off.length+1)=n.offs (n.off.length+1)
theorem Tk.len10{w wr:World}{b:Nat}{n q:Nod}{p pr:Np}(h:Tk w wr b n p q pr):offLen wr b=q.off.length:=by
 obtain⟨-,-,-,-,-,-,-,-,-,-,c10,-⟩:=h.rep.cells
 unfold offLen
 rw[c10]
theorem Tk.next{w wr w':World}{b:Nat}{n q:Nod}{p pr p':Np}(h:Tk w wr b n p q pr)(ho:(n.off.length:Int)<5000)(hb:(q.oneOff q.off.length 0).2=true)(hr:NRep w' b (q.oneOff q.off.length 0).1 p')(hs:NStep wr w' b pr p'):Tk w w' b n p (q.oneOff q.off.length 0).1 p':=by
 obtain⟨t1,t2⟩:=oneOff_tk q.off.length 0 q h.good
 have t3:=t2 hb
 refine⟨hr,h.step.trans hs,t1.good h.good,t1.len.trans h.len,by have:=h.off;omega,?_,?_⟩
 ·have hf:=h.good.rise.few
  have a1:=t1.sent
  have a2:=h.sent
  have a3:q.off.length * (q.edges.length+2)≤5000 * 1002:=Nat.mul_le_mul (by have:=h.off;omega) (by omega)
  rw[←t3,Nat.succ_mul]at a2
  omega
 ·rw[←h.rest,Nod.offs.eq_2 q,if_pos hb,t3]
theorem Tk.stop{w wr:World}{b:Nat}{n q:Nod}{p pr:Np}(h:Tk w wr b n p q pr)(hb:(q.oneOff q.off.length 0).2=false):n.offs (n.off.length+1)=(q.oneOff q.off.length 0).1:=by
 rw[←h.rest,Nod.offs.eq_2 q,if_neg (by rw[hb];simp)]
theorem came_info2:(Tryz.prog.info? 270).map (fun i=>(i.zero,i.size,i.bytes))=some (some (.agg #[.int .i64 0,.nilIface]),2,24):=by kernel_rfl
theorem NRep.off_one{w w1:World}{b:Nat}{n:Nod}{p:Np}(h:NRep w b n p)(c:Nat×NMsg)(a':Option Addr)(c':Nat)(hrow:RV w1 270 2 a' (n.off.length+1) c' (ccells n.off++ccell c))(hd:∀g,inB a' g→inB p.fa g∨w.heap.size≤g)(hk:Keep (inB p.fa) w w1):
 NRep (w1.setCell ⟨b,10,none⟩ (.slice a' (n.off.length+1) c')) b { n with off:=n.off++[c]} { p with fa:=a',fc:=c'}∧NMove w (w1.setCell ⟨b,10,none⟩ (.slice a' (n.off.length+1) c')) b p { p with fa:=a',fc:=c'}:=by
 have hbl:=h.blk.lt
 have ks:Keep (only b) w1 (w1.setCell ⟨b,10,none⟩ (.slice a' (n.off.length+1) c')):=(Keep.refl (only b) w1).setCell (p:=⟨b,10,none⟩) (fun _=>rfl) _
 have old:∀g,g<w.heap.size→¬inB p.fa g→¬inB a' g:=fun g hg hn e=>by
  rcases hd g e with e|e
  ·exact hn e
  ·omega
 have hb1:=(h.blk.keep hk (fun e=>h.fb e)).set 10 (.slice a' (n.off.length+1) c')
 have hlen:(n.off++[c]).length=n.off.length+1:=by simp
 refine⟨⟨?_,?_,?_,?_,h.eb,old b hbl h.fb,h.sb,fun k hke=>old k (h.erow.lt k hke) (h.ef k hke),h.es,fun k hkf hks=>?_⟩,⟨fun k hk=>?_,?_⟩⟩
 ·have:(ncells n p).setIfInBounds 10 (.slice a' (n.off.length+1) c')=ncells { n with off:=n.off++[c]} { p with fa:=a',fc:=c'}:=by simp[ncells]
  rw[this]at hb1;exact hb1
 ·exact(h.erow.keep hk (fun g hg e=>h.ef g hg e)).keep ks (fun g hg e=>by rw[show g=b from e]at hg;exact h.eb hg)
 ·rw[hlen,ccells_append]
  have:ccells [c]=ccell c:=by simp[ccells]
  rw[this]
  exact hrow.keep ks (fun g hg e=>by rw[show g=b from e]at hg;exact old b hbl h.fb hg)
 ·exact(h.srow.keep hk (fun g hg e=>h.fs g e hg)).keep ks (fun g hg e=>by rw[show g=b from e]at hg;exact h.sb hg)
 ·exact old k (h.srow.lt k hks) (fun e=>h.fs k e hks) hkf
 ·rcases hk with hk|hk|hk|hk
  ·exact Or.inl (Or.inl hk)
  ·exact Or.inl (Or.inr (Or.inl hk))
  ·exact(hd k hk).imp (fun e=>Or.inr (Or.inr (Or.inl e))) id
  ·exact Or.inl (Or.inr (Or.inr (Or.inr hk)))
 ·exact(hk.mono (fun _ _ e=>Or.inr (Or.inr (Or.inl e)))).trans (ks.mono (fun _ _ e=>Or.inl e))
theorem ntake_any(b:Nat)(n:Nod)(p:Np)(j:Nat)(m:Fr.Msg)(w:World)(h:NRep w b n p)(hg:NGood n)(hj:j<n.edges.length)(h1:1≤m.kind)(h7:m.kind≤7)(hv:m.level≤10)(ho:(n.off.length:Int)<5000)(hs:(n.sent.length:Int)<10000000000):
 Calls Tryz.prog 117 #[.pointer (some ⟨b,0,none⟩),.int .i64 (j:Int),mv m] w fun r w'=>r=.returned (.tuple #[])∧∃p',NRep w' b (n.take j m) p'∧NMove w w' b p p':=by
 have hbl:=h.blk.lt
 have H:Unit→NRep w b n p∧NGood n∧j<n.edges.length∧(n.off.length:Int)<5000∧(n.sent.length:Int)<10000000000:=fun _=>⟨h,hg,hj,ho,hs⟩
 have HM:Unit→1≤m.kind∧m.kind≤7∧(typed m).may:=fun _=>⟨h1,h7,by
  unfold typed
  split<;>simp[NMsg.may]
  exact hv⟩
 have HBL:Unit→∀k,NMine b p k→k<w.heap.size:=fun _=>h.lt
 clear h hg hj ho hs h1 h7 hv
 have HT:Unit→∀w1,_:=fun _ w1=>typed_any m w1 (HM ()).1 (HM ()).2.1
 have HA:Unit→∀w1,Keep nil w w1→_:=fun _ w1 k1=>act_any b n p j (typed m) w1 ((H ()).1.keep k1 (fun _ _ e=>e)) ((H ()).2.1.ok (by have:=(H ()).2.2.2.2;omega)) (H ()).2.2.1
 have HE:Unit→n.take j m=(if (n.act j (typed m)).2 then (n.act j (typed m)).1.offs ((n.act j (typed m)).1.off.length+1)else { (n.act j (typed m)).1 with off:=(n.act j (typed m)).1.off++[(j,typed m)]}):=fun _=>rfl
 have HF:Unit→NFr n (n.act j (typed m)).1 (n.edges.length+2):=fun _=>fr_act n j (typed m) (H ()).2.2.1 (HM ()).2.2
 generalize n.take j m=nt at *
 have HV:Unit→(typed m).val=.iface (typed m).ty (typed m).inner:=fun _=>NMsg.val_eq _
 rw[NMsg.val_eq]at HT HA
 obtain⟨kd,lv,nm,fi⟩:=m
 simp only[mv]at HT⊢
 generalize typed ⟨kd,lv,nm,fi⟩=tm at *
 generalize tm.ty=cty at *
 generalize tm.inner=cin at *
 go_enter Tryz.func117,Tryz.ntmps117
 go_wp2_with fail
 refine Calls.mono (HT () _) ?_
 rintro r w1 ⟨rfl,hk1⟩
 have HK1:Unit→Keep nil w w1:=fun _=>((Keep.refl nil w).alloc _).trans hk1
 clear hk1 HT
 go_wp2_with fail
 refine Calls.mono (HA () _ ((HK1 ()).alloc _)) ?_
 rintro r w2 ⟨rfl,p2,hr2,hs2⟩
 have hb1:Blk (w1.alloc (.cells #[.int .i64 (j:Int),.iface cty cin] 270)) w1.heap.size #[.int .i64 (j:Int),.iface cty cin] 270:=Blk.new _ _ _
 have hb2:=hb1.keep hs2.keep (fun e=>by have:=HBL () _ e;have:=(HK1 ()).size;omega)
 have H2:Unit→NRep w2 b (n.act j tm).1 p2∧NStep w w2 b p p2∧Blk w2 w1.heap.size #[.int .i64 (j:Int),.iface cty cin] 270∧¬NMine b p2 w1.heap.size:=fun _=>⟨hr2,(NStep.of_keep b p ((HK1 ()).alloc _)).trans hs2,hb2,fun e=>by
  rcases hs2.mine _ e with e|e
  ·have:=HBL () _ e;have:=(HK1 ()).size;omega
  ·simp only[World.size_alloc]at e;omega⟩
 clear hb1 hb2 hr2 hs2 HA
 cases hb:(n.act j tm).2 with
 |true=>
  have HE2:Unit→nt=(n.act j tm).1.offs ((n.act j tm).1.off.length+1):=fun _=>by rw[HE (),hb];rfl
  have HSB:Unit→((n.act j tm).1.sent.length:Int)<11000000000∧((n.act j tm).1.off.length:Int)<5000:=fun _=>by
   have h1:=(HF ()).sent
   have h2:=(H ()).2.1.rise.few
   have h3:=(H ()).2.2.2
   rw[(HF ()).off]
   exact⟨by omega,h3.1⟩
  have H0:Unit→Tk w w2 b (n.act j tm).1 p (n.act j tm).1 p2:=fun _=>⟨(H2 ()).1,(H2 ()).2.1,(H ()).2.1.fr (HF ()),rfl,Nat.le_refl _,Nat.le_refl _,rfl⟩
  clear HE HF
  generalize (n.act j tm).1=n1 at *
  go_wp2_with fail
  go_loopw [26] (fun v wr=>∃(q:Nod) (pr:Np),Tk w wr b n1 p q pr) (fun v wr=>offLen wr b)
  case atStart=>exact⟨n1,p2,H0 ()⟩
  case round=>
   obtain⟨q,pr,htk⟩:=hrel
   have HQ:Unit→Tk w wr b n1 p q pr:=fun _=>htk
   have HO:Unit→_:=fun _=>oneOff_any b q pr wr htk.rep htk.good (by have:=htk.off;have:=(HSB ()).2;omega) (by have:=htk.sent;have:=HSB ();have:=htk.off;omega)
   clear htk
   go_wp2_with fail
   refine Calls.mono (HO ()) ?_
   rintro r w3 ⟨rfl,p3,hr3,hs3⟩
   have H3:Unit→NRep w3 b (q.oneOff q.off.length 0).1 p3∧NStep wr w3 b pr p3:=fun _=>⟨hr3,hs3⟩
   clear hr3 hs3 HO
   cases hb3:(q.oneOff q.off.length 0).2 with
   |true=>
    have HP:Unit→Tk w w3 b n1 p (q.oneOff q.off.length 0).1 p3:=fun _=>(HQ ()).next (HSB ()).2 hb3 (H3 ()).1 (H3 ()).2
    have HMS:Unit→offLen w3 b<offLen wr b:=fun _=>by
     rw[(HP ()).len10,(HQ ()).len10]
     have:=(oneOff_tk q.off.length 0 q (HQ ()).good).2 hb3
     omega
    go_wp2
    exact⟨⟨_,p3,HP ()⟩,HMS ()⟩
   |false=>
    have HP:Unit→∃p',NRep w3 b nt p'∧NMove w w3 b p p':=fun _=>⟨p3,by rw[HE2 (),(HQ ()).stop hb3];exact(H3 ()).1,((HQ ()).step.trans (H3 ()).2).move⟩
    go_wp2
    go_end0
    exact⟨rfl,HP ()⟩
 |false=>
  have HE2:Unit→nt={ (n.act j tm).1 with off:=(n.act j tm).1.off++[(j,tm)]}:=fun _=>by rw[HE (),hb];rfl
  have HOF:Unit→((n.act j tm).1.off.length:Int)<5000:=fun _=>by rw[(HF ()).off];exact(H ()).2.2.2.1
  obtain⟨-,-,-,-,-,-,-,-,-,-,d10,-⟩:=(H2 ()).1.cells
  have f10:=(H2 ()).1.blk.frozen 10
  have hbl2:=(H2 ()).1.blk.lt
  have y0:=(H2 ()).2.2.1.cell 0
  have y1:=(H2 ()).2.2.1.cell 1
  simp at y0 y1
  have hyl:=(H2 ()).2.2.1.lt
  have HFB:Unit→¬inB p2.fa b:=fun _=>(H2 ()).1.fb
  have HRW:Unit→RV w2.drew 270 2 p2.fa (n.act j tm).1.off.length p2.fc (ccells (n.act j tm).1.off):=fun _=>(H2 ()).1.frow.keep ((Keep.refl nil w2).drew) (fun _ _ e=>e)
  have HVV:Unit→ccell (j,tm)=[.int .i64 (j:Int),.iface cty cin]:=fun _=>by rw[←HV ()];rfl
  clear HF HE
  generalize (n.act j tm).1=n1 at *
  generalize hln:n1.off.length=ln at d10 HRW HOF
  generalize hls:ccells n1.off=ls at HRW
  go_wp2_with fail
  go_region_law (refine step_append_rvS rfl (.tmp 19) (.tmp 21) 184 rfl 270 (.agg #[.int .i64 0,.nilIface]) 2 24 Tryz.underlying184 came_info2 rfl p2.fa ln p2.fc (by simp[Act.eval,Act.put]) ls ((HRW ()).alloc _) ⟨w2.heap.size,0,none⟩ 1 1 (by omega) rfl [.int .i64 (j:Int),.iface cty cin] rfl (cells_elist w2.drew [.int .i64 (j:Int),.iface cty cin] 270 _ rfl) (by intro u hu;simp at hu;rcases hu with rfl|rfl<;>rfl) (by have:=HOF ();omega) (by have:=HOF ();omega) ?_;intro a' c' w4 hb4 hd4 hk4;have g0:=((((Keep.refl nil w2.drew).alloc _).mono (fun _ _ e=>e.elim)).trans hk4).cell b 10 hbl2 (HFB ());have g1:=((((Keep.refl nil w2.drew).alloc _).mono (fun _ _ e=>e.elim)).trans hk4).frozen b 10 hbl2 (HFB ());rw[show w2.drew.cell? ⟨b,10,none⟩=_ from d10]at g0;rw[show w2.drew.frozen? ⟨b,10,none⟩=_ from f10]at g1)
  all_goals
   have HP:Unit→∃p',NRep (w4.setCell ⟨b,10,none⟩ (.slice a' (ln+1) c')) b nt p'∧NMove w (w4.setCell ⟨b,10,none⟩ (.slice a' (ln+1) c')) b p p':=fun _=>by
    rw[HE2 ()]
    have k24:Keep (inB p2.fa) w2 w4:=((((Keep.refl nil w2).drew).alloc _).mono (fun _ _ e=>e.elim)).trans hk4
    rw[←hln,←hls,←HVV ()]at hb4
    rw[←hln]
    have ho:=(H2 ()).1.off_one (j,tm) a' c' hb4 (fun g hg=>by
     rcases hd4 with⟨e,_⟩|⟨e,_⟩
     ·rw[e]at hg;exact Or.inl hg
     ·rw[e]at hg
      have:=inB_some.1 hg
      simp only[World.size_alloc,World.size_drew]at this
      exact Or.inr (by omega)) k24
    exact⟨_,ho.1,(H2 ()).2.1.move.trans ho.2⟩
   have hbl4:b<w4.heap.size:=Nat.lt_of_lt_of_le (by simp;omega) hk4.size
   clear hb4 hd4 hk4 d10 f10 y0 y1 HRW
   go_wp2
   (try simp only[Exit.inBlock,Exit.then])
   refine bodyPost_ret (results_none rfl _ _ _) rfl ?_
   exact⟨rfl,HP ()⟩
def icells(l:List Nat):List Value:=l.map (fun(x:Nat)=>Value.int .i64 (x:Int))
theorem icells_get(l:List Nat)(k x:Nat)(h:l[k]?=some x):(icells l)[k]?=some (Value.int .i64 (x:Int)):=by
 simp[icells,h]
theorem nedge_info:(Tryz.prog.info? 190).map (fun i=>(i.zero,i.size,i.bytes))=some (some (.agg #[.int .i64 0,.int .i64 0]),2,16):=by kernel_rfl
theorem necells_append(l m:List (Nat×Nat)):necells (l++m)=necells l++necells m:=by simp[necells]
theorem NRep.edge_one{w w1:World}{b:Nat}{ws:List Nat}{p:Np}(h:NRep w b (Nod.new ws) p)(x:Nat)(a':Option Addr)(c':Nat)(hrow:RV w1 190 2 a' (ws.length+1) c' (necells (Nod.new ws).edges++necell (x,0)))(hd:∀g,inB a' g→inB p.ea g∨w.heap.size≤g)(hk:Keep (inB p.ea) w w1):
 NRep (w1.setCell ⟨b,3,none⟩ (.slice a' (ws.length+1) c')) b (Nod.new (ws++[x])) { p with ea:=a',ec:=c'}∧NMove w (w1.setCell ⟨b,3,none⟩ (.slice a' (ws.length+1) c')) b p { p with ea:=a',ec:=c'}:=by
 have hbl:=h.blk.lt
 have ks:Keep (only b) w1 (w1.setCell ⟨b,3,none⟩ (.slice a' (ws.length+1) c')):=(Keep.refl (only b) w1).setCell (p:=⟨b,3,none⟩) (fun _=>rfl) _
 have old:∀g,g<w.heap.size→¬inB p.ea g→¬inB a' g:=fun g hg hn e=>by
  rcases hd g e with e|e
  ·exact hn e
  ·omega
 have hb1:=(h.blk.keep hk (fun e=>h.eb e)).set 3 (.slice a' (ws.length+1) c')
 have hed:(Nod.new (ws++[x])).edges=(Nod.new ws).edges++[(x,0)]:=by simp[Nod.new]
 have hlen:(Nod.new (ws++[x])).edges.length=ws.length+1:=by simp[Nod.new]
 refine⟨⟨?_,?_,?_,?_,old b hbl h.eb,h.fb,h.sb,fun k hke hkf=>old k (h.frow.lt k hkf) (fun e=>h.ef k e hkf) hke,fun k hke hks=>old k (h.srow.lt k hks) (fun e=>h.es k e hks) hke,h.fs⟩,⟨fun k hk=>?_,?_⟩⟩
 ·have:(ncells (Nod.new ws) p).setIfInBounds 3 (.slice a' (ws.length+1) c')=ncells (Nod.new (ws++[x])) { p with ea:=a',ec:=c'}:=by simp[ncells,Nod.new]
  rw[this]at hb1;exact hb1
 ·rw[hlen,hed,necells_append]
  have:necells [(x,0)]=necell (x,0):=by simp[necells]
  rw[this]
  exact hrow.keep ks (fun g hg e=>by rw[show g=b from e]at hg;exact old b hbl h.eb hg)
 ·exact(h.frow.keep hk (fun g hg e=>h.ef g e hg)).keep ks (fun g hg e=>by rw[show g=b from e]at hg;exact h.fb hg)
 ·exact(h.srow.keep hk (fun g hg e=>h.es g e hg)).keep ks (fun g hg e=>by rw[show g=b from e]at hg;exact h.sb hg)
 ·rcases hk with hk|hk|hk|hk
  ·exact Or.inl (Or.inl hk)
  ·exact(hd k hk).imp (fun e=>Or.inr (Or.inl e)) id
  ·exact Or.inl (Or.inr (Or.inr (Or.inl hk)))
  ·exact Or.inl (Or.inr (Or.inr (Or.inr hk)))
 ·exact(hk.mono (fun _ _ e=>Or.inr (Or.inl e))).trans (ks.mono (fun _ _ e=>Or.inl e))
theorem nodeNew_any(ws:List Nat)(wa:Option Addr)(wc:Nat)(w:World)(h:RV w 3 1 wa ws.length wc (icells ws))(hl:(ws.length:Int)<1000):
 Calls Tryz.prog 107 #[.slice wa ws.length wc] w fun r w'=>∃b p',r=.returned (.pointer (some ⟨b,0,none⟩))∧NRep w' b (Nod.new ws) p'∧Keep nil w w'∧∀i,NMine b p' i→w.heap.size≤i:=by
 have H:Unit→RV w 3 1 wa ws.length wc (icells ws)∧(ws.length:Int)<1000:=fun _=>⟨h,hl⟩
 clear h hl
 go_enter Tryz.func107,Tryz.ntmps107
 go_wp2_with fail
 obtain⟨W1,hW1⟩:∃W1,W1=w.alloc (.cells #[.int .i64 0,.int .i64 0,.int .i64 0,.slice none 0 0,.int .i64 (-1),.int .i64 (-1),.int .i64 1001,.int .i64 (-1),.int .i64 0,.bool false,.slice none 0 0,.slice none 0 0] 187):=⟨_,rfl⟩
 obtain⟨b,hb⟩:∃b,b=w.heap.size:=⟨_,rfl⟩
 rw[←hW1,←hb]
 have H1:Unit→NRep W1 b (Nod.new []) ⟨none,0,none,0,none,0⟩∧Keep nil w W1∧∀i,NMine b ⟨none,0,none,0,none,0⟩ i→w.heap.size≤i:=fun _=>by
  have hbk:Blk W1 b (ncells (Nod.new []) ⟨none,0,none,0,none,0⟩) 187:=by rw[hW1,hb];exact Blk.new _ _ _
  have hnn:∀i,¬inB none i:=fun i e=>by obtain⟨_,e⟩:=e;cases e
  refine⟨⟨hbk,⟨rfl,Nat.le_refl _,Or.inl ⟨rfl,rfl,rfl⟩⟩,⟨rfl,Nat.le_refl _,Or.inl ⟨rfl,rfl,rfl⟩⟩,⟨rfl,Nat.le_refl _,Or.inl ⟨rfl,rfl,rfl⟩⟩,hnn _,hnn _,hnn _,fun k e=>(hnn k e).elim,fun k e=>(hnn k e).elim,fun k e=>(hnn k e).elim⟩,by rw[hW1];exact(Keep.refl nil w).alloc _,fun i hi=>?_⟩
  rcases hi with hi|hi|hi|hi
  ·omega
  ·exact(hnn i hi).elim
  ·exact(hnn i hi).elim
  ·exact(hnn i hi).elim
 clear hW1 hb
 go_loopw [10] (fun v wr=>∃(k:Nat) (pr:Np),k≤ws.length∧v=.int .i64 (k:Int)∧NRep wr b (Nod.new (ws.take k)) pr∧Keep nil w wr∧∀i,NMine b pr i→w.heap.size≤i) (fun v _=>ws.length - (intOf v).toNat)
 case atStart=>exact⟨0,_,by omega,rfl,H1 ()⟩
 case round=>
  obtain⟨k,pr,hk,rfl,hrep⟩:=hrel
  have HQ:Unit→(NRep wr b (Nod.new (ws.take k)) pr∧Keep nil w wr∧∀i,NMine b pr i→w.heap.size≤i)∧k≤ws.length:=fun _=>⟨hrep,hk⟩
  have hbr:=hrep.1.blk.lt
  have f3:=hrep.1.blk.frozen 3
  obtain⟨-,-,-,d3,-⟩:=hrep.1.cells
  clear hrep
  by_cases hkl:k<ws.length
  ·have HKL:Unit→k<ws.length:=fun _=>hkl
   have hkI:(k:Int)<(ws.length:Int):=by omega
   obtain⟨x,hx⟩:∃x,ws[k]?=some x:=⟨_,List.getElem?_eq_getElem hkl⟩
   have HX:Unit→ws[k]?=some x:=fun _=>hx
   have hrv:=(H ()).1.keep (HQ ()).1.2.1 (fun _ _ e=>e)
   obtain⟨r1,r2,r3⟩:=hrv
   obtain⟨g,o,hga,hgl,e0⟩:∃g o,wa=some ⟨g,o,none⟩∧g<wr.heap.size∧wr.cell? ⟨g,o+k,none⟩=some (.int .i64 (x:Int)):=by
    rcases r3 with⟨_,r3,_⟩|⟨g,o,r3,hv⟩
    ·omega
    ·exact⟨g,o,r3,hv.lt,hv.cell _ _ (icells_get ws k x hx)⟩
   have htl:(ws.take k).length=k:=by rw[List.length_take];omega
   have hnl:(Nod.new (ws.take k)).edges.length=k:=by simp[Nod.new];omega
   rw[hnl]at d3
   have hk9:(k:Int)<1000:=by have:=(H ()).2;omega
   have HRW:Unit→RV wr 190 2 pr.ea k pr.ec (necells (Nod.new (ws.take k)).edges):=fun _=>by have:=(HQ ()).1.1.erow;rw[hnl]at this;exact this
   have HEB:Unit→¬inB pr.ea b:=fun _=>(HQ ()).1.1.eb
   have HK9:Unit→(k:Int)<1000:=fun _=>hk9
   rw[hga]
   clear hkl hk hx r1 r2 r3 hga hnl
   generalize hls:necells (Nod.new (ws.take k)).edges=ls at HRW
   go_wp2_with (at_builtin;refine wpList_append_rvS _ rfl (.tmp 18) (.tmp 21) 183 rfl 190 (.agg #[.int .i64 0,.int .i64 0]) 2 16 Tryz.underlying183 nedge_info rfl pr.ea k pr.ec rfl ls ((HRW ()).alloc _) ⟨wr.heap.size,0,none⟩ 1 1 (by omega) rfl [.int .i64 (x:Int),.int .i64 0] rfl (cells_elist wr [.int .i64 (x:Int),.int .i64 0] 190 _ rfl) (by intro u hu;simp at hu;rcases hu with rfl|rfl<;>rfl) (by have:=HK9 ();omega) (by have:=HK9 ();omega) ?_;intro a' c' w4 hb4 hd4 hk4;have g0:=((((Keep.refl nil wr).alloc _).mono (fun _ _ e=>e.elim)).trans hk4).cell b 3 hbr (HEB ());have g1:=((((Keep.refl nil wr).alloc _).mono (fun _ _ e=>e.elim)).trans hk4).frozen b 3 hbr (HEB ());rw[d3]at g0;rw[f3]at g1)
   have k24:Keep (inB pr.ea) wr w4:=(((Keep.refl nil wr).alloc _).mono (fun _ _ e=>e.elim)).trans hk4
   rw[←hls]at hb4
   have ho:=(HQ ()).1.1.edge_one x a' c' (by rw[htl];exact hb4) (fun g hg=>by
    rcases hd4 with⟨e,_⟩|⟨e,_⟩
    ·rw[e]at hg;exact Or.inl hg
    ·rw[e]at hg
     have:=inB_some.1 hg
     simp only[World.size_alloc]at this
     exact Or.inr (by omega)) k24
   rw[htl,←take_add ws k x (HX ())]at ho
   refine⟨⟨k+1,_,by have:=HKL ();omega,by go_num,ho.1,(HQ ()).1.2.1.trans' ho.2.keep (fun i hi e=>by have:=(HQ ()).1.2.2 i e;omega),fun i hi=>?_⟩,by have:=HKL ();simp[intOf];omega⟩
   rcases ho.2.mine i hi with hi|hi
   ·exact(HQ ()).1.2.2 i hi
   ·exact Nat.le_trans (HQ ()).1.2.1.size hi
  ·have ek:k=ws.length:=by omega
   subst ek
   have HP:Unit→NRep wr b (Nod.new ws) pr:=fun _=>by have:=(HQ ()).1.1;rw[List.take_length]at this;exact this
   clear hkl hk d3 f3
   go_wp2
   go_ret
   exact⟨b,pr,rfl,HP (),(HQ ()).1.2⟩
theorem int_info:(Tryz.prog.info? 3).map (fun i=>(i.zero,i.size,i.bytes))=some (some (.int .i64 0),1,8):=by kernel_rfl
structure NS(n:Nod):Prop where
 inn:∀i,n.inn=some i→i<n.edges.length
 best:∀i,n.best=some i→i<n.edges.length
 sent:∀c∈n.sent,c.1<n.edges.length
theorem NS.of{n n':Nod}(h:NS n)(he:n'.edges.length=n.edges.length)(hi:n'.inn=n.inn)(hb:n'.best=n.best)(hs:n'.sent=n.sent):NS n':=
 ⟨by rw[hi,he];exact h.inn,by rw[hb,he];exact h.best,by rw[hs,he];exact h.sent⟩
theorem ns_setSt{n:Nod}(h:NS n)(j s:Nat):NS (n.setSt j s):=h.of (setSt_len n j s) rfl rfl rfl
theorem ns_send{n:Nod}(h:NS n)(j:Nat)(m:NMsg)(hj:j<n.edges.length):NS (n.send j m):=
 ⟨h.inn,h.best,fun c hc=>by
  rcases List.mem_append.1 hc with hc|hc
  ·exact h.sent c hc
  ·rw[List.mem_singleton.1 hc];exact hj⟩
theorem light_lt{n:Nod}{j:Nat}(h:n.light=some j):j<n.edges.length:=by
 obtain⟨e,he⟩:=light_at h
 exact(List.getElem?_eq_some_iff.1 he).1
theorem ns_wake{n:Nod}(h:NS n):NS n.wake:=by
 unfold Nod.wake
 split
 ·have h0:NS { n with level:=0,state:=2,count:=0}:=h.of rfl rfl rfl rfl
  split
  ·exact h.of rfl rfl rfl rfl
  ·rename_i j hj
   exact ns_send (ns_setSt h0 j 1) j _ (by rw[setSt_len];exact light_lt hj)
 ·exact h
theorem ns_spread{n:Nod}(h:NS n)(j l nm:Nat)(f:Bool)(hj:j<n.edges.length):NS (n.spread j l nm f):=by
 unfold Nod.spread
 split
 ·exact(ns_send h j _ hj).of rfl rfl rfl rfl
 ·exact ns_send h j _ hj
theorem ns_reports{n:Nod}(h:NS n):NS n.reports:=by
 unfold Nod.reports
 split
 ·have h0:NS { n with state:=2}:=h.of rfl rfl rfl rfl
  split
  ·exact h0
  ·rename_i i hi
   exact ns_send h0 i _ (h.inn i hi)
 ·exact h
theorem ns_tests{n:Nod}(h:NS n):NS n.tests:=by
 unfold Nod.tests
 split
 ·have h0:NS { n with tested:=none}:=h.of rfl rfl rfl rfl
  exact ns_reports h0
 ·rename_i j hj
  have h0:NS { n with tested:=some j}:=h.of rfl rfl rfl rfl
  exact ns_send h0 j _ (light_lt hj)
theorem ns_spreads(fr l nm:Nat)(f:Bool)(k:Nat):∀(n:Nod) (j:Nat),NS n→j+k≤n.edges.length→NS (n.spreads fr l nm f k j):=by
 induction k with
 |zero=>intro n j h _;exact h
 |succ k ih=>
  intro n j h hk
  rw[Nod.spreads]
  split
  ·exact ih _ _ (ns_spread h j l nm f (by omega)) (by rw[(spread_same n j l nm f).1];omega)
  ·exact ih _ _ h (by omega)
theorem ns_initiate{n:Nod}(h:NS n)(fr l nm:Nat)(f:Bool)(hf:fr<n.edges.length):NS (n.initiate fr l nm f):=by
 have h0:NS (n.ini fr l nm f):=⟨fun i hi=>by cases hi;exact hf,(fun i hi=>by cases hi),h.sent⟩
 have h1:=ns_spreads fr l nm f n.edges.length (n.ini fr l nm f) 0 h0 (by simp[Nod.ini])
 rw[initiate_eq]
 split
 ·exact ns_tests h1
 ·exact h1
theorem ns_reject{n:Nod}(h:NS n)(j:Nat):NS (n.reject j):=by
 unfold Nod.reject
 split
 ·exact ns_setSt h _ _
 ·exact h
theorem ns_hear{n:Nod}(h:NS n)(j x:Nat)(hj:j<n.edges.length):NS (n.hear j x):=by
 unfold Nod.hear
 split
 ·exact⟨h.inn,(fun i hi=>by cases hi;exact hj),h.sent⟩
 ·exact h
theorem ns_changeRoot{n:Nod}(h:NS n):NS n.changeRoot:=by
 unfold Nod.changeRoot
 split
 ·exact h
 ·rename_i i hi
  split
  ·exact ns_send h _ _ (h.best i hi)
  ·exact ns_setSt (ns_send h _ _ (h.best i hi)) _ _
theorem ns_act{n:Nod}(h:NS n)(j:Nat)(m:NMsg)(hj:j<n.edges.length):NS (n.act j m).1:=by
 have hw:=ns_wake h
 have hwl:=(wake_edges n).1
 cases m with
 |connect l=>
  show NS (n.connect j l).1
  unfold Nod.connect
  simp only
  split
  ·exact ns_spread (ns_setSt hw j 1) _ _ _ _ (by rw[setSt_len,hwl];exact hj)
  ·split
   ·exact hw
   ·exact ns_send hw _ _ (by rw[hwl];exact hj)
 |initiate l nm f=>exact ns_initiate h j l nm f hj
 |test l nm=>
  show NS (n.test j l nm).1
  unfold Nod.test
  simp only
  split
  ·exact hw
  ·split
   ·exact ns_send hw _ _ (by rw[hwl];exact hj)
   ·have hr:=ns_reject hw j
    split
    ·exact ns_tests hr
    ·exact ns_send hr _ _ (by rw[(reject_same n.wake j).2.2.1,hwl];exact hj)
 |accept=>
  have h0:NS { n with tested:=none}:=h.of rfl rfl rfl rfl
  exact ns_reports (ns_hear h0 j _ hj)
 |reject=>exact ns_tests (ns_reject h j)
 |report x=>
  show NS (n.report j x).1
  unfold Nod.report
  split
  ·split
   ·exact h
   ·split
    ·exact ns_changeRoot h
    ·split
     ·exact h.of rfl rfl rfl rfl
     ·exact h
  ·have h0:NS { n with count:=wrap64 (n.count - 1)}:=h.of rfl rfl rfl rfl
   exact ns_reports (ns_hear h0 j _ hj)
 |root=>exact ns_changeRoot h
theorem ns_oneOff(f:Nat):∀(k:Nat) (n:Nod),NGood n→NS n→NS (n.oneOff f k).1:=by
 induction f with
 |zero=>intro k n _ h;exact h
 |succ f ih=>
  intro k n hg h
  rw[Nod.oneOff]
  split
  ·exact h
  ·rename_i c hc
   have hm:=hg.off c (List.mem_of_getElem? hc)
   have ha:=ns_act h c.1 c.2 hm.1
   split
   ·exact ha.of rfl rfl rfl rfl
   ·exact ih _ _ (hg.fr (fr_act n c.1 c.2 hm.1 hm.2)) ha
structure NWell(n:Nod):Prop where
 good:NGood n
 ns:NS n
theorem offs_well(f:Nat):∀n:Nod,NWell n→(n.off.length:Int)<5000→NWell (n.offs f)∧(n.offs f).edges.length=n.edges.length∧(n.offs f).off.length≤n.off.length∧(n.offs f).sent.length≤n.sent.length+f * (5000 * 1002):=by
 induction f with
 |zero=>intro n h _;exact⟨h,rfl,Nat.le_refl _,Nat.le_add_right _ _⟩
 |succ f ih=>
  intro n h ho
  obtain⟨t1,t2⟩:=oneOff_tk n.off.length 0 n h.good
  have hw:NWell (n.oneOff n.off.length 0).1:=⟨t1.good h.good,ns_oneOff _ _ _ h.good h.ns⟩
  have a1:=t1.sent
  have a2:=h.good.rise.few
  have a3:n.off.length * (n.edges.length+2)≤5000 * 1002:=Nat.mul_le_mul (by omega) (by omega)
  have a4:(f+1) * (5000 * 1002)=f * (5000 * 1002)+5000 * 1002:=Nat.succ_mul _ _
  have a5:=t1.off
  rw[Nod.offs]
  split
  ·obtain⟨i1,i2,i3,i4⟩:=ih _ hw (by omega)
   exact⟨i1,i2.trans t1.len,by omega,by omega⟩
  ·exact⟨hw,t1.len,a5,by omega⟩
theorem take_well(n:Nod)(j:Nat)(m:Fr.Msg)(h:NWell n)(hj:j<n.edges.length)(hm:(typed m).may)(ho:(n.off.length:Int)<5000):NWell (n.take j m)∧(n.take j m).edges.length=n.edges.length∧(n.take j m).off.length≤n.off.length+1∧(n.take j m).sent.length≤n.sent.length+5002 * (5000 * 1002):=by
 have hf:=fr_act n j (typed m) hj hm
 have hw:NWell (n.act j (typed m)).1:=⟨h.good.fr hf,ns_act h.ns j (typed m) hj⟩
 have a1:=hf.sent
 have a2:=h.good.rise.few
 unfold Nod.take
 split
 ·obtain⟨i1,i2,i3,i4⟩:=offs_well ((n.act j (typed m)).1.off.length+1) _ hw (by rw[hf.off];exact ho)
  rw[hf.off]at i1 i2 i3 i4⊢
  have a3:(n.off.length+1) * (5000 * 1002)≤5001 * (5000 * 1002):=Nat.mul_le_mul (by omega) (Nat.le_refl _)
  exact⟨i1,i2.trans hf.len,by omega,by omega⟩
 ·refine⟨⟨hw.good.put j (typed m) (by rw[hf.len];exact hj) hm,hw.ns.of rfl rfl rfl rfl⟩,hf.len,?_,?_⟩
  ·show ((n.act j (typed m)).1.off++[(j,typed m)]).length≤_
   rw[hf.off];simp
  ·show (n.act j (typed m)).1.sent.length≤_
   omega
theorem wake_well(n:Nod)(h:NWell n):NWell n.wake:=⟨h.good.fr (fr_wake n),ns_wake h.ns⟩
theorem new_well(ws:List Nat)(hr:∀(i k:Nat) (e f:Nat),i<k→ws[i]?=some e→ws[k]?=some f→e≤f)(hf:(ws.length:Int)<1000):NWell (Nod.new ws):=
 ⟨NGood.new ws hr hf,(fun i hi=>by cases hi),(fun i hi=>by cases hi),(fun c hc=>by cases hc)⟩
theorem sentNil_well{n:Nod}(h:NWell n):NWell { n with sent:=[]}:=
 ⟨⟨h.good.rise.of rfl,h.good.best,h.good.level,h.good.off⟩,h.ns.inn,h.ns.best,(fun c hc=>by cases hc)⟩
theorem zero_packet(w:World):(zeroValue 200).run Tryz.prog w=.ok (.agg #[.int .i64 0,.int .i64 0,.slice none 0 0,.bool false]) w:=by
 have h:(Tryz.prog.info? 200).map (fun i=>i.zero)=some (some (.agg #[.int .i64 0,.int .i64 0,.slice none 0 0,.bool false])):=by kernel_rfl
 obtain⟨i,hi,hs⟩:=Option.map_eq_some_iff.1 h
 simp[zeroValue,typeInfo,hi,hs]
theorem packet_info:∃i,Tryz.prog.info? 200=some i∧i.size=4:=by
 have h:(Tryz.prog.info? 200).map (fun i=>i.size)=some 4:=by kernel_rfl
 obtain⟨i,hi,hs⟩:=Option.map_eq_some_iff.1 h
 exact⟨i,hi,hs⟩
theorem delete_packet(g o n c k j:Nat)(pre mid x tl sp:List Value)(w:World)(hb:Blk w g (pre++mid++x++tl++sp).toArray 200)(ho:pre.length=o)(hm:mid.length=k * 4)(hx:x.length=4)(ht:tl.length=(n - j) * 4)(h1:∀u∈tl,u.oneCell'=true)(hk:j=k+1)(hjn:j≤n)(hc:n≤c):
 Calls Tryz.prog 167 #[.slice (some ⟨g,o,none⟩) n c,.int .i64 (k:Int),.int .i64 (j:Int)] w fun r w'=>r=.returned (.slice (some ⟨g,o,none⟩) (n - 1) c)∧Blk w' g (pre++mid++tl++[Value.int .i64 0,Value.int .i64 0,Value.slice none 0 0,Value.bool false]++sp).toArray 200∧Keep (only g) w w':=by
 have hkj:k≤j:=by omega
 have hkn:k≤n:=by omega
 have hkc:k≤c:=by omega
 have hkI:(k:Int)≤(j:Int):=by omega
 have hjI:(j:Int)≤(n:Int):=by omega
 have hcI:(n:Int)≤(c:Int):=by omega
 have e1:((k:Int)==(j:Int))=false:=by rw[beq_eq_false_iff_ne];omega
 have e2:¬(k:Int)=(j:Int):=by omega
 have H:Unit→j=k+1∧j≤n∧n≤c:=fun _=>⟨hk,hjn,hc⟩
 obtain⟨i,hi,hsz⟩:=packet_info
 clear hk
 have hbd:Blk w.drew g (pre++mid++x++tl++sp).toArray 200:=hb.keep ((Keep.refl nil w).drew) id
 obtain⟨ad,hite,hca⟩:∃ad:Addr,(if c=j then some (⟨g,o,none⟩:Addr)else some ⟨g,o+j * 4,none⟩)=some ad∧∀q u,tl[q]?=some u→w.drew.cell? (ad.add q)=some u:=by
  by_cases hcj:c=j
  ·refine⟨⟨g,o,none⟩,by rw[if_pos hcj],fun q u hu=>?_⟩
   have hq:=(List.getElem?_eq_some_iff.1 hu).1
   have:=H ()
   have hz:(n - j) * 4=0:=by rw[show n - j=0 by omega]
   omega
  ·refine⟨⟨g,o+j * 4,none⟩,by rw[if_neg hcj],fun q u hu=>?_⟩
   rw[Addr.add_lit]
   have hc0:=hbd.cell (o+j * 4+q)
   have hq:=(List.getElem?_eq_some_iff.1 hu).1
   rw[hc0]
   simp only[List.getElem?_toArray]
   rw[List.append_assoc,List.append_assoc,List.append_assoc,←List.append_assoc,List.getElem?_append_right (by simp;have:=H ();omega),List.getElem?_append_right (by simp;have:=H ();omega),List.getElem?_append_left (by simp;have:=H ();omega)]
   rw[←hu]
   congr 1
   simp
   have:=H ()
   omega
 have hln:tl.length=(n - j) * i.size:=by rw[hsz];exact ht
 have hrm:k+(n - j)≤c:=by have:=H ();omega
 have hft:o+k * i.size+tl.length≤(pre++mid++x++tl++sp).length:=by rw[hsz];simp;have:=H ();omega
 go_enter Tryz.func167,Tryz.ntmps167
 go_wp2_with fail
 go_region_law (refine step_append_room rfl (.tmp 22) (.tmp 25) 85 rfl 200 i Tryz.underlying85 hi g o k c (pre++mid++x++tl++sp) hbd rfl ad (n - j) (c - j) rfl tl hln hca h1 hrm hft ?_;intro W1 hb1 hk1)
 have e3:(pre++mid++x++tl++sp).take (o+k * i.size)=pre++mid:=by
  rw[hsz,List.append_assoc,List.append_assoc,show o+k * 4=(pre++mid).length by simp;omega];exact List.take_left
 have e4:(pre++mid++x++tl++sp).drop (o+k * i.size+tl.length)=(x++tl).drop tl.length++sp:=by
  rw[hsz,←List.drop_drop,show o+k * 4=(pre++mid).length by simp;omega,show pre++mid++x++tl++sp=(pre++mid)++(x++tl++sp)by simp,List.drop_left,List.drop_append_of_le_length (by simp)]
 rw[e3,e4]at hb1
 have H1:Unit→Blk W1 g (pre++mid++tl++((x++tl).drop tl.length++sp)).toArray 200∧Keep (only g) w W1:=fun _=>⟨hb1,((Keep.refl nil w).drew.mono (fun _ _ e=>e.elim)).trans' hk1 (fun _ _ e=>e)⟩
 have hlx:((x++tl).drop tl.length).length=4:=by simp;omega
 have hone:n - (k+(n - j))=1:=by have:=H ();omega
 have hzv:∀w,(zeroValue 200).run Tryz.prog w=.ok (.agg #[.int .i64 0,.int .i64 0,.slice none 0 0,.bool false]) w:=fun w=>zero_packet w
 have hkn2:k+(n - j)≤n:=by have:=H ();omega
 have hkc2:k+(n - j)≤c:=hrm
 have hpl:(pre++mid++tl).length=o+(k+(n - j)) * 4:=by simp;omega
 obtain⟨W2,hrun,hb2,hk2⟩:=run_clear_at (P:=Tryz.prog) W1 85 0 200 _ Tryz.underlying85 hzv g (o+(k+(n - j)) * 4) (n - (k+(n - j))) (c - (k+(n - j))) (by omega) (pre++mid++tl++((x++tl).drop tl.length++sp)) hb1 [Value.int .i64 0,Value.int .i64 0,Value.slice none 0 0,Value.bool false] (by rw[hone];first|kernel_rfl|decide|simp[Builtin.zeroCells,Value.cells,List.ofFn]) (by simp[Value.oneCell']) (by simp only[List.length_append]at hpl hlx⊢;simp;omega)
 have e5:(pre++mid++tl++((x++tl).drop tl.length++sp)).take (o+(k+(n - j)) * 4)=pre++mid++tl:=by rw[←hpl];exact List.take_left
 have e6:(pre++mid++tl++((x++tl).drop tl.length++sp)).drop (o+(k+(n - j)) * 4+[Value.int .i64 0,Value.int .i64 0,Value.slice none 0 0,Value.bool false].length)=sp:=by
  rw[←List.drop_drop,←hpl,List.drop_left,show [Value.int .i64 0,Value.int .i64 0,Value.slice none 0 0,Value.bool false].length=((x++tl).drop tl.length).length by rw[hlx];rfl,List.drop_left]
 rw[e5,e6]at hb2
 have HP:Unit→Blk W2 g (pre++mid++tl++[Value.int .i64 0,Value.int .i64 0,Value.slice none 0 0,Value.bool false]++sp).toArray 200∧Keep (only g) w W2∧n - 1=k+(n - j):=fun _=>⟨hb2,(H1 ()).2.trans' hk2 (fun _ _ e=>e),by have:=H ();omega⟩
 clear hb1 hk1 e3 e4 hbd hb hb2 hk2 e5 e6 hpl hlx hone hzv
 go_wp2
 go_ret
 exact⟨by rw[(HP ()).2.2];rfl,(HP ()).1,(HP ()).2.1⟩
end Go.Proofs.YtlfijfodklhplaaGreat
