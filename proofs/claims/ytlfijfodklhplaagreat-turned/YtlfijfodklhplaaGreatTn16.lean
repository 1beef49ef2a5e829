import Derived.Test.YtlfijfodklhplaaGreatTn15
import Derived.Test.YtlfijfodklhplaaGreatTn13
import Derived.Test.YtlfijfodklhplaaGreatTn07
set_option maxHeartbeats 2000000
set_option linter.unusedVariables false
set_option linter.unusedSimpArgs false
namespace Go.Proofs.YtlfijfodklhplaaGreat
open Go.RowKit
theorem run_copy_sz{P:Program}(w:World)(dT sT ty elem:TypeId)(size g o dLen dCap:Nat)(a:Addr)(sLen sCap n:Nat)(cur:Array Value)(t:TypeId)(cs:List Value)
 (hu:P.underlying dT=some (.slice elem)) (hs:(P.info? elem).map (·.size)=some size)
 (hg:w.heap[g]?=some (.cells cur t (0,0))) (hn:Nat.min sLen dLen=n) (hl:cs.length=n * size)
 (hsrc:∀j v,cs[j]?=some v→w.cell? (a.add j)=some v) (hfit:o+cs.length≤cur.size) (h1:∀v∈cs,v.oneCell'=true):
 (Builtin.copy_ #[dT,sT] ty #[.slice (some ⟨g,o,none⟩) dLen dCap,.slice (some a) sLen sCap]).run P w=
  .ok (goInt n) (w.setRow g (cur.toList.take o++cs++cur.toList.drop (o+cs.length)).toArray):=by
 have hlo:=run_loadCells_list (P:=P) w a cs hsrc
 have hst:=run_storeCells_at P g o t cs 0 cur w hg (by simpa using hfit) h1
 cases hq:P.info? elem with
 |none=>simp[hq]at hs
 |some i=>
  have hi:i.size=size:=by simpa [hq]using hs
  simp[Builtin.copy_,run_underlying hu,Builtin.lenOf,Builtin.firstCells,sizeOf,typeInfo,hq,hi,hn,←hl,hlo,hst]
theorem step_copy_sz{P:Program}{ops:Array Oper}{o:Oper}{a:Act}{w:World}{K:Act→World→Prop}{Q:Exit→Act→World→Prop}{E:Prop}(hgd:o.guard=none)(d s:Operand)(dT sT:TypeId)
 (ho:o.op=.call { callee:=.builtin .copy,args:=#[d,s],argTypes:=#[dT,sT]}) (elem:TypeId) (size:Nat) (hu:P.underlying dT=some (.slice elem)) (hsz:(P.info? elem).map (·.size)=some size)
 (g off dLen dCap sLen sCap:Nat) (ad:Addr) (hd:a.eval d=.slice (some ⟨g,off,none⟩) dLen dCap) (hs:a.eval s=.slice (some ad) sLen sCap) (n:Nat) (hn:Nat.min sLen dLen=n)
 (cur:Array Value) (t:TypeId) (hg:Blk w g cur t) (cs:List Value) (hl:cs.length=n * size)
 (hsrc:∀j v,cs[j]?=some v→w.cell? (ad.add j)=some v) (hfit:off+cs.length≤cur.size) (h1:∀v∈cs,v.oneCell'=true)
 (h:∀w',Blk w' g (cur.toList.take off++cs++cur.toList.drop (off+cs.length)).toArray t→Keep (only g) w w'→K (a.put o.dst (goInt n)) w'):
 if Region.wanted o (yielded ops a.tmps)=true then Oper.wp P o a w K Q else E:=by
 have hw:Region.wanted o (yielded ops a.tmps)=true:=by simp[Region.wanted,hgd]
 rw[if_pos hw]
 have hrun:=run_copy_sz (P:=P) w dT sT o.type elem size g off dLen dCap ad sLen sCap n cur t cs hu hsz hg hn hl hsrc hfit h1
 unfold Oper.wp
 simp[execOp,ho,resolve,invoke,builtin,hd,hs,hrun,Result.andThen]
 exact h _ (by rw[List.append_assoc];exact setRow_heap w g _ _ t _ hg) ⟨rfl,rfl,rfl,by simp[World.setRow],fun k hk hn=>setRow_other w g k _ hn⟩
theorem slot_info:(Tryz.prog.info? 140).map (·.size)=some 5:=by kernel_rfl
theorem slots_one(l:List (Option Fr.Msg)):∀u∈slots l,u.oneCell'=true:=by
 intro u hu
 obtain⟨x,_,h⟩:=List.mem_flatMap.1 hu
 simp only[slot,mcell,List.cons_append,List.nil_append,List.mem_cons,List.not_mem_nil,or_false]at h
 rcases h with rfl|rfl|rfl|rfl|rfl<;>rfl
theorem put_splice(c:Array Value)(o:Nat)(l:List Value)(h:o+l.length≤c.size)(i:Nat)(cs:List Value)(hi:i+cs.length≤l.length):
 ((put c o l).toList.take (o+i)++cs++(put c o l).toList.drop (o+i+cs.length)).toArray=put c o (l.take i++cs++l.drop (i+cs.length)):=by
 have h1:(c.toList.take o).length=o:=by simp;omega
 apply Array.ext'
 simp only[put]
 have e1:(c.toList.take o++l++c.toList.drop (o+l.length)).take (o+i)=c.toList.take o++l.take i:=by
  rw[List.append_assoc,List.take_append,h1,List.take_of_length_le (by omega),Nat.add_sub_cancel_left,List.take_append_of_le_length (by omega)]
 have e2:(c.toList.take o++l++c.toList.drop (o+l.length)).drop (o+i+cs.length)=l.drop (i+cs.length)++c.toList.drop (o+l.length):=by
  rw[List.append_assoc,List.drop_append,h1,List.drop_of_length_le (by omega),List.nil_append,Nat.add_assoc,Nat.add_sub_cancel_left,List.drop_append,Nat.sub_eq_zero_of_le (by omega),List.drop_zero]
 rw[e1,e2]
 have e3:(l.take i++cs++l.drop (i+cs.length)).length=l.length:=by simp;omega
 rw[e3]
 simp
def En.pop(e:En):En:={ e with await:=e.await+1,kept:=e.kept.drop 1++[none]}
def En.pops(e:En)(j:Nat):En:={ e with await:=e.await+j,kept:=e.kept.drop j++List.replicate j none}
theorem pops_zero(e:En):e.pops 0=e:=by simp[En.pops]
theorem pops_succ(e:En)(j:Nat)(h:j<e.kept.length):(e.pops j).pop=e.pops (j+1):=by
 unfold En.pops En.pop
 congr 1
 simp only
 rw[List.drop_append_of_le_length (by simp;omega),List.drop_drop,List.append_assoc,List.replicate_succ']
theorem pop_cells(e:En)(p:Pl)(x0 x1 x2 x3:Option Fr.Msg)(h:e.kept=[x0,x1,x2,x3]):
 (((((((e.cells p).set 2 (.int .i64 ((e.await:Int)+1))).take 3++slots [x1,x2,x3]++((e.cells p).set 2 (.int .i64 ((e.await:Int)+1))).drop 18).set 18 (.int .i64 0)).set 19 (.int .i64 0)).set 20 (.int .i64 0)).set 21 (.bool false)).set 22 (.bool false)=e.pop.cells p:=by
 obtain⟨f,wt,aw,kp,ot⟩:=e
 simp only at h
 subst h
 rfl
theorem pop_src(e:En)(p:Pl)(x0 x1 x2 x3:Option Fr.Msg)(h:e.kept=[x0,x1,x2,x3])(v:Value)(j:Nat)(u:Value)(hu:(slots [x1,x2,x3])[j]?=some u):((e.cells p).set 2 v)[8+j]?=some u:=by
 obtain⟨f,wt,aw,kp,ot⟩:=e
 simp only at h
 subst h
 have hj:=(List.getElem?_eq_some_iff.1 hu).1
 have e1:((⟨f,wt,aw,[x0,x1,x2,x3],ot⟩:En).cells p).set 2 v=[.int .i64 (f:Int),.slice p.wa wt.length p.wc,v]++slot x0++(slots [x1,x2,x3]++[.slice p.oa ot.length p.oc]):=rfl
 rw[e1,List.getElem?_append_right (by simp[slot,mcell])]
 have e2:8+j - ([.int .i64 (f:Int),.slice p.wa wt.length p.wc,v]++slot x0).length=j:=by simp[slot,mcell]
 rw[e2,List.getElem?_append_left hj,hu]
theorem pop_mid(e:En)(p:Pl)(x0 x1 x2 x3:Option Fr.Msg)(h:e.kept=[x0,x1,x2,x3])(v:Value)(j:Nat)(hj:j<5):(((e.cells p).set 2 v).take 3++slots [x1,x2,x3]++((e.cells p).set 2 v).drop 18)[18+j]?=(slot x3)[j]?:=by
 obtain⟨f,wt,aw,kp,ot⟩:=e
 simp only at h
 subst h
 match j,hj with
 |0,_=>rfl
 |1,_=>rfl
 |2,_=>rfl
 |3,_=>rfl
 |4,_=>rfl
theorem Rep.popped{w w1:World}{c:Array Value}{t:TypeId}{b o:Nat}{e:En}{p:Pl}(h:Rep w c t b o e p)(m:Fr.Msg)(hm:e.kept[0]?=some (some m))(ks:Keep (only b) w w1)(hblk:Blk w1 b (put c o (e.pop.cells p)) t):Rep w1 c t b o e.pop p:=by
 have h4:=h.four
 refine { blk:=hblk,fit:=h.fit,four:=by simp[En.pop,h4],wrow:=h.wrow.keep ks (fun k hk hb=>h.wb (hb▸hk)),orow:=h.orow.keep ks (fun k hk hb=>h.ob (hb▸hk)),gl:=h.gl,bufs:=fun i g f hg hf=>(h.bufs i g f hg hf).keep ks (fun hb=>h.gw g (List.mem_of_getElem? hg) (Or.inl hb)),wb:=h.wb,ob:=h.ob,wo:=h.wo,gw:=h.gw,gn:=h.gn,wok:=h.wok,most:=h.most,awt:=?_,kn:=?_,fok:=h.fok}
 ·have:=h.kn 0 m hm
  show e.await+1≤65536
  omega
 ·intro i m' hm'
  show e.await+1+i<65536
  have hx:(e.kept.drop 1++[none])[i]?=some (some m'):=hm'
  by_cases hi:i<(e.kept.drop 1).length
  ·rw[List.getElem?_append_left hi,List.getElem?_drop]at hx
   have:=h.kn (1+i) m' hx
   omega
  ·rw[List.getElem?_append_right (by omega)]at hx
   have hj:=(List.getElem?_eq_some_iff.1 hx).1
   have:i - (e.kept.drop 1).length=0:=by simp at hj⊢;omega
   rw[this]at hx
   simp at hx
def lenV:Value→Nat
 | .slice _ n _=>n
 |_=>0
theorem ready_pops(e:En)(l:List Fr.Msg)(m:Fr.Msg)(h:En.ready e.kept=l++En.ready (e.pops l.length).kept)(hm:(e.pops l.length).kept[0]?=some (some m))(h4:l.length<e.kept.length):
 En.ready e.kept=(l++[m])++En.ready (e.pops (l++[m]).length).kept:=by
 rw[h,List.append_assoc]
 congr 1
 have hp:(e.pops l.length).kept=some m::(e.pops l.length).kept.drop 1:=by
  cases hk:(e.pops l.length).kept with
  |nil=>rw[hk]at hm;simp at hm
  |cons x r=>rw[hk]at hm;simp at hm;subst hm;rfl
 have hr:∀l:List (Option Fr.Msg),En.ready (l++[none])=En.ready l:=by
  intro l
  induction l with
  |nil=>rfl
  |cons x r ih=>cases x<;>simp[En.ready,ih]
 rw[hp,List.length_append,List.length_singleton,←pops_succ e l.length h4]
 simp only[En.ready,En.pop,hr,List.singleton_append]
theorem take_any(c:Array Value)(t:TypeId)(b o:Nat)(e:En)(p:Pl)(w:World)(h:Rep w c t b o e p):
 Calls Tryz.prog 196 #[.pointer (some ⟨b,o+2,none⟩)] w fun r w'=>∃ta tc,r=.returned (.slice ta (En.ready e.kept).length tc)∧RV w' 76 4 ta (En.ready e.kept).length tc (mcells (En.ready e.kept))∧(∀g,inB ta g→w.heap.size≤g∧¬Mine b p g)∧Rep w' c t b o e.take p∧Step w w' b p p:=by
 have HR:Unit→Rep w c t b o e p:=fun _=>h
 clear h
 go_enter Tryz.func196,Tryz.ntmps196
 go_wp2_with fail
 go_loopw [3] (fun v wr=>∃(l:List Fr.Msg) (ta:Option Addr) (tc:Nat),v=.slice ta l.length tc∧l.length≤4∧RV wr 76 4 ta l.length tc (mcells l)∧(∀g,inB ta g→w.heap.size≤g)∧En.ready e.kept=l++En.ready (e.pops l.length).kept∧Rep wr c t b o (e.pops l.length) p∧Keep (only b) w wr) (fun v _=>4 - lenV v)
 case atStart=>exact⟨[],none,0,rfl,by simp,RV.nil _ _ _,fun g hg=>(inB_none g hg).elim,by simp[pops_zero],by rw[List.length_nil,pops_zero];exact HR (),Keep.refl _ _⟩
 case round=>
  obtain⟨l,ta,tc,rfl,hl4,hrv,hta,hrd,hr,hk⟩:=hrel
  obtain⟨x0,x1,x2,x3,hkept⟩:=four_of _ hr.four
  obtain⟨e1,he1⟩:∃e1,e1=e.pops l.length:=⟨_,rfl⟩
  rw[←he1]at hr hkept hrd
  have hh:=hr.cell 7 _ (by rw[cells_kept e1 p 0 x0 (by rw[hkept];rfl) 4 (by omega)];rfl)
  cases x0 with
  |none=>
   have HX:Unit→_:=fun _=>(⟨hrv,hta,hrd,hr,hk,he1,hkept⟩:_∧_∧_∧_∧_∧_∧_)
   clear hrv hta hrd hr hk he1 hkept
   go_wp2
   go_ret
   obtain⟨hrv,hta,hrd,hr,hk,he1,hkept⟩:=HX ()
   have e0:En.ready e1.kept=[]:=by rw[hkept];rfl
   rw[e0,List.append_nil]at hrd
   have ht:e.take=e.pops l.length:=by unfold En.take En.pops;rw[hrd]
   refine⟨ta,tc,by rw[hrd];rfl,by rw[hrd];exact hrv,fun g hg=>⟨hta g hg,fun x=>?_⟩,by rw[ht,←he1];exact hr,⟨fun _ h=>Or.inl h,fun _ h=>Or.inl h,hk.mono (fun _ _ x=>Or.inl x)⟩⟩
   have:=(HR ()).lt g x
   have:=hta g hg
   omega
  |some m=>
   have hl5:l.length<4:=by
    refine Nat.lt_of_le_of_ne hl4 (fun x=>?_)
    have hk4:=(HR ()).four
    rw[he1,x]at hkept
    unfold En.pops at hkept
    simp only at hkept
    rw[List.drop_of_length_le (by omega)]at hkept
    simp[List.replicate]at hkept
   have hbl:=(HR ()).blk.lt
   have hzw:=hk.size
   have c3:=hr.cell 3 _ (by rw[cells_kept e1 p 0 (some m) (by rw[hkept];rfl) 0 (by omega)];rfl)
   have c4:=hr.cell 4 _ (by rw[cells_kept e1 p 0 (some m) (by rw[hkept];rfl) 1 (by omega)];rfl)
   have c5:=hr.cell 5 _ (by rw[cells_kept e1 p 0 (some m) (by rw[hkept];rfl) 2 (by omega)];rfl)
   have c6:=hr.cell 6 _ (by rw[cells_kept e1 p 0 (some m) (by rw[hkept];rfl) 3 (by omega)];rfl)
   have c2:=hr.c2
   have hfr:=fun i=>hr.frozen i
   have hnb:¬inB ta b:=fun x=>by have:=hta b x;omega
   have haw:(e1.await:Int)<65536:=by have:=hr.kn 0 m (by rw[hkept];rfl);omega
   have HX:Unit→_:=fun _=>(⟨hrv,hta,hrd,hr,hk,he1,hkept⟩:_∧_∧_∧_∧_∧_∧_)
   clear hta hrd hr hk he1 hkept
   have HC:Unit→∀w1,Keep (inB ta) wr w1→∀i,w1.cell? ⟨b,i,none⟩=wr.cell? ⟨b,i,none⟩∧w1.frozen? ⟨b,i,none⟩=false:=fun _ w1 k1 i=>⟨k1.cell b i (by omega) hnb,(k1.frozen b i (by omega) hnb).trans (hfr i)⟩
   go_wp2_with (at_builtin;refine wpList_append_rv _ rfl (.tmp 10) (.tmp 17) 112 rfl 76 (.agg #[.int .i64 0,.int .i64 0,.int .i64 0,.bool false]) 4 32 Tryz.underlying112 msg_info rfl ta l.length tc rfl (mcells l) (hrv.alloc _) ⟨wr.heap.size,0,none⟩ 1 1 (by omega) rfl (mcell m) rfl (cells_list wr (mcell m) 76 _ rfl) (by simpa [mcells]using mcells_one [m]) (by omega) (by omega) ?_;intro ta' tc' w1 hr1 hg1 hk1;have hkw:Keep (inB ta) wr w1:=((Keep.refl _ wr).alloc _).trans hk1;have d2:=((HC () w1 hkw (o+2)).1).trans c2;have f2:=(HC () w1 hkw (o+2)).2)
   have HR1:Unit→Rep w1 c t b o e1 p:=fun _=>(HX ()).2.2.2.1.keep hkw (fun i hi x=>by
    have h1:=(HX ()).2.1 i x
    have h2:=(HR ()).lt i hi
    omega)
   have hb2:Blk (w1.setCell ⟨b,o+2,none⟩ (.int .i64 ((e1.await:Int)+1))) b (put c o ((e1.cells p).set 2 (.int .i64 ((e1.await:Int)+1)))) t:=(HR1 ()).blk.put_at (HR1 ()).len 2 (by rw[cells_len e1 p (HR1 ()).four];omega) _
   have hlen:o+((e1.cells p).set 2 (.int .i64 ((e1.await:Int)+1))).length≤c.size:=by simpa using (HR1 ()).len
   have hsrc:∀j v,(slots [x1,x2,x3])[j]?=some v→(w1.setCell ⟨b,o+2,none⟩ (.int .i64 ((e1.await:Int)+1))).drew.cell? ((⟨b,o+8,none⟩:Addr).add j)=some v:=fun j v hv=>by
    rw[Addr.add_lit,World.cell?_drew,Nat.add_assoc]
    exact hb2.at hlen (8+j) v (pop_src e1 p (some m) x1 x2 x3 (HX ()).2.2.2.2.2.2 _ j v hv)
   have hfit:o+3+(slots [x1,x2,x3]).length≤(put c o ((e1.cells p).set 2 (.int .i64 ((e1.await:Int)+1)))).size:=by
    rw[put_size _ _ _ hlen,slots_len]
    have:=(HR1 ()).fit
    simp;omega
   have HB2:Unit→_:=fun _=>(⟨hb2,hsrc,hfit,hlen⟩:_∧_∧_∧_)
   clear hb2 hsrc hfit hlen c3 c4 c5 c6 c2 hh
   go_region_law (refine step_copy_sz rfl (.tmp 29) (.tmp 33) 339 339 rfl 140 5 Tryz.underlying339 slot_info b (o+2+1) 4 4 3 3 ⟨b,o+2+1+5,none⟩ (by simp[Act.eval,Act.put]) (by simp[Act.eval,Act.put]) 3 rfl (put c o ((e1.cells p).set 2 (.int .i64 ((e1.await:Int)+1)))) t ((HB2 ()).1.drew) (slots [x1,x2,x3]) rfl (HB2 ()).2.1 (HB2 ()).2.2.1 (slots_one _) ?_;intro w3 hb3 hk3)
   all_goals
    have h15:(slots [x1,x2,x3]).length=15:=rfl
    have hb4:Blk w3 b (put c o (((e1.cells p).set 2 (.int .i64 ((e1.await:Int)+1))).take 3++slots [x1,x2,x3]++((e1.cells p).set 2 (.int .i64 ((e1.await:Int)+1))).drop 18)) t:=by
     have:=put_splice c o ((e1.cells p).set 2 (.int .i64 ((e1.await:Int)+1))) (HB2 ()).2.2.2 3 (slots [x1,x2,x3]) (by rw[h15,List.length_set,cells_len e1 p (HR1 ()).four];omega)
     rw[h15]at this hb3
     rw[←this]
     exact hb3
    have hl3:o+(((e1.cells p).set 2 (.int .i64 ((e1.await:Int)+1))).take 3++slots [x1,x2,x3]++((e1.cells p).set 2 (.int .i64 ((e1.await:Int)+1))).drop 18).length≤c.size:=by
     have:=(HR1 ()).fit
     have h24:=cells_len e1 p (HR1 ()).four
     simp only[List.length_append,List.length_take,List.length_drop,List.length_set,slots_len,h24,List.length_cons,List.length_nil]
     omega
    have s0:=hb4.at hl3 18 _ ((pop_mid e1 p _ x1 x2 x3 (HX ()).2.2.2.2.2.2 _ 0 (by omega)).trans rfl)
    have s1:=hb4.at hl3 19 _ ((pop_mid e1 p _ x1 x2 x3 (HX ()).2.2.2.2.2.2 _ 1 (by omega)).trans rfl)
    have s2:=hb4.at hl3 20 _ ((pop_mid e1 p _ x1 x2 x3 (HX ()).2.2.2.2.2.2 _ 2 (by omega)).trans rfl)
    have s3:=hb4.at hl3 21 _ ((pop_mid e1 p _ x1 x2 x3 (HX ()).2.2.2.2.2.2 _ 3 (by omega)).trans rfl)
    have s4:=hb4.at hl3 22 _ ((pop_mid e1 p _ x1 x2 x3 (HX ()).2.2.2.2.2.2 _ 4 (by omega)).trans rfl)
    have s5:=fun i=>hb4.frozen i
    have H4:Unit→_:=fun _=>(⟨hb4,hl3⟩:_∧_)
    clear hb3 hb4 hl3
    go_wp2
    go_roundw
    case rel=>
     obtain⟨hrv,hta,hrd,hr,hk,he1,hkept⟩:=HX ()
     obtain⟨hb4,hl3⟩:=H4 ()
     have hz1:=hkw.size
     obtain⟨W,hW⟩:∃W,W=set5 w3 b (o+18) Fr.none0 false:=⟨_,rfl⟩
     have kW:Keep (only b) w3 W:=by
      rw[hW];unfold set5
      exact(((((Keep.refl (only b) w3).setCell (p:=⟨b,o+18,none⟩) (fun _=>rfl) _).setCell (p:=⟨b,o+18+1,none⟩) (fun _=>rfl) _).setCell (p:=⟨b,o+18+2,none⟩) (fun _=>rfl) _).setCell (p:=⟨b,o+18+3,none⟩) (fun _=>rfl) _).setCell (p:=⟨b,o+18+4,none⟩) (fun _=>rfl) _
     have kA:Keep (only b) w1 W:=(((Keep.refl (only b) w1).setCell (p:=⟨b,o+2,none⟩) (fun _=>rfl) _).drew.trans hk3).trans kW
     have bW:Blk W b (put c o (e1.pop.cells p)) t:=by
      rw[←pop_cells e1 p (some m) x1 x2 x3 hkept,hW]
      have hL:(((e1.cells p).set 2 (.int .i64 ((e1.await:Int)+1))).take 3++slots [x1,x2,x3]++((e1.cells p).set 2 (.int .i64 ((e1.await:Int)+1))).drop 18).length=24:=by
       have h24:=cells_len e1 p (HR1 ()).four
       simp only[List.length_append,List.length_take,List.length_drop,List.length_set,h24,h15]
       omega
      generalize ((e1.cells p).set 2 (.int .i64 ((e1.await:Int)+1))).take 3++slots [x1,x2,x3]++((e1.cells p).set 2 (.int .i64 ((e1.await:Int)+1))).drop 18=L at *
      have t0:=hb4.put_at hl3 18 (by omega) (.int .i64 0)
      have t1:=t0.put_at (by rw[List.length_set];exact hl3) 19 (by rw[List.length_set];omega) (.int .i64 0)
      have t2:=t1.put_at (by rw[List.length_set,List.length_set];exact hl3) 20 (by rw[List.length_set,List.length_set];omega) (.int .i64 0)
      have t3:=t2.put_at (by rw[List.length_set,List.length_set,List.length_set];exact hl3) 21 (by rw[List.length_set,List.length_set,List.length_set];omega) (.bool false)
      exact t3.put_at (by rw[List.length_set,List.length_set,List.length_set,List.length_set];exact hl3) 22 (by rw[List.length_set,List.length_set,List.length_set,List.length_set];omega) (.bool false)
     have hm0:e1.kept[0]?=some (some m):=by rw[hkept];rfl
     have hrW:=(HR1 ()).popped m hm0 kA bW
     have hps:e1.pop=e.pops (l++[m]).length:=by rw[he1,List.length_append,List.length_singleton];exact pops_succ e l.length (by rw[(HR ()).four];exact hl5)
     refine⟨l++[m],ta',tc',by simp,by simp;omega,?_,?_,?_,?_,?_⟩
     ·rw[hW]at kA
      rw[mcells_append,List.length_append,List.length_singleton]
      refine RV.keep ?_ kA (fun g hg hb=>?_)
      ·simpa [mcells]using hr1
      ·simp only[only]at hb
       subst hb
       rcases hg1 _ hg with x|x
       ·exact hnb x
       ·simp only[World.size_alloc]at x;omega
     ·intro g hg
      rcases hg1 g hg with x|x
      ·exact hta g x
      ·simp only[World.size_alloc]at x;omega
     ·exact ready_pops e l m (by rw[←he1];exact hrd) (by rw[←he1];exact hm0) (by rw[(HR ()).four];exact hl5)
     ·rw[←hps];rw[hW]at hrW;exact hrW
     ·rw[hW]at kA
      exact(hk.trans' hkw (fun i hi x=>by have:=hta i x;omega)).trans kA
    case measure=>simp[lenV];omega
def Told(w w':World)(b:Nat)(p':Pl)(v:Value)(l:List Fr.Msg):Prop:=∃ta tc,v=.slice ta l.length tc∧RV w' 76 4 ta l.length tc (mcells l)∧∀g,inB ta g→w.heap.size≤g∧¬Mine b p' g
theorem take_await(e:En)(h:e.take.await<65536):e.take.answer={ e.take with out:=e.take.out++[⟨false,e.take.await,Fr.none0⟩]}:=by
 unfold En.answer;rw[if_pos h]
theorem take_await_no(e:En)(h:¬e.take.await<65536):e.take.answer=e.take:=by
 unfold En.answer;rw[if_neg h]
theorem keep_out(e:En)(n:Nat)(m:Fr.Msg):(e.keep n m).take.out=e.out:=by
 unfold En.keep En.take
 split
 ·split<;>rfl
 ·rfl
theorem came_any(c:Array Value)(t:TypeId)(b o:Nat)(e:En)(p:Pl)(n:Nat)(m:Fr.Msg)(w:World)(h:Rep w c t b o e p)(hn:(n:Int)<65536)(ho:(e.out.length:Int)<1099511627000):
 Calls Tryz.prog 170 #[.pointer (some ⟨b,o,none⟩),.agg (fc true (n:Int) (m.kind:Int) (m.level:Int) (m.name:Int) m.finding)] w fun r w'=>∃v p',r=.returned v∧Told w w' b p' v (e.told n m)∧Rep w' c t b o (e.came n m) p'∧Step w w' b p p':=by
 have hbl:=h.blk.lt
 have HR:Unit→Rep w c t b o e p:=fun _=>h
 have HO:Unit→(e.out.length:Int)<1099511627000:=fun _=>ho
 have HOUT:Unit→((e.keep n m).take.out.length:Int)<1099511627776:=fun _=>by rw[keep_out];omega
 have HKEEP:Unit→∀w0,Keep nil w w0→_:=fun _ w0 k0=>keep_any c t b o e p n m w0 (h.keep k0 (fun _ _ x=>x)) hn
 clear h ho
 go_enter Tryz.func170,Tryz.ntmps170
 go_wp2_with fail
 go_region_with (go_at_call 195;refine(HKEEP () _ (((Keep.refl nil w).alloc _).drew)).mono ?_;rintro r w1 ⟨rfl,hr1,hs1⟩)
 all_goals
  have HS1:Unit→_:=fun _=>(⟨hr1,hs1⟩:_∧_)
  clear hr1 hs1 HKEEP
  go_wp2_with fail
  refine(take_any c t b o (e.keep n m) p w1 (HS1 ()).1).mono ?_
  rintro r w2 ⟨ta,tc,rfl,hrv,hta,hr2,hs2⟩
  have q2:=hr2.c2
  have haw:((e.keep n m).take.await:Int)≤65536:=by have:=hr2.awt;omega
  have HS2:Unit→_:=fun _=>(⟨hrv,hta,hr2,hs2⟩:_∧_∧_∧_)
  clear hrv hta hr2 hs2
  by_cases hlt:(e.keep n m).take.await<65536
  ·have hltI:((e.keep n m).take.await:Int)<65536:=by omega
   have HL:Unit→(e.keep n m).take.await<65536:=fun _=>hlt
   clear hlt
   obtain⟨aw,hawe⟩:∃aw,aw=(e.keep n m).take.await:=⟨_,rfl⟩
   rw[←hawe]at q2 hltI
   have HA:Unit→aw=(e.keep n m).take.await:=fun _=>hawe
   clear hawe haw
   go_wp2_with fail
   have hf:FrOk ⟨false,aw,Fr.none0⟩:=⟨by have:=HL ();have:=HA ();simp only;omega,Or.inr ⟨rfl,rfl⟩⟩
   refine(goesOut_any c t b o (e.keep n m).take p ⟨false,aw,Fr.none0⟩ hf w2 (HS2 ()).2.2.1 (HOUT ())).mono ?_
   rintro r w3 ⟨rfl,p3,hr3,hs3⟩
   have HS3:Unit→_:=fun _=>(⟨hr3,hs3⟩:_∧_)
   clear hr3 hs3
   go_wp2
   go_ret
   obtain⟨hrv,hta,hr2,hs2⟩:=HS2 ()
   obtain⟨hr3,hs3⟩:=HS3 ()
   have hs0:Step w w1 b p p:=(Step.of_keep b p (((Keep.refl nil w).alloc _).drew)).trans (HS1 ()).2
   refine⟨_,p3,rfl,⟨ta,tc,rfl,hrv.keep hs3.keep (fun g hg x=>(hta g hg).2 x.mine),fun g hg=>⟨Nat.le_trans hs0.keep.size (hta g hg).1,fun x=>(hs3.mine g x).elim (hta g hg).2 (fun y=>by have:=hrv.lt g hg;omega)⟩⟩,?_,(hs0.trans hs2).trans hs3⟩
   unfold En.came
   rw[take_await _ (HL ()),←HA ()]
   exact hr3
  ·have hltI:((e.keep n m).take.await:Int)=65536:=by omega
   have HL:Unit→¬(e.keep n m).take.await<65536:=fun _=>hlt
   rw[hltI]at q2
   clear hlt haw hltI
   go_wp2
   go_ret
   obtain⟨hrv,hta,hr2,hs2⟩:=HS2 ()
   have hs0:Step w w1 b p p:=(Step.of_keep b p (((Keep.refl nil w).alloc _).drew)).trans (HS1 ()).2
   refine⟨_,p,rfl,⟨ta,tc,rfl,hrv,fun g hg=>⟨Nat.le_trans hs0.keep.size (hta g hg).1,(hta g hg).2⟩⟩,?_,hs0.trans hs2⟩
   unfold En.came
   rw[take_await_no _ (HL ())]
   exact hr2
structure Lies(w:World)(bb bo cap:Nat)(l:List Nat):Prop where
 row:Row w bb bo l
 lt:bb<w.heap.size
 cap:l.length≤cap
 len:l.length<140737488355328
 byte:∀x∈l,x<256
theorem linkIn_no(b o bb bo cap:Nat)(l:List Nat)(w:World)(hl:Lies w bb bo cap l)(hno:∀x,¬ReadOk l x):
 Calls Tryz.prog 116 #[.pointer (some ⟨b,o,none⟩),.slice (some ⟨bb,bo,none⟩) l.length cap] w fun r w'=>r=.returned (.slice none 0 0)∧Keep nil w w':=by
 have HD:Unit→_:=fun _=>decode_no bb bo cap l w hl.row hl.lt hl.cap hl.len hl.byte hno
 clear hl hno
 go_enter Tryz.func116,Tryz.ntmps116
 go_wp2_with fail
 refine(HD ()).mono ?_
 rintro r w1 ⟨rfl,hk1⟩
 clear HD
 go_wp2
 go_ret
 exact⟨rfl,hk1.alloc _⟩
theorem linkIn_ack(c:Array Value)(t:TypeId)(b o:Nat)(e:En)(p:Pl)(bb bo cap n:Nat)(l:List Nat)(w:World)(h:Rep w c t b o e p)(hl:Lies w bb bo cap l)(hx:ReadOk l (six ⟨false,n,Fr.none0⟩))(hn:(n:Int)<65536)(ho:(e.out.length:Int)<1099511627000):
 Calls Tryz.prog 116 #[.pointer (some ⟨b,o,none⟩),.slice (some ⟨bb,bo,none⟩) l.length cap] w fun r w'=>r=.returned (.slice none 0 0)∧∃p',Rep w' c t b o (e.ack n) p'∧Step w w' b p p':=by
 have HD:Unit→_:=fun _=>decode_yes bb bo cap l w hl.row hl.lt hl.cap hl.len hl.byte _ hx
 have HR:Unit→_:=fun _=>h
 have HO:Unit→(e.out.length:Int)<1099511627000:=fun _=>ho
 clear h hl hx ho
 go_enter Tryz.func116,Tryz.ntmps116
 go_wp2_with fail
 refine(HD ()).mono ?_
 rintro r w1 ⟨rfl,hk1⟩
 clear HD
 simp only[six]
 go_wp2_with fail
 have hk2:Keep nil w (w1.alloc (.cells (fc false (n:Int) 0 0 0 false) 78)):=hk1.alloc _
 refine(acked_any c t b o e p n _ ((HR ()).keep hk2 (fun _ _ x=>x)) (by omega) (HO ())).mono ?_
 rintro r w2 ⟨rfl,p2,hr2,hs2⟩
 go_wp2
 go_ret
 exact⟨rfl,p2,hr2,(Step.of_keep b p hk2).trans hs2⟩
theorem linkIn_msg(c:Array Value)(t:TypeId)(b o:Nat)(e:En)(p:Pl)(bb bo cap n:Nat)(m:Fr.Msg)(l:List Nat)(w:World)(h:Rep w c t b o e p)(hl:Lies w bb bo cap l)(hx:ReadOk l (six ⟨true,n,m⟩))(hn:(n:Int)<65536)(ho:(e.out.length:Int)<1099511627000):
 Calls Tryz.prog 116 #[.pointer (some ⟨b,o,none⟩),.slice (some ⟨bb,bo,none⟩) l.length cap] w fun r w'=>∃v p',r=.returned v∧Told w w' b p' v (e.told n m)∧Rep w' c t b o (e.came n m) p'∧Step w w' b p p':=by
 have HD:Unit→_:=fun _=>decode_yes bb bo cap l w hl.row hl.lt hl.cap hl.len hl.byte _ hx
 have HR:Unit→_:=fun _=>h
 have HO:Unit→(e.out.length:Int)<1099511627000:=fun _=>ho
 clear h hl hx ho
 go_enter Tryz.func116,Tryz.ntmps116
 go_wp2_with fail
 refine(HD ()).mono ?_
 rintro r w1 ⟨rfl,hk1⟩
 clear HD
 simp only[six]
 go_wp2_with fail
 have hk2:Keep nil w (w1.alloc (.cells (fc true (n:Int) (m.kind:Int) (m.level:Int) (m.name:Int) m.finding) 78)):=hk1.alloc _
 refine(came_any c t b o e p n m _ ((HR ()).keep hk2 (fun _ _ x=>x)) hn (HO ())).mono ?_
 rintro r w2 ⟨v,p2,rfl,⟨ta,tc,rfl,hrv,hta⟩,hr2,hs2⟩
 go_wp2
 go_ret
 exact⟨_,p2,rfl,⟨ta,tc,rfl,hrv,fun g hg=>⟨Nat.le_trans hk2.size (hta g hg).1,(hta g hg).2⟩⟩,hr2,(Step.of_keep b p hk2).trans hs2⟩
def ELst(p:Pl)(k:Nat):Prop:=inB p.wa k∨inB p.oa k∨k∈p.gs
structure RepL(w:World)(e:En)(p:Pl):Prop where
 four:e.kept.length=4
 wrow:RV w 76 4 p.wa e.wait.length p.wc (mcells e.wait)
 orow:RV w 56 1 p.oa e.out.length p.oc (ovals p.gs e.out)
 gl:p.gs.length=e.out.length
 bufs:∀(i g:Nat) (f:Fr.Frm),p.gs[i]?=some g→e.out[i]?=some f→Buf w g (Fr.enc f) 10
 wo:∀k,inB p.wa k→¬inB p.oa k
 gw:∀k,k∈p.gs→¬inB p.wa k∧¬inB p.oa k
 gn:p.gs.Nodup
 wok:∀m∈e.wait,MOk m
 most:e.first+e.wait.length≤65536
 awt:e.await≤65536
 kn:∀(i:Nat) (m:Fr.Msg),e.kept[i]?=some (some m)→e.await+i<65536
 fok:∀f∈e.out,FrOk f
theorem Rep.lst{w:World}{c:Array Value}{t:TypeId}{b o:Nat}{e:En}{p:Pl}(h:Rep w c t b o e p):RepL w e p:=
 ⟨h.four,h.wrow,h.orow,h.gl,h.bufs,h.wo,fun k hk=>⟨fun x=>h.gw k hk (Or.inr (Or.inl x)),fun x=>h.gw k hk (Or.inr (Or.inr x))⟩,h.gn,h.wok,h.most,h.awt,h.kn,h.fok⟩
theorem RepL.rep{w:World}{c:Array Value}{t:TypeId}{b o:Nat}{e:En}{p:Pl}(h:RepL w e p)(hb:Blk w b (put c o (e.cells p)) t)(hf:o+24≤c.size)(hn:¬ELst p b):Rep w c t b o e p where
 blk:=hb
 fit:=hf
 four:=h.four
 wrow:=h.wrow
 orow:=h.orow
 gl:=h.gl
 bufs:=h.bufs
 wb:=fun x=>hn (Or.inl x)
 ob:=fun x=>hn (Or.inr (Or.inl x))
 wo:=h.wo
 gw:=fun k hk=>by
  rintro (rfl|x|x)
  ·exact hn (Or.inr (Or.inr hk))
  ·exact(h.gw k hk).1 x
  ·exact(h.gw k hk).2 x
 gn:=h.gn
 wok:=h.wok
 most:=h.most
 awt:=h.awt
 kn:=h.kn
 fok:=h.fok
theorem Rep.notL{w:World}{c:Array Value}{t:TypeId}{b o:Nat}{e:En}{p:Pl}(h:Rep w c t b o e p):¬ELst p b:=by
 rintro (x|x|x)
 ·exact h.wb x
 ·exact h.ob x
 ·exact h.gw b x (Or.inl rfl)
theorem RepL.keep{ex:Nat→Prop}{w w':World}{e:En}{p:Pl}(h:RepL w e p)(k:Keep ex w w')(hn:∀i,ELst p i→¬ex i):RepL w' e p where
 four:=h.four
 wrow:=h.wrow.keep k (fun g hg=>hn g (Or.inl hg))
 orow:=h.orow.keep k (fun g hg=>hn g (Or.inr (Or.inl hg)))
 gl:=h.gl
 bufs:=fun i g f hg hf=>(h.bufs i g f hg hf).keep k (hn g (Or.inr (Or.inr (List.mem_of_getElem? hg))))
 wo:=h.wo
 gw:=h.gw
 gn:=h.gn
 wok:=h.wok
 most:=h.most
 awt:=h.awt
 kn:=h.kn
 fok:=h.fok
theorem RepL.lt{w:World}{e:En}{p:Pl}(h:RepL w e p):∀i,ELst p i→i<w.heap.size:=by
 rintro i (hi|hi|hi)
 ·exact h.wrow.lt i hi
 ·exact h.orow.lt i hi
 ·obtain⟨j,hj,rfl⟩:=List.getElem_of_mem hi
  have hj':j<e.out.length:=by have:=h.gl;omega
  exact(h.bufs j p.gs[j] e.out[j] (List.getElem?_eq_getElem hj) (List.getElem?_eq_getElem hj')).lt
structure Sd where
 to_:Nat
 e:En
 p:Pl
def sdcell(d:Sd):List Value:=.int .i64 (d.to_:Int)::d.e.cells d.p
def sdcells(l:List Sd):List Value:=l.flatMap sdcell
structure Sp where
 b:Nat
 n:Nod
 p:Np
 sa:Option Addr
 sc:Nat
 ss:List Sd
def spcell(s:Sp):List Value:=[.pointer (some ⟨s.b,0,none⟩),.slice s.sa s.ss.length s.sc]
def spcells(l:List Sp):List Value:=l.flatMap spcell
structure Nt where
 nb:Nat
 ty:TypeId
 es:List Ed
 ea:Option Addr
 ec:Nat
 sps:List Sp
 pa:Option Addr
 pc:Nat
 L:List Pk
 ba:Option Addr
 bc:Nat
 way:Nat→Prop
inductive LP where
 |node|side
 |ends (j:Nat)
inductive Pt where
 |net|edges|spots|bag|pks|way
 |spot (i:Nat) (a:LP)
def Sp.own(s:Sp):LP→Nat→Prop
 | .node,k=>NMine s.b s.p k
 | .side,k=>inB s.sa k
 | .ends j,k=>∃d,s.ss[j]?=some d∧ELst d.p k
def Nt.own(N:Nt):Pt→Nat→Prop
 | .net,k=>k=N.nb
 | .edges,k=>inB N.ea k
 | .spots,k=>inB N.pa k
 | .bag,k=>inB N.ba k
 | .pks,k=>∃x∈N.L,x.g=k
 | .way,k=>N.way k
 | .spot i a,k=>∃s,N.sps[i]?=some s∧s.own a k
def Nt.Own(N:Nt)(k:Nat):Prop:=∃i,i≠Pt.way∧N.own i k
def Nt.cells(N:Nt):Array Value:=#[.slice N.ea N.es.length N.ec,.slice N.pa N.sps.length N.pc,.slice N.ba N.L.length N.bc]
structure NtR(w:World)(N:Nt):Prop where
 blk:Blk w N.nb N.cells N.ty
 erow:RV w 30 3 N.ea N.es.length N.ec (ecells N.es)
 prow:RV w 125 2 N.pa N.sps.length N.pc (spcells N.sps)
 brow:RV w 200 4 N.ba N.L.length N.bc (pkcells N.L)
 pks:∀x∈N.L,PRow w x.g x.l x.c
 pkn:N.L.Pairwise (fun x y=>x.g≠y.g)
 nods:∀(i:Nat) (s:Sp),N.sps[i]?=some s→NRep w s.b s.n s.p
 sides:∀(i:Nat) (s:Sp),N.sps[i]?=some s→RV w 181 25 s.sa s.ss.length s.sc (sdcells s.ss)
 ends:∀(i:Nat) (s:Sp),N.sps[i]?=some s→∀(j:Nat) (d:Sd),s.ss[j]?=some d→RepL w d.e d.p
 wayl:∀k,N.way k→k<w.heap.size
 apart:∀i j k,N.own i k→N.own j k→i=j
theorem NtR.lt{w:World}{N:Nt}(h:NtR w N):∀i k,N.own i k→k<w.heap.size:=by
 intro i k hk
 cases i with
 |net=>rw[show k=N.nb from hk];exact h.blk.lt
 |edges=>exact h.erow.lt k hk
 |spots=>exact h.prow.lt k hk
 |bag=>exact h.brow.lt k hk
 |pks=>obtain⟨x,hx,rfl⟩:=hk;exact(h.pks x hx).lt x.g (inB_self _ _)
 |way=>exact h.wayl k hk
 |spot i a=>
  obtain⟨s,hs,hk⟩:=hk
  cases a with
  |node=>exact(h.nods i s hs).lt k hk
  |side=>exact(h.sides i s hs).lt k hk
  |ends j=>obtain⟨d,hd,hk⟩:=hk;exact(h.ends i s hs j d hd).lt k hk
theorem NtR.Olt{w:World}{N:Nt}(h:NtR w N){k:Nat}(hk:N.Own k):k<w.heap.size:=by obtain⟨i,_,hk⟩:=hk;exact h.lt i k hk
theorem NtR.keep{ex:Nat→Prop}{w w':World}{N:Nt}(h:NtR w N)(k:Keep ex w w')(hn:∀i,N.Own i→¬ex i):NtR w' N where
 blk:=h.blk.keep k (hn _ ⟨.net,by simp,rfl⟩)
 erow:=h.erow.keep k (fun g hg=>hn g ⟨.edges,by simp,hg⟩)
 prow:=h.prow.keep k (fun g hg=>hn g ⟨.spots,by simp,hg⟩)
 brow:=h.brow.keep k (fun g hg=>hn g ⟨.bag,by simp,hg⟩)
 pks:=fun x hx=>(h.pks x hx).keep k (fun g hg=>hn g ⟨.pks,by simp,x,hx,(inB_some.1 hg).symm⟩)
 pkn:=h.pkn
 nods:=fun i s hs=>(h.nods i s hs).keep k (fun g hg=>hn g ⟨.spot i .node,by simp,s,hs,hg⟩)
 sides:=fun i s hs=>(h.sides i s hs).keep k (fun g hg=>hn g ⟨.spot i .side,by simp,s,hs,hg⟩)
 ends:=fun i s hs j d hd=>(h.ends i s hs j d hd).keep k (fun g hg=>hn g ⟨.spot i (.ends j),by simp,s,hs,d,hd,hg⟩)
 wayl:=fun g hg=>Nat.lt_of_lt_of_le (h.wayl g hg) k.size
 apart:=h.apart
theorem apart_step{N N':Nt}{z:Nat}(I:Pt→Prop)(h:∀i j k,N.own i k→N.own j k→i=j)(hl:∀i k,N.own i k→k<z)(h0:∀i,¬I i→∀k,N'.own i k→N.own i k)(h1:∀i,I i→∀k,N'.own i k→(∃j,I j∧N.own j k)∨z≤k)(h2:∀i j k,I i→I j→N'.own i k→N'.own j k→i=j):∀i j k,N'.own i k→N'.own j k→i=j:=by
 have one:∀i j k,I i→¬I j→N'.own i k→N'.own j k→False:=fun i j k hi hj ki kj=>by
  have kj':=h0 j hj k kj
  rcases h1 i hi k ki with⟨j',hj',x⟩|x
  ·exact hj (h j' j k x kj'▸hj')
  ·have:=hl j k kj';omega
 intro i j k ki kj
 by_cases hi:I i
 ·by_cases hj:I j
  ·exact h2 i j k hi hj ki kj
  ·exact(one i j k hi hj ki kj).elim
 ·by_cases hj:I j
  ·exact(one j i k hj hi kj ki).elim
  ·exact h i j k (h0 i hi k ki) (h0 j hj k kj)
def Sp.fix(s:Sp):Nat×Option Addr×Nat×List Nat:=(s.b,s.sa,s.sc,s.ss.map Sd.to_)
structure NtTo(w w':World)(N N':Nt):Prop where
 keep:Keep N.Own w w'
 mine:∀k,N'.Own k→N.Own k∨w.heap.size≤k
 nb:N'.nb=N.nb
 ty:N'.ty=N.ty
 es:N'.es=N.es
 ea:N'.ea=N.ea
 ec:N'.ec=N.ec
 pa:N'.pa=N.pa
 pc:N'.pc=N.pc
 fix:N'.sps.map Sp.fix=N.sps.map Sp.fix
theorem NtTo.refl(w:World)(N:Nt):NtTo w w N N:=⟨Keep.refl _ _,fun _ h=>Or.inl h,rfl,rfl,rfl,rfl,rfl,rfl,rfl,rfl⟩
theorem NtTo.of_keep{w w':World}(N:Nt)(k:Keep nil w w'):NtTo w w' N N:=⟨k.mono (fun _ _ e=>e.elim),fun _ h=>Or.inl h,rfl,rfl,rfl,rfl,rfl,rfl,rfl,rfl⟩
theorem NtTo.trans{w w1 w2:World}{N N1 N2:Nt}(h:NtTo w w1 N N1)(k:NtTo w1 w2 N1 N2):NtTo w w2 N N2:=
 ⟨h.keep.trans' k.keep (fun i hi e=>by
  rcases h.mine i e with h1|h1
  ·exact h1
  ·omega),fun i hi=>by
  rcases k.mine i hi with h1|h1
  ·exact h.mine i h1
  ·exact Or.inr (Nat.le_trans h.keep.size h1),k.nb.trans h.nb,k.ty.trans h.ty,k.es.trans h.es,k.ea.trans h.ea,k.ec.trans h.ec,k.pa.trans h.pa,k.pc.trans h.pc,k.fix.trans h.fix⟩
theorem NtTo.spot{w w':World}{N N':Nt}(h:NtTo w w' N N'){i:Nat}{s:Sp}(hs:N.sps[i]?=some s):∃s',N'.sps[i]?=some s'∧s'.fix=s.fix:=by
 have h1:(N'.sps.map Sp.fix)[i]?=some s.fix:=by rw[h.fix,List.getElem?_map,hs];rfl
 rw[List.getElem?_map]at h1
 obtain⟨s',h2,h3⟩:=Option.map_eq_some_iff.1 h1
 exact⟨s',h2,h3⟩
theorem NtTo.len{w w':World}{N N':Nt}(h:NtTo w w' N N'):N'.sps.length=N.sps.length:=by
 have:=congrArg List.length h.fix
 simpa using this
theorem lset_get{α:Type}{l:List α}{i i':Nat}{x y:α}(h:(l.set i x)[i']?=some y):(i'=i∧y=x)∨(i'≠i∧l[i']?=some y):=by
 by_cases e:i=i'
 ·subst e
  rw[List.getElem?_set_self']at h
  obtain⟨z,_,h2⟩:=Option.map_eq_some_iff.1 h
  exact Or.inl ⟨rfl,h2.symm⟩
 ·rw[List.getElem?_set_ne e]at h
  exact Or.inr ⟨fun e'=>e e'.symm,h⟩
theorem lset_self{α:Type}{l:List α}{i:Nat}{y:α}(h:l[i]?=some y)(x:α):(l.set i x)[i]?=some x:=by
 rw[List.getElem?_set_self'];rw[h];rfl
theorem map_set_eq{α β:Type}(f:α→β)(l:List α)(i:Nat)(x y:α)(h:l[i]?=some y)(he:f x=f y):(l.set i x).map f=l.map f:=by
 apply List.ext_getElem?
 intro k
 rw[List.getElem?_map,List.getElem?_map]
 by_cases e:i=k
 ·subst e;rw[lset_self h,h];simp[he]
 ·rw[List.getElem?_set_ne e]
theorem flatMap_set_eq{α β:Type}(f:α→List β)(l:List α)(i:Nat)(x y:α)(h:l[i]?=some y)(he:f x=f y):(l.set i x).flatMap f=l.flatMap f:=by
 rw[List.flatMap_def,List.flatMap_def,map_set_eq f l i x y h he]
theorem fix_parts{s s':Sp}(h:s'.fix=s.fix):s'.b=s.b∧s'.sa=s.sa∧s'.sc=s.sc∧s'.ss.map Sd.to_=s.ss.map Sd.to_∧s'.ss.length=s.ss.length:=by
 simp only[Sp.fix,Prod.mk.injEq]at h
 obtain⟨h1,h2,h3,h4⟩:=h
 exact⟨h1,h2,h3,h4,by simpa using congrArg List.length h4⟩
theorem fix_cell{s s':Sp}(h:s'.fix=s.fix):spcell s'=spcell s:=by
 obtain⟨h1,h2,h3,_,h5⟩:=fix_parts h
 simp[spcell,h1,h2,h3,h5]
def Nt.setS(N:Nt)(i:Nat)(s:Sp)(R:Nat→Prop):Nt:={ N with sps:=N.sps.set i s,way:=fun k=>N.way k∨R k}
theorem NtR.setS{w w':World}{N:Nt}(h:NtR w N){i:Nat}{s:Sp}(hs:N.sps[i]? =some s)(s':Sp)(hf:s'.fix=s.fix)(R E:Nat→Prop)(hk:Keep E w w')(hE:∀k,E k→∃a,s.own a k)
 (hn:NRep w' s'.b s'.n s'.p) (hsd:RV w' 181 25 s'.sa s'.ss.length s'.sc (sdcells s'.ss)) (he:∀(j:Nat) (d:Sd),s'.ss[j]?=some d→RepL w' d.e d.p)
 (hm:∀a k,s'.own a k→(∃b,s.own b k)∨w.heap.size≤k) (ha:∀a b k,s'.own a k→s'.own b k→a=b) (hR:∀k,R k→(∃b,s.own b k)∧∀a,¬s'.own a k):
 NtR w' (N.setS i s' R)∧NtTo w w' N (N.setS i s' R):=by
 have hsO:∀a k,s.own a k→N.own (.spot i a) k:=fun a k hk=>⟨s,hs,hk⟩
 have hEO:∀k,E k→N.Own k:=fun k hk=>by obtain⟨a,h1⟩:=hE k hk;exact⟨.spot i a,by simp,hsO a k h1⟩
 have hkO:Keep N.Own w w':=hk.mono (fun k _ e=>hEO k e)
 have notE:∀(q:Pt) (k:Nat),N.own q k→(∀a,q≠.spot i a)→¬E k:=fun q k hq hne e=>by
  obtain⟨a,h1⟩:=hE k e
  exact hne a (h.apart _ _ k hq (hsO a k h1))
 have old:∀i' s2,(N.sps.set i s')[i']?=some s2→i'≠i→N.sps[i']?=some s2:=fun i' s2 h1 h2=>by
  rcases lset_get h1 with⟨e,_⟩|⟨_,e⟩
  ·exact(h2 e).elim
  ·exact e
 refine⟨⟨?_,?_,?_,?_,?_,h.pkn,?_,?_,?_,?_,?_⟩,⟨hkO,?_,rfl,rfl,rfl,rfl,rfl,rfl,rfl,map_set_eq Sp.fix N.sps i s' s hs hf⟩⟩
 ·have:=h.blk.keep hk (notE .net N.nb rfl (by simp))
  simpa [Nt.cells,Nt.setS]using this
 ·exact h.erow.keep hk (fun g hg=>notE .edges g hg (by simp))
 ·have:=h.prow.keep hk (fun g hg=>notE .spots g hg (by simp))
  simpa [Nt.setS,spcells,flatMap_set_eq spcell N.sps i s' s hs (fix_cell hf)]using this
 ·exact h.brow.keep hk (fun g hg=>notE .bag g hg (by simp))
 ·exact fun x hx=>(h.pks x hx).keep hk (fun g hg=>notE .pks g ⟨x,hx,(inB_some.1 hg).symm⟩ (by simp))
 ·intro i' s2 h1
  rcases lset_get h1 with⟨e,rfl⟩|⟨e,h2⟩
  ·exact hn
  ·exact(h.nods i' s2 h2).keep hk (fun g hg=>notE (.spot i' .node) g ⟨s2,h2,hg⟩ (fun a x=>e (by cases x;rfl)))
 ·intro i' s2 h1
  rcases lset_get h1 with⟨e,rfl⟩|⟨e,h2⟩
  ·exact hsd
  ·exact(h.sides i' s2 h2).keep hk (fun g hg=>notE (.spot i' .side) g ⟨s2,h2,hg⟩ (fun a x=>e (by cases x;rfl)))
 ·intro i' s2 h1 j d hd
  rcases lset_get h1 with⟨e,rfl⟩|⟨e,h2⟩
  ·exact he j d hd
  ·exact(h.ends i' s2 h2 j d hd).keep hk (fun g hg=>notE (.spot i' (.ends j)) g ⟨s2,h2,d,hd,hg⟩ (fun a x=>e (by cases x;rfl)))
 ·rintro k (hk1|hk1)
  ·exact Nat.lt_of_lt_of_le (h.wayl k hk1) hk.size
  ·obtain⟨⟨b,hb⟩,_⟩:=hR k hk1
   exact Nat.lt_of_lt_of_le (h.lt _ k (hsO b k hb)) hk.size
 ·refine apart_step (N:=N) (z:=w.heap.size) (fun q=>q=.way∨∃a,q=.spot i a) h.apart h.lt ?_ ?_ ?_
  ·intro q hq k hk1
   cases q with
   |way=>exact(hq (Or.inl rfl)).elim
   |spot i' a=>
    obtain⟨s2,h1,h2⟩:=hk1
    have hne:i'≠i:=fun e=>hq (Or.inr ⟨a,by rw[e]⟩)
    exact⟨s2,old i' s2 h1 hne,h2⟩
   |_=>exact hk1
  ·rintro q (rfl|⟨a,rfl⟩) k hk1
   ·rcases hk1 with hk1|hk1
    ·exact Or.inl ⟨.way,Or.inl rfl,hk1⟩
    ·obtain⟨⟨b,hb⟩,_⟩:=hR k hk1
     exact Or.inl ⟨.spot i b,Or.inr ⟨b,rfl⟩,hsO b k hb⟩
   ·obtain⟨s2,h1,h2⟩:=hk1
    rcases lset_get h1 with⟨_,rfl⟩|⟨e,_⟩
    ·rcases hm a k h2 with⟨b,hb⟩|h3
     ·exact Or.inl ⟨.spot i b,Or.inr ⟨b,rfl⟩,hsO b k hb⟩
     ·exact Or.inr h3
    ·exact(e rfl).elim
  ·have no:∀a k,(N.setS i s' R).own .way k→(N.setS i s' R).own (.spot i a) k→False:=fun a k h1 h2=>by
    obtain⟨s2,h3,h4⟩:=h2
    rcases lset_get h3 with⟨_,rfl⟩|⟨e,_⟩
    ·rcases h1 with h1|h1
     ·rcases hm a k h4 with⟨b,hb⟩|h5
      ·have:=h.apart .way (.spot i b) k h1 (hsO b k hb);cases this
      ·have:=h.wayl k h1;omega
     ·exact(hR k h1).2 a h4
    ·exact e rfl
   rintro q r k (rfl|⟨a,rfl⟩) (rfl|⟨b,rfl⟩) h1 h2
   ·rfl
   ·exact(no b k h1 h2).elim
   ·exact(no a k h2 h1).elim
   ·obtain⟨s2,h3,h4⟩:=h1
    obtain⟨s3,h5,h6⟩:=h2
    rcases lset_get h3 with⟨_,rfl⟩|⟨e,_⟩
    ·rcases lset_get h5 with⟨_,rfl⟩|⟨e,_⟩
     ·rw[ha a b k h4 h6]
     ·exact(e rfl).elim
    ·exact(e rfl).elim
 ·rintro k ⟨q,hq,hk1⟩
  cases q with
  |way=>exact(hq rfl).elim
  |spot i' a=>
   obtain⟨s2,h1,h2⟩:=hk1
   rcases lset_get h1 with⟨rfl,rfl⟩|⟨e,h3⟩
   ·rcases hm a k h2 with⟨b,hb⟩|h3
    ·exact Or.inl ⟨.spot i' b,by simp,hsO b k hb⟩
    ·exact Or.inr h3
   ·exact Or.inl ⟨.spot i' a,by simp,s2,h3,h2⟩
  |net=>exact Or.inl ⟨.net,by simp,hk1⟩
  |edges=>exact Or.inl ⟨.edges,by simp,hk1⟩
  |spots=>exact Or.inl ⟨.spots,by simp,hk1⟩
  |bag=>exact Or.inl ⟨.bag,by simp,hk1⟩
  |pks=>exact Or.inl ⟨.pks,by simp,hk1⟩
end Go.Proofs.YtlfijfodklhplaaGreat
