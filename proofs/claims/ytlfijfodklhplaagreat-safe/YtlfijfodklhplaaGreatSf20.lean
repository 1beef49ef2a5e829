import Derived.Test.YtlfijfodklhplaaGreatSf19
set_option linter.unusedVariables false
set_option linter.unusedSimpArgs false
namespace Go.Proofs.YtlfijfodklhplaaGreat
open Go.RowKit
theorem slots_get (l:List (Option Fr.Msg)) (i:Nat) (x:Option Fr.Msg) (h:l[i]?=some x) (j:Nat) (hj:j < 5):(slots l)[i * 5 + j]?=(slot x)[j]?:=by
  induction l generalizing i with
  | nil=>simp at h
  | cons y r ih =>
    have hy:(slot y).length=5:=rfl
    cases i with
    | zero =>
      simp at h
      subst h
      simp only [slots,List.flatMap_cons,Nat.zero_mul,Nat.zero_add]
      rw [List.getElem?_append_left (by omega)]
    | succ i =>
      have:=ih i (by simpa using h)
      simp only [slots,List.flatMap_cons] at this ⊢
      rw [List.getElem?_append_right (by omega),← this,hy]
      congr 1; omega
theorem cells_kept (e:En) (p:Pl) (i:Nat) (x:Option Fr.Msg) (h:e.kept[i]?=some x) (j:Nat) (hj:j < 5):(e.cells p)[3 + i * 5 + j]?=(slot x)[j]?:=by
  have hi:=(List.getElem?_eq_some_iff.1 h).1
  have hl:=slots_len e.kept
  have:(e.cells p)[3 + i * 5 + j]?=(slots e.kept++[.slice p.oa e.out.length p.oc])[i * 5 + j]?:=by
    rw [show 3 + i * 5 + j=(i * 5 + j) + 1 + 1 + 1 by omega]; rfl
  rw [this,List.getElem?_append_left (by omega),slots_get e.kept i x h j hj]
set_option maxHeartbeats 1000000 in
theorem keep_far (b o n aw:Nat) (k l nn:Int) (f:Bool) (w:World) (h2:w.cell? ⟨b,o + 2,none⟩=some (.int .i64 (aw:Int))) (hn:(n:Int)≤65536) (ha:(aw:Int)≤65536) (hno:n < aw∨aw + 4≤n) :
    Calls Tryz.prog 195 #[.pointer (some ⟨b,o + 2,none⟩),.int .i64 (n:Int),.agg #[.int .i64 k,.int .i64 l,.int .i64 nn,.bool f]] w fun r w'=>r=.returned (.tuple #[])∧Keep nil w w':=by
  have hbl:b < w.heap.size:=World.block_lt_of_cell? w _ h2
  have h3:(n:Int) - (aw:Int) < 0∨4≤(n:Int) - (aw:Int):=by omega
  clear hno
  rcases h3 with h3 | h3
  · go_enter Tryz.func195,Tryz.ntmps195
    go_wp2
    go_end0
    exact ⟨rfl,(Keep.refl nil w).alloc _⟩
  · go_enter Tryz.func195,Tryz.ntmps195
    go_wp2
    go_end0
    exact ⟨rfl,(Keep.refl nil w).alloc _⟩
set_option maxHeartbeats 1000000 in
theorem keep_there (b o n aw k:Nat) (k' l nn:Int) (f:Bool) (w:World) (h2:w.cell? ⟨b,o + 2,none⟩=some (.int .i64 (aw:Int))) (hn:(n:Int)≤65536) (ha:(aw:Int)≤65536) (hk:(n:Int) - (aw:Int)=(k:Int)) (hk4:(k:Int) < 4) (h3:w.cell? ⟨b,o + 2 + 1 + k * 5 + 4,none⟩=some (.bool true)) :
    Calls Tryz.prog 195 #[.pointer (some ⟨b,o + 2,none⟩),.int .i64 (n:Int),.agg #[.int .i64 k',.int .i64 l,.int .i64 nn,.bool f]] w fun r w'=>r=.returned (.tuple #[])∧Keep nil w w':=by
  have hbl:b < w.heap.size:=World.block_lt_of_cell? w _ h2
  have hk0:(0:Int)≤(k:Int):=by omega
  go_enter Tryz.func195,Tryz.ntmps195
  go_wp2
  go_end0
  exact ⟨rfl,(Keep.refl nil w).alloc _⟩
theorem four_of {α:Type} (l:List α) (h:l.length=4):∃ a b c d,l=[a,b,c,d]:=by
  match l,h with
  | [a,b,c,d],_=>exact ⟨a,b,c,d,rfl⟩
def set5 (w:World) (b o:Nat) (m:Fr.Msg) (f:Bool):World:=((((w.setCell ⟨b,o,none⟩ (.int .i64 (m.kind:Int))).setCell ⟨b,o + 1,none⟩ (.int .i64 (m.level:Int))).setCell ⟨b,o + 2,none⟩ (.int .i64 (m.name:Int))).setCell ⟨b,o + 3,none⟩ (.bool m.finding)).setCell ⟨b,o + 4,none⟩ (.bool f)
theorem cells_keep (e:En) (p:Pl) (h:e.kept.length=4) (k:Nat) (hk:k < 4) (m:Fr.Msg) :
    (((((e.cells p).set (3 + k * 5) (.int .i64 (m.kind:Int))).set (3 + k * 5 + 1) (.int .i64 (m.level:Int))).set (3 + k * 5 + 2) (.int .i64 (m.name:Int))).set (3 + k * 5 + 3) (.bool m.finding)).set (3 + k * 5 + 4) (.bool true)=({ e with kept:=e.kept.set k (some m) }:En).cells p:=by
  obtain ⟨f,wt,aw,kp,ot⟩:=e
  simp only at h
  obtain ⟨x0,x1,x2,x3,rfl⟩:=four_of kp h
  match k,hk with
  | 0,_=>rfl
  | 1,_=>rfl
  | 2,_=>rfl
  | 3,_=>rfl
theorem Rep.kept {w w1:World} {c:Array Value} {t:TypeId} {b o:Nat} {e:En} {p:Pl} (h:Rep w c t b o e p) (hk1:Keep nil w w1) (k:Nat) (hk:k < 4) (m:Fr.Msg) (hkn:e.await + k < 65536) :
    Rep (set5 w1 b (o + 3 + k * 5) m true) c t b o { e with kept:=e.kept.set k (some m) } p∧Step w (set5 w1 b (o + 3 + k * 5) m true) b p p:=by
  have l24:=cells_len e p h.four
  have h1:=h.keep hk1 (fun _ _ x=>x)
  have ks:Keep (only b) w1 (set5 w1 b (o + 3 + k * 5) m true):=by
    unfold set5
    exact (((((Keep.refl (only b) w1).setCell (p:=⟨b,o + 3 + k * 5,none⟩) (fun _=>rfl) _).setCell (p:=⟨b,o + 3 + k * 5 + 1,none⟩) (fun _=>rfl) _).setCell (p:=⟨b,o + 3 + k * 5 + 2,none⟩) (fun _=>rfl) _).setCell (p:=⟨b,o + 3 + k * 5 + 3,none⟩) (fun _=>rfl) _).setCell (p:=⟨b,o + 3 + k * 5 + 4,none⟩) (fun _=>rfl) _
  have hblk:Blk (set5 w1 b (o + 3 + k * 5) m true) b (put c o (({ e with kept:=e.kept.set k (some m) }:En).cells p)) t:=by
    rw [← cells_keep e p h.four k hk m]
    have b0:=h1.blk.put_at h1.len (3 + k * 5) (by omega) (.int .i64 (m.kind:Int))
    have b1:=b0.put_at (by simpa using h1.len) (3 + k * 5 + 1) (by simp; omega) (.int .i64 (m.level:Int))
    have b2:=b1.put_at (by simpa using h1.len) (3 + k * 5 + 2) (by simp; omega) (.int .i64 (m.name:Int))
    have b3:=b2.put_at (by simpa using h1.len) (3 + k * 5 + 3) (by simp; omega) (.bool m.finding)
    have b4:=b3.put_at (by simpa using h1.len) (3 + k * 5 + 4) (by simp; omega) (.bool true)
    simp only [← Nat.add_assoc] at b4
    exact b4
  refine ⟨{ blk:=hblk,fit:=h.fit,four:=by simpa using h.four,wrow:=h1.wrow.keep ks (fun k hk hb=>h.wb (hb ▸ hk)),orow:=h1.orow.keep ks (fun k hk hb=>h.ob (hb ▸ hk)),gl:=h.gl,bufs:=fun i g f hg hf=>(h1.bufs i g f hg hf).keep ks (fun hb=>h.gw g (List.mem_of_getElem? hg) (Or.inl hb)),wb:=h.wb,ob:=h.ob,wo:=h.wo,gw:=h.gw,gn:=h.gn,wok:=h.wok,most:=h.most,awt:=h.awt,kn:=?_,fok:=h.fok },(Step.of_keep b p hk1).trans ⟨fun _ h=>Or.inl h,fun _ h=>Or.inl h,ks.mono (fun _ _ e=>Or.inl e)⟩⟩
  intro i m' hm'
  simp only [List.getElem?_set] at hm'
  by_cases hi:k=i
  · subst hi; exact hkn
  · rw [if_neg hi] at hm'; exact h.kn i m' hm'
set_option maxHeartbeats 1000000 in
theorem keep_new (c:Array Value) (t:TypeId) (b o:Nat) (e:En) (p:Pl) (n k:Nat) (m:Fr.Msg) (w:World) (h:Rep w c t b o e p) (hn:(n:Int) < 65536) (hk:(n:Int) - (e.await:Int)=(k:Int)) (hk4:(k:Int) < 4) (hx:e.kept[k]?=some none) :
    Calls Tryz.prog 195 #[.pointer (some ⟨b,o + 2,none⟩),.int .i64 (n:Int),mv m] w fun r w'=>r=.returned (.tuple #[])∧Rep w' c t b o { e with kept:=e.kept.set k (some m) } p∧Step w w' b p p:=by
  have hbl:=h.blk.lt
  have h2:=h.c2
  have ha:(e.await:Int)≤65536:=by have:=h.awt; omega
  have c0:=h.cell _ _ ((cells_kept e p k none hx 0 (by omega)).trans rfl)
  have c1:=h.cell _ _ ((cells_kept e p k none hx 1 (by omega)).trans rfl)
  have c2:=h.cell _ _ ((cells_kept e p k none hx 2 (by omega)).trans rfl)
  have c3:=h.cell _ _ ((cells_kept e p k none hx 3 (by omega)).trans rfl)
  have c4:=h.cell _ _ ((cells_kept e p k none hx 4 (by omega)).trans rfl)
  simp only [← Nat.add_assoc,Nat.add_zero] at c0 c1 c2 c3 c4
  have hfr:=fun i=>h.frozen i
  have HR:Unit→Rep w c t b o e p:=fun _=>h
  clear h
  have hk0:(0:Int)≤(k:Int):=by omega
  go_enter Tryz.func195,Tryz.ntmps195
  go_wp2_with fail
  go_region
  all_goals
    go_wp2
    go_end0
    have hd:=(HR ()).kept (Keep.refl nil w) k (by omega) m (by omega)
    have k2:Keep nil (set5 w b (o + 3 + k * 5) m true) ((set5 w b (o + 3 + k * 5) m true).alloc (.cells (mcell m).toArray 76)).drew:=((Keep.refl nil _).alloc _).drew
    exact ⟨rfl,hd.1.keep k2 (fun _ _ x=>x),hd.2.trans (Step.of_keep b p k2)⟩
theorem keep_any (c:Array Value) (t:TypeId) (b o:Nat) (e:En) (p:Pl) (n:Nat) (m:Fr.Msg) (w:World) (h:Rep w c t b o e p) (hn:(n:Int) < 65536) :
    Calls Tryz.prog 195 #[.pointer (some ⟨b,o + 2,none⟩),.int .i64 (n:Int),mv m] w fun r w'=>r=.returned (.tuple #[])∧Rep w' c t b o (e.keep n m) p∧Step w w' b p p:=by
  have ha:(e.await:Int)≤65536:=by have:=h.awt; omega
  have same:∀ {w':World},e.keep n m=e→Keep nil w w'→Rep w' c t b o (e.keep n m) p∧Step w w' b p p:=fun he hk=>by rw [he]; exact ⟨h.keep hk (fun _ _ x=>x),Step.of_keep b p hk⟩
  by_cases h1:e.await≤n
  · by_cases h2:n < e.await + 4
    · obtain ⟨k,hk⟩:∃ k,k=n - e.await:=⟨_,rfl⟩
      have hk4:k < e.kept.length:=by rw [h.four]; omega
      have hkI:(n:Int) - (e.await:Int)=(k:Int):=by omega
      cases hx:e.kept[k] with
      | none =>
        have hx':e.kept[k]?=some none:=by rw [List.getElem?_eq_getElem hk4,hx]
        have he:e.keep n m={ e with kept:=e.kept.set k (some m) }:=by unfold En.keep; rw [if_pos h1,← hk,hx']
        rw [he]
        exact keep_new c t b o e p n k m w h hn hkI (by omega) hx'
      | some y =>
        have hx':e.kept[k]?=some (some y):=by rw [List.getElem?_eq_getElem hk4,hx]
        have he:e.keep n m=e:=by unfold En.keep; rw [if_pos h1,← hk,hx']
        have c4:=h.cell _ _ ((cells_kept e p k (some y) hx' 4 (by omega)).trans rfl)
        simp only [← Nat.add_assoc] at c4
        refine (keep_there b o n e.await k _ _ _ _ w h.c2 (by omega) ha hkI (by omega) c4).mono ?_
        rintro r w' ⟨rfl,hk'⟩
        exact ⟨rfl,same he hk'⟩
    · have he:e.keep n m=e:=by
        unfold En.keep
        rw [if_pos h1,List.getElem?_eq_none (by rw [h.four]; omega)]
      refine (keep_far b o n e.await _ _ _ _ w h.c2 (by omega) ha (Or.inr (by omega))).mono ?_
      rintro r w' ⟨rfl,hk'⟩
      exact ⟨rfl,same he hk'⟩
  · have he:e.keep n m=e:=by unfold En.keep; rw [if_neg h1]
    refine (keep_far b o n e.await _ _ _ _ w h.c2 (by omega) ha (Or.inl (by omega))).mono ?_
    rintro r w' ⟨rfl,hk'⟩
    exact ⟨rfl,same he hk'⟩
theorem run_copy_sz {P : Program} (w : World) (dT sT ty elem : TypeId) (size g o dLen dCap : Nat) (a : Addr) (sLen sCap n : Nat) (cur : Array Value) (t : TypeId) (cs : List Value)
    (hu:P.underlying dT=some (.slice elem)) (hs:(P.info? elem).map (·.size)=some size)
    (hg:w.heap[g]?=some (.cells cur t (0,0))) (hn:Nat.min sLen dLen=n) (hl:cs.length=n * size)
    (hsrc:∀ j v,cs[j]?=some v→w.cell? (a.add j)=some v) (hfit:o + cs.length≤cur.size) (h1:∀ v ∈ cs,v.oneCell'=true) :
    (Builtin.copy_ #[dT, sT] ty #[.slice (some ⟨g, o, none⟩) dLen dCap, .slice (some a) sLen sCap]).run P w =
      .ok (goInt n) (w.setRow g (cur.toList.take o++cs++cur.toList.drop (o + cs.length)).toArray):=by
  have hlo:=run_loadCells_list (P:=P) w a cs hsrc
  have hst:=run_storeCells_at P g o t cs 0 cur w hg (by simpa using hfit) h1
  cases hq:P.info? elem with
  | none=>simp [hq] at hs
  | some i =>
    have hi:i.size=size:=by simpa [hq] using hs
    simp [Builtin.copy_,run_underlying hu,Builtin.lenOf,Builtin.firstCells,sizeOf,typeInfo,hq,hi,hn,← hl,hlo,hst]
theorem step_copy_sz {P : Program} {ops : Array Oper} {o : Oper} {a : Act} {w : World} {K : Act → World → Prop} {Q : Exit → Act → World → Prop} {E : Prop} (hgd : o.guard = none) (d s : Operand) (dT sT : TypeId)
    (ho:o.op=.call { callee:=.builtin .copy,args:=#[d,s],argTypes:=#[dT,sT] }) (elem:TypeId) (size:Nat) (hu:P.underlying dT=some (.slice elem)) (hsz:(P.info? elem).map (·.size)=some size)
    (g off dLen dCap sLen sCap:Nat) (ad:Addr) (hd:a.eval d=.slice (some ⟨g,off,none⟩) dLen dCap) (hs:a.eval s=.slice (some ad) sLen sCap) (n:Nat) (hn:Nat.min sLen dLen=n)
    (cur:Array Value) (t:TypeId) (hg:Blk w g cur t) (cs:List Value) (hl:cs.length=n * size)
    (hsrc:∀ j v,cs[j]?=some v→w.cell? (ad.add j)=some v) (hfit:off + cs.length≤cur.size) (h1:∀ v ∈ cs,v.oneCell'=true)
    (h:∀ w',Blk w' g (cur.toList.take off++cs++cur.toList.drop (off + cs.length)).toArray t→Keep (only g) w w'→K (a.put o.dst (goInt n)) w') :
    if Region.wanted o (yielded ops a.tmps)=true then Oper.wp P o a w K Q else E:=by
  have hw:Region.wanted o (yielded ops a.tmps)=true:=by simp [Region.wanted,hgd]
  rw [if_pos hw]
  have hrun:=run_copy_sz (P:=P) w dT sT o.type elem size g off dLen dCap ad sLen sCap n cur t cs hu hsz hg hn hl hsrc hfit h1
  unfold Oper.wp
  simp [execOp,ho,resolve,invoke,builtin,hd,hs,hrun,Result.andThen]
  exact h _ (by rw [List.append_assoc]; exact setRow_heap w g _ _ t _ hg) ⟨rfl,rfl,rfl,by simp [World.setRow],fun k hk hn=>setRow_other w g k _ hn⟩
theorem slot_info:(Tryz.prog.info? 140).map (·.size)=some 5:=by kernel_rfl
theorem slots_one (l:List (Option Fr.Msg)):∀ u ∈ slots l,u.oneCell'=true:=by
  intro u hu
  obtain ⟨x,_,h⟩:=List.mem_flatMap.1 hu
  simp only [slot,mcell,List.cons_append,List.nil_append,List.mem_cons,List.not_mem_nil,or_false] at h
  rcases h with rfl | rfl | rfl | rfl | rfl <;> rfl
theorem put_splice (c:Array Value) (o:Nat) (l:List Value) (h:o + l.length≤c.size) (i:Nat) (cs:List Value) (hi:i + cs.length≤l.length) :
    ((put c o l).toList.take (o + i)++cs++(put c o l).toList.drop (o + i + cs.length)).toArray=put c o (l.take i++cs++l.drop (i + cs.length)):=by
  have h1:(c.toList.take o).length=o:=by simp; omega
  apply Array.ext'
  simp only [put]
  have e1:(c.toList.take o++l++c.toList.drop (o + l.length)).take (o + i)=c.toList.take o++l.take i:=by
    rw [List.append_assoc,List.take_append,h1,List.take_of_length_le (by omega),Nat.add_sub_cancel_left,List.take_append_of_le_length (by omega)]
  have e2:(c.toList.take o++l++c.toList.drop (o + l.length)).drop (o + i + cs.length)=l.drop (i + cs.length)++c.toList.drop (o + l.length):=by
    rw [List.append_assoc,List.drop_append,h1,List.drop_of_length_le (by omega),List.nil_append,Nat.add_assoc,Nat.add_sub_cancel_left,List.drop_append,Nat.sub_eq_zero_of_le (by omega),List.drop_zero]
  rw [e1,e2]
  have e3:(l.take i++cs++l.drop (i + cs.length)).length=l.length:=by simp; omega
  rw [e3]
  simp
def En.pop (e:En):En:={ e with await:=e.await + 1,kept:=e.kept.drop 1++[none] }
def En.pops (e:En) (j:Nat):En:={ e with await:=e.await + j,kept:=e.kept.drop j++List.replicate j none }
theorem pops_zero (e:En):e.pops 0=e:=by simp [En.pops]
theorem pops_succ (e:En) (j:Nat) (h:j < e.kept.length):(e.pops j).pop=e.pops (j + 1):=by
  unfold En.pops En.pop
  congr 1
  simp only
  rw [List.drop_append_of_le_length (by simp; omega),List.drop_drop,List.append_assoc,List.replicate_succ']
theorem pop_cells (e:En) (p:Pl) (x0 x1 x2 x3:Option Fr.Msg) (h:e.kept=[x0,x1,x2,x3]) :
    (((((((e.cells p).set 2 (.int .i64 ((e.await:Int) + 1))).take 3++slots [x1,x2,x3]++((e.cells p).set 2 (.int .i64 ((e.await:Int) + 1))).drop 18).set 18 (.int .i64 0)).set 19 (.int .i64 0)).set 20 (.int .i64 0)).set 21 (.bool false)).set 22 (.bool false)=e.pop.cells p:=by
  obtain ⟨f,wt,aw,kp,ot⟩:=e
  simp only at h
  subst h
  rfl
theorem pop_src (e:En) (p:Pl) (x0 x1 x2 x3:Option Fr.Msg) (h:e.kept=[x0,x1,x2,x3]) (v:Value) (j:Nat) (u:Value) (hu:(slots [x1,x2,x3])[j]?=some u):((e.cells p).set 2 v)[8 + j]?=some u:=by
  obtain ⟨f,wt,aw,kp,ot⟩:=e
  simp only at h
  subst h
  have hj:=(List.getElem?_eq_some_iff.1 hu).1
  have e1:((⟨f,wt,aw,[x0,x1,x2,x3],ot⟩:En).cells p).set 2 v=[.int .i64 (f:Int),.slice p.wa wt.length p.wc,v]++slot x0++(slots [x1,x2,x3]++[.slice p.oa ot.length p.oc]):=rfl
  rw [e1,List.getElem?_append_right (by simp [slot,mcell])]
  have e2:8 + j - ([.int .i64 (f:Int),.slice p.wa wt.length p.wc,v]++slot x0).length=j:=by simp [slot,mcell]
  rw [e2,List.getElem?_append_left hj,hu]
theorem pop_mid (e:En) (p:Pl) (x0 x1 x2 x3:Option Fr.Msg) (h:e.kept=[x0,x1,x2,x3]) (v:Value) (j:Nat) (hj:j < 5):(((e.cells p).set 2 v).take 3++slots [x1,x2,x3]++((e.cells p).set 2 v).drop 18)[18 + j]?=(slot x3)[j]?:=by
  obtain ⟨f,wt,aw,kp,ot⟩:=e
  simp only at h
  subst h
  match j,hj with
  | 0,_=>rfl
  | 1,_=>rfl
  | 2,_=>rfl
  | 3,_=>rfl
  | 4,_=>rfl
theorem Rep.popped {w w1:World} {c:Array Value} {t:TypeId} {b o:Nat} {e:En} {p:Pl} (h:Rep w c t b o e p) (m:Fr.Msg) (hm:e.kept[0]?=some (some m)) (ks:Keep (only b) w w1) (hblk:Blk w1 b (put c o (e.pop.cells p)) t):Rep w1 c t b o e.pop p:=by
  have h4:=h.four
  refine { blk:=hblk,fit:=h.fit,four:=by simp [En.pop,h4],wrow:=h.wrow.keep ks (fun k hk hb=>h.wb (hb ▸ hk)),orow:=h.orow.keep ks (fun k hk hb=>h.ob (hb ▸ hk)),gl:=h.gl,bufs:=fun i g f hg hf=>(h.bufs i g f hg hf).keep ks (fun hb=>h.gw g (List.mem_of_getElem? hg) (Or.inl hb)),wb:=h.wb,ob:=h.ob,wo:=h.wo,gw:=h.gw,gn:=h.gn,wok:=h.wok,most:=h.most,awt:=?_,kn:=?_,fok:=h.fok }
  · have:=h.kn 0 m hm
    show e.await + 1≤65536
    omega
  · intro i m' hm'
    show e.await + 1 + i < 65536
    have hx:(e.kept.drop 1++[none])[i]?=some (some m'):=hm'
    by_cases hi:i < (e.kept.drop 1).length
    · rw [List.getElem?_append_left hi,List.getElem?_drop] at hx
      have:=h.kn (1 + i) m' hx
      omega
    · rw [List.getElem?_append_right (by omega)] at hx
      have hj:=(List.getElem?_eq_some_iff.1 hx).1
      have:i - (e.kept.drop 1).length=0:=by simp at hj ⊢; omega
      rw [this] at hx
      simp at hx
def lenV : Value → Nat
  | .slice _ n _=>n
  | _=>0
theorem ready_pops (e:En) (l:List Fr.Msg) (m:Fr.Msg) (h:En.ready e.kept=l++En.ready (e.pops l.length).kept) (hm:(e.pops l.length).kept[0]?=some (some m)) (h4:l.length < e.kept.length) :
    En.ready e.kept=(l++[m])++En.ready (e.pops (l++[m]).length).kept:=by
  rw [h,List.append_assoc]
  congr 1
  have hp:(e.pops l.length).kept=some m :: (e.pops l.length).kept.drop 1:=by
    cases hk:(e.pops l.length).kept with
    | nil=>rw [hk] at hm; simp at hm
    | cons x r=>rw [hk] at hm; simp at hm; subst hm; rfl
  have hr:∀ l:List (Option Fr.Msg),En.ready (l++[none])=En.ready l:=by
    intro l
    induction l with
    | nil=>rfl
    | cons x r ih=>cases x <;> simp [En.ready,ih]
  rw [hp,List.length_append,List.length_singleton,← pops_succ e l.length h4]
  simp only [En.ready,En.pop,hr,List.singleton_append]
set_option maxHeartbeats 2000000 in
theorem take_any (c:Array Value) (t:TypeId) (b o:Nat) (e:En) (p:Pl) (w:World) (h:Rep w c t b o e p) :
    Calls Tryz.prog 196 #[.pointer (some ⟨b,o + 2,none⟩)] w fun r w'=>∃ ta tc,r=.returned (.slice ta (En.ready e.kept).length tc)∧RV w' 76 4 ta (En.ready e.kept).length tc (mcells (En.ready e.kept))∧(∀ g,inB ta g→w.heap.size≤g∧¬ Mine b p g)∧Rep w' c t b o e.take p∧Step w w' b p p:=by
  have HR:Unit→Rep w c t b o e p:=fun _=>h
  clear h
  go_enter Tryz.func196,Tryz.ntmps196
  go_wp2_with fail
  go_loopw [3] (fun v wr=>∃ (l:List Fr.Msg) (ta:Option Addr) (tc:Nat),v=.slice ta l.length tc∧l.length≤4∧RV wr 76 4 ta l.length tc (mcells l)∧(∀ g,inB ta g→w.heap.size≤g)∧En.ready e.kept=l++En.ready (e.pops l.length).kept∧Rep wr c t b o (e.pops l.length) p∧Keep (only b) w wr) (fun v _=>4 - lenV v)
  case atStart=>exact ⟨[],none,0,rfl,by simp,RV.nil _ _ _,fun g hg=>(inB_none g hg).elim,by simp [pops_zero],by rw [List.length_nil,pops_zero]; exact HR (),Keep.refl _ _⟩
  case round =>
    obtain ⟨l,ta,tc,rfl,hl4,hrv,hta,hrd,hr,hk⟩:=hrel
    obtain ⟨x0,x1,x2,x3,hkept⟩:=four_of _ hr.four
    obtain ⟨e1,he1⟩:∃ e1,e1=e.pops l.length:=⟨_,rfl⟩
    rw [← he1] at hr hkept hrd
    have hh:=hr.cell 7 _ (by rw [cells_kept e1 p 0 x0 (by rw [hkept]; rfl) 4 (by omega)]; rfl)
    cases x0 with
    | none =>
      have HX:Unit→_:=fun _=>(⟨hrv,hta,hrd,hr,hk,he1,hkept⟩:_∧_∧_∧_∧_∧_∧_)
      clear hrv hta hrd hr hk he1 hkept
      go_wp2
      go_ret
      obtain ⟨hrv,hta,hrd,hr,hk,he1,hkept⟩:=HX ()
      have e0:En.ready e1.kept=[]:=by rw [hkept]; rfl
      rw [e0,List.append_nil] at hrd
      have ht:e.take=e.pops l.length:=by unfold En.take En.pops; rw [hrd]
      refine ⟨ta,tc,by rw [hrd]; rfl,by rw [hrd]; exact hrv,fun g hg=>⟨hta g hg,fun x=>?_⟩,by rw [ht,← he1]; exact hr,⟨fun _ h=>Or.inl h,fun _ h=>Or.inl h,hk.mono (fun _ _ x=>Or.inl x)⟩⟩
      have:=(HR ()).lt g x
      have:=hta g hg
      omega
    | some m =>
      have hl5:l.length < 4:=by
        refine Nat.lt_of_le_of_ne hl4 (fun x=>?_)
        have hk4:=(HR ()).four
        rw [he1,x] at hkept
        unfold En.pops at hkept
        simp only at hkept
        rw [List.drop_of_length_le (by omega)] at hkept
        simp [List.replicate] at hkept
      have hbl:=(HR ()).blk.lt
      have hzw:=hk.size
      have c3:=hr.cell 3 _ (by rw [cells_kept e1 p 0 (some m) (by rw [hkept]; rfl) 0 (by omega)]; rfl)
      have c4:=hr.cell 4 _ (by rw [cells_kept e1 p 0 (some m) (by rw [hkept]; rfl) 1 (by omega)]; rfl)
      have c5:=hr.cell 5 _ (by rw [cells_kept e1 p 0 (some m) (by rw [hkept]; rfl) 2 (by omega)]; rfl)
      have c6:=hr.cell 6 _ (by rw [cells_kept e1 p 0 (some m) (by rw [hkept]; rfl) 3 (by omega)]; rfl)
      have c2:=hr.c2
      have hfr:=fun i=>hr.frozen i
      have hnb:¬ inB ta b:=fun x=>by have:=hta b x; omega
      have haw:(e1.await:Int) < 65536:=by have:=hr.kn 0 m (by rw [hkept]; rfl); omega
      have HX:Unit→_:=fun _=>(⟨hrv,hta,hrd,hr,hk,he1,hkept⟩:_∧_∧_∧_∧_∧_∧_)
      clear hta hrd hr hk he1 hkept
      have HC:Unit→∀ w1,Keep (inB ta) wr w1→∀ i,w1.cell? ⟨b,i,none⟩=wr.cell? ⟨b,i,none⟩∧w1.frozen? ⟨b,i,none⟩=false:=fun _ w1 k1 i=>⟨k1.cell b i (by omega) hnb,(k1.frozen b i (by omega) hnb).trans (hfr i)⟩
      go_wp2_with (at_builtin; refine wpList_append_rv _ rfl (.tmp 10) (.tmp 17) 112 rfl 76 (.agg #[.int .i64 0,.int .i64 0,.int .i64 0,.bool false]) 4 32 Tryz.underlying112 msg_info rfl ta l.length tc rfl (mcells l) (hrv.alloc _) ⟨wr.heap.size,0,none⟩ 1 1 (by omega) rfl (mcell m) rfl (cells_list wr (mcell m) 76 _ rfl) (by simpa [mcells] using mcells_one [m]) (by omega) (by omega) ?_; intro ta' tc' w1 hr1 hg1 hk1; have hkw:Keep (inB ta) wr w1:=((Keep.refl _ wr).alloc _).trans hk1; have d2:=((HC () w1 hkw (o + 2)).1).trans c2; have f2:=(HC () w1 hkw (o + 2)).2)
      have HR1:Unit→Rep w1 c t b o e1 p:=fun _=>(HX ()).2.2.2.1.keep hkw (fun i hi x=>by
        have h1:=(HX ()).2.1 i x
        have h2:=(HR ()).lt i hi
        omega)
      have hb2:Blk (w1.setCell ⟨b,o + 2,none⟩ (.int .i64 ((e1.await:Int) + 1))) b (put c o ((e1.cells p).set 2 (.int .i64 ((e1.await:Int) + 1)))) t:=(HR1 ()).blk.put_at (HR1 ()).len 2 (by rw [cells_len e1 p (HR1 ()).four]; omega) _
      have hlen:o + ((e1.cells p).set 2 (.int .i64 ((e1.await:Int) + 1))).length≤c.size:=by simpa using (HR1 ()).len
      have hsrc:∀ j v,(slots [x1,x2,x3])[j]?=some v→(w1.setCell ⟨b,o + 2,none⟩ (.int .i64 ((e1.await:Int) + 1))).drew.cell? ((⟨b,o + 8,none⟩:Addr).add j)=some v:=fun j v hv=>by
        rw [Addr.add_lit,World.cell?_drew,Nat.add_assoc]
        exact hb2.at hlen (8 + j) v (pop_src e1 p (some m) x1 x2 x3 (HX ()).2.2.2.2.2.2 _ j v hv)
      have hfit:o + 3 + (slots [x1,x2,x3]).length≤(put c o ((e1.cells p).set 2 (.int .i64 ((e1.await:Int) + 1)))).size:=by
        rw [put_size _ _ _ hlen,slots_len]
        have:=(HR1 ()).fit
        simp; omega
      have HB2:Unit→_:=fun _=>(⟨hb2,hsrc,hfit,hlen⟩:_∧_∧_∧_)
      clear hb2 hsrc hfit hlen c3 c4 c5 c6 c2 hh
      go_region_law (refine step_copy_sz rfl (.tmp 29) (.tmp 33) 339 339 rfl 140 5 Tryz.underlying339 slot_info b (o + 2 + 1) 4 4 3 3 ⟨b,o + 2 + 1 + 5,none⟩ (by simp [Act.eval,Act.put]) (by simp [Act.eval,Act.put]) 3 rfl (put c o ((e1.cells p).set 2 (.int .i64 ((e1.await:Int) + 1)))) t ((HB2 ()).1.drew) (slots [x1,x2,x3]) rfl (HB2 ()).2.1 (HB2 ()).2.2.1 (slots_one _) ?_; intro w3 hb3 hk3)
      all_goals
        have h15:(slots [x1,x2,x3]).length=15:=rfl
        have hb4:Blk w3 b (put c o (((e1.cells p).set 2 (.int .i64 ((e1.await:Int) + 1))).take 3++slots [x1,x2,x3]++((e1.cells p).set 2 (.int .i64 ((e1.await:Int) + 1))).drop 18)) t:=by
          have:=put_splice c o ((e1.cells p).set 2 (.int .i64 ((e1.await:Int) + 1))) (HB2 ()).2.2.2 3 (slots [x1,x2,x3]) (by rw [h15,List.length_set,cells_len e1 p (HR1 ()).four]; omega)
          rw [h15] at this hb3
          rw [← this]
          exact hb3
        have hl3:o + (((e1.cells p).set 2 (.int .i64 ((e1.await:Int) + 1))).take 3++slots [x1,x2,x3]++((e1.cells p).set 2 (.int .i64 ((e1.await:Int) + 1))).drop 18).length≤c.size:=by
          have:=(HR1 ()).fit
          have h24:=cells_len e1 p (HR1 ()).four
          simp only [List.length_append,List.length_take,List.length_drop,List.length_set,slots_len,h24,List.length_cons,List.length_nil]
          omega
        have s0:=hb4.at hl3 18 _ ((pop_mid e1 p _ x1 x2 x3 (HX ()).2.2.2.2.2.2 _ 0 (by omega)).trans rfl)
        have s1:=hb4.at hl3 19 _ ((pop_mid e1 p _ x1 x2 x3 (HX ()).2.2.2.2.2.2 _ 1 (by omega)).trans rfl)
        have s2:=hb4.at hl3 20 _ ((pop_mid e1 p _ x1 x2 x3 (HX ()).2.2.2.2.2.2 _ 2 (by omega)).trans rfl)
        have s3:=hb4.at hl3 21 _ ((pop_mid e1 p _ x1 x2 x3 (HX ()).2.2.2.2.2.2 _ 3 (by omega)).trans rfl)
        have s4:=hb4.at hl3 22 _ ((pop_mid e1 p _ x1 x2 x3 (HX ()).2.2.2.2.2.2 _ 4 (by omega)).trans rfl)
        have s5:=fun i=>hb4.frozen i
        have H4:Unit→_:=fun _=>(⟨hb4,hl3⟩:_∧_)
        clear hb3 hb4 hl3
        go_wp2
        go_roundw
        case rel =>
          obtain ⟨hrv,hta,hrd,hr,hk,he1,hkept⟩:=HX ()
          obtain ⟨hb4,hl3⟩:=H4 ()
          have hz1:=hkw.size
          obtain ⟨W,hW⟩:∃ W,W=set5 w3 b (o + 18) Fr.none0 false:=⟨_,rfl⟩
          have kW:Keep (only b) w3 W:=by
            rw [hW]; unfold set5
            exact (((((Keep.refl (only b) w3).setCell (p:=⟨b,o + 18,none⟩) (fun _=>rfl) _).setCell (p:=⟨b,o + 18 + 1,none⟩) (fun _=>rfl) _).setCell (p:=⟨b,o + 18 + 2,none⟩) (fun _=>rfl) _).setCell (p:=⟨b,o + 18 + 3,none⟩) (fun _=>rfl) _).setCell (p:=⟨b,o + 18 + 4,none⟩) (fun _=>rfl) _
          have kA:Keep (only b) w1 W:=(((Keep.refl (only b) w1).setCell (p:=⟨b,o + 2,none⟩) (fun _=>rfl) _).drew.trans hk3).trans kW
          have bW:Blk W b (put c o (e1.pop.cells p)) t:=by
            rw [← pop_cells e1 p (some m) x1 x2 x3 hkept,hW]
            have hL:(((e1.cells p).set 2 (.int .i64 ((e1.await:Int) + 1))).take 3++slots [x1,x2,x3]++((e1.cells p).set 2 (.int .i64 ((e1.await:Int) + 1))).drop 18).length=24:=by
              have h24:=cells_len e1 p (HR1 ()).four
              simp only [List.length_append,List.length_take,List.length_drop,List.length_set,h24,h15]
              omega
            generalize ((e1.cells p).set 2 (.int .i64 ((e1.await:Int) + 1))).take 3++slots [x1,x2,x3]++((e1.cells p).set 2 (.int .i64 ((e1.await:Int) + 1))).drop 18=L at *
            have t0:=hb4.put_at hl3 18 (by omega) (.int .i64 0)
            have t1:=t0.put_at (by rw [List.length_set]; exact hl3) 19 (by rw [List.length_set]; omega) (.int .i64 0)
            have t2:=t1.put_at (by rw [List.length_set,List.length_set]; exact hl3) 20 (by rw [List.length_set,List.length_set]; omega) (.int .i64 0)
            have t3:=t2.put_at (by rw [List.length_set,List.length_set,List.length_set]; exact hl3) 21 (by rw [List.length_set,List.length_set,List.length_set]; omega) (.bool false)
            exact t3.put_at (by rw [List.length_set,List.length_set,List.length_set,List.length_set]; exact hl3) 22 (by rw [List.length_set,List.length_set,List.length_set,List.length_set]; omega) (.bool false)
          have hm0:e1.kept[0]?=some (some m):=by rw [hkept]; rfl
          have hrW:=(HR1 ()).popped m hm0 kA bW
          have hps:e1.pop=e.pops (l++[m]).length:=by rw [he1,List.length_append,List.length_singleton]; exact pops_succ e l.length (by rw [(HR ()).four]; exact hl5)
          refine ⟨l++[m],ta',tc',by simp,by simp; omega,?_,?_,?_,?_,?_⟩
          · rw [hW] at kA
            rw [mcells_append,List.length_append,List.length_singleton]
            refine RV.keep ?_ kA (fun g hg hb=>?_)
            · simpa [mcells] using hr1
            · simp only [only] at hb
              subst hb
              rcases hg1 _ hg with x | x
              · exact hnb x
              · simp only [World.size_alloc] at x; omega
          · intro g hg
            rcases hg1 g hg with x | x
            · exact hta g x
            · simp only [World.size_alloc] at x; omega
          · exact ready_pops e l m (by rw [← he1]; exact hrd) (by rw [← he1]; exact hm0) (by rw [(HR ()).four]; exact hl5)
          · rw [← hps]; rw [hW] at hrW; exact hrW
          · rw [hW] at kA
            exact (hk.trans' hkw (fun i hi x=>by have:=hta i x; omega)).trans kA
        case measure=>simp [lenV]; omega
def Told (w w':World) (b:Nat) (p':Pl) (v:Value) (l:List Fr.Msg):Prop:=∃ ta tc,v=.slice ta l.length tc∧RV w' 76 4 ta l.length tc (mcells l)∧∀ g,inB ta g→w.heap.size≤g∧¬ Mine b p' g
theorem take_await (e:En) (h:e.take.await < 65536):e.take.answer={ e.take with out:=e.take.out++[⟨false,e.take.await,Fr.none0⟩] }:=by
  unfold En.answer; rw [if_pos h]
theorem take_await_no (e:En) (h:¬ e.take.await < 65536):e.take.answer=e.take:=by
  unfold En.answer; rw [if_neg h]
theorem keep_out (e:En) (n:Nat) (m:Fr.Msg):(e.keep n m).take.out=e.out:=by
  unfold En.keep En.take
  split
  · split <;> rfl
  · rfl
set_option maxHeartbeats 2000000 in
theorem came_any (c:Array Value) (t:TypeId) (b o:Nat) (e:En) (p:Pl) (n:Nat) (m:Fr.Msg) (w:World) (h:Rep w c t b o e p) (hn:(n:Int) < 65536) (ho:(e.out.length:Int) < 1099511627000) :
    Calls Tryz.prog 170 #[.pointer (some ⟨b,o,none⟩),.agg (fc true (n:Int) (m.kind:Int) (m.level:Int) (m.name:Int) m.finding)] w fun r w'=>∃ v p',r=.returned v∧Told w w' b p' v (e.told n m)∧Rep w' c t b o (e.came n m) p'∧Step w w' b p p':=by
  have hbl:=h.blk.lt
  have HR:Unit→Rep w c t b o e p:=fun _=>h
  have HO:Unit→(e.out.length:Int) < 1099511627000:=fun _=>ho
  have HOUT:Unit→((e.keep n m).take.out.length:Int) < 1099511627776:=fun _=>by rw [keep_out]; omega
  have HKEEP:Unit→∀ w0,Keep nil w w0→_:=fun _ w0 k0=>keep_any c t b o e p n m w0 (h.keep k0 (fun _ _ x=>x)) hn
  clear h ho
  go_enter Tryz.func170,Tryz.ntmps170
  go_wp2_with fail
  go_region_with (go_at_call 195; refine (HKEEP () _ (((Keep.refl nil w).alloc _).drew)).mono ?_; rintro r w1 ⟨rfl,hr1,hs1⟩)
  all_goals
    have HS1:Unit→_:=fun _=>(⟨hr1,hs1⟩:_∧_)
    clear hr1 hs1 HKEEP
    go_wp2_with fail
    refine (take_any c t b o (e.keep n m) p w1 (HS1 ()).1).mono ?_
    rintro r w2 ⟨ta,tc,rfl,hrv,hta,hr2,hs2⟩
    have q2:=hr2.c2
    have haw:((e.keep n m).take.await:Int)≤65536:=by have:=hr2.awt; omega
    have HS2:Unit→_:=fun _=>(⟨hrv,hta,hr2,hs2⟩:_∧_∧_∧_)
    clear hrv hta hr2 hs2
    by_cases hlt:(e.keep n m).take.await < 65536
    · have hltI:((e.keep n m).take.await:Int) < 65536:=by omega
      have HL:Unit→(e.keep n m).take.await < 65536:=fun _=>hlt
      clear hlt
      obtain ⟨aw,hawe⟩:∃ aw,aw=(e.keep n m).take.await:=⟨_,rfl⟩
      rw [← hawe] at q2 hltI
      have HA:Unit→aw=(e.keep n m).take.await:=fun _=>hawe
      clear hawe haw
      go_wp2_with fail
      have hf:FrOk ⟨false,aw,Fr.none0⟩:=⟨by have:=HL (); have:=HA (); simp only; omega,Or.inr ⟨rfl,rfl⟩⟩
      refine (goesOut_any c t b o (e.keep n m).take p ⟨false,aw,Fr.none0⟩ hf w2 (HS2 ()).2.2.1 (HOUT ())).mono ?_
      rintro r w3 ⟨rfl,p3,hr3,hs3⟩
      have HS3:Unit→_:=fun _=>(⟨hr3,hs3⟩:_∧_)
      clear hr3 hs3
      go_wp2
      go_ret
      obtain ⟨hrv,hta,hr2,hs2⟩:=HS2 ()
      obtain ⟨hr3,hs3⟩:=HS3 ()
      have hs0:Step w w1 b p p:=(Step.of_keep b p (((Keep.refl nil w).alloc _).drew)).trans (HS1 ()).2
      refine ⟨_,p3,rfl,⟨ta,tc,rfl,hrv.keep hs3.keep (fun g hg x=>(hta g hg).2 x.mine),fun g hg=>⟨Nat.le_trans hs0.keep.size (hta g hg).1,fun x=>(hs3.mine g x).elim (hta g hg).2 (fun y=>by have:=hrv.lt g hg; omega)⟩⟩,?_,(hs0.trans hs2).trans hs3⟩
      unfold En.came
      rw [take_await _ (HL ()),← HA ()]
      exact hr3
    · have hltI:((e.keep n m).take.await:Int)=65536:=by omega
      have HL:Unit→¬ (e.keep n m).take.await < 65536:=fun _=>hlt
      rw [hltI] at q2
      clear hlt haw hltI
      go_wp2
      go_ret
      obtain ⟨hrv,hta,hr2,hs2⟩:=HS2 ()
      have hs0:Step w w1 b p p:=(Step.of_keep b p (((Keep.refl nil w).alloc _).drew)).trans (HS1 ()).2
      refine ⟨_,p,rfl,⟨ta,tc,rfl,hrv,fun g hg=>⟨Nat.le_trans hs0.keep.size (hta g hg).1,(hta g hg).2⟩⟩,?_,hs0.trans hs2⟩
      unfold En.came
      rw [take_await_no _ (HL ())]
      exact hr2
structure Lies (w : World) (bb bo cap : Nat) (l : List Nat) : Prop where
  row:Row w bb bo l
  lt:bb < w.heap.size
  cap:l.length≤cap
  len:l.length < 140737488355328
  byte:∀ x ∈ l,x < 256
theorem Lies.keep {ex:Nat→Prop} {w w':World} {bb bo cap:Nat} {l:List Nat} (h:Lies w bb bo cap l) (k:Keep ex w w') (hn:¬ ex bb):Lies w' bb bo cap l:=⟨h.row.keep k h.lt hn,Nat.lt_of_lt_of_le h.lt k.size,h.cap,h.len,h.byte⟩
set_option maxHeartbeats 2000000 in
theorem linkIn_no (b o bb bo cap:Nat) (l:List Nat) (w:World) (hl:Lies w bb bo cap l) (hno:∀ x,¬ ReadOk l x) :
    Calls Tryz.prog 116 #[.pointer (some ⟨b,o,none⟩),.slice (some ⟨bb,bo,none⟩) l.length cap] w fun r w'=>r=.returned (.slice none 0 0)∧Keep nil w w':=by
  have HD:Unit→_:=fun _=>decode_no bb bo cap l w hl.row hl.lt hl.cap hl.len hl.byte hno
  clear hl hno
  go_enter Tryz.func116,Tryz.ntmps116
  go_wp2_with fail
  refine (HD ()).mono ?_
  rintro r w1 ⟨rfl,hk1⟩
  clear HD
  go_wp2
  go_ret
  exact ⟨rfl,hk1.alloc _⟩
set_option maxHeartbeats 2000000 in
theorem linkIn_ack (c:Array Value) (t:TypeId) (b o:Nat) (e:En) (p:Pl) (bb bo cap n:Nat) (l:List Nat) (w:World) (h:Rep w c t b o e p) (hl:Lies w bb bo cap l) (hx:ReadOk l (six ⟨false,n,Fr.none0⟩)) (hn:(n:Int) < 65536) (ho:(e.out.length:Int) < 1099511627000) :
    Calls Tryz.prog 116 #[.pointer (some ⟨b,o,none⟩),.slice (some ⟨bb,bo,none⟩) l.length cap] w fun r w'=>r=.returned (.slice none 0 0)∧∃ p',Rep w' c t b o (e.ack n) p'∧Step w w' b p p':=by
  have HD:Unit→_:=fun _=>decode_yes bb bo cap l w hl.row hl.lt hl.cap hl.len hl.byte _ hx
  have HR:Unit→_:=fun _=>h
  have HO:Unit→(e.out.length:Int) < 1099511627000:=fun _=>ho
  clear h hl hx ho
  go_enter Tryz.func116,Tryz.ntmps116
  go_wp2_with fail
  refine (HD ()).mono ?_
  rintro r w1 ⟨rfl,hk1⟩
  clear HD
  simp only [six]
  go_wp2_with fail
  have hk2:Keep nil w (w1.alloc (.cells (fc false (n:Int) 0 0 0 false) 78)):=hk1.alloc _
  refine (acked_any c t b o e p n _ ((HR ()).keep hk2 (fun _ _ x=>x)) (by omega) (HO ())).mono ?_
  rintro r w2 ⟨rfl,p2,hr2,hs2⟩
  go_wp2
  go_ret
  exact ⟨rfl,p2,hr2,(Step.of_keep b p hk2).trans hs2⟩
set_option maxHeartbeats 2000000 in
theorem linkIn_msg (c:Array Value) (t:TypeId) (b o:Nat) (e:En) (p:Pl) (bb bo cap n:Nat) (m:Fr.Msg) (l:List Nat) (w:World) (h:Rep w c t b o e p) (hl:Lies w bb bo cap l) (hx:ReadOk l (six ⟨true,n,m⟩)) (hn:(n:Int) < 65536) (ho:(e.out.length:Int) < 1099511627000) :
    Calls Tryz.prog 116 #[.pointer (some ⟨b,o,none⟩),.slice (some ⟨bb,bo,none⟩) l.length cap] w fun r w'=>∃ v p',r=.returned v∧Told w w' b p' v (e.told n m)∧Rep w' c t b o (e.came n m) p'∧Step w w' b p p':=by
  have HD:Unit→_:=fun _=>decode_yes bb bo cap l w hl.row hl.lt hl.cap hl.len hl.byte _ hx
  have HR:Unit→_:=fun _=>h
  have HO:Unit→(e.out.length:Int) < 1099511627000:=fun _=>ho
  clear h hl hx ho
  go_enter Tryz.func116,Tryz.ntmps116
  go_wp2_with fail
  refine (HD ()).mono ?_
  rintro r w1 ⟨rfl,hk1⟩
  clear HD
  simp only [six]
  go_wp2_with fail
  have hk2:Keep nil w (w1.alloc (.cells (fc true (n:Int) (m.kind:Int) (m.level:Int) (m.name:Int) m.finding) 78)):=hk1.alloc _
  refine (came_any c t b o e p n m _ ((HR ()).keep hk2 (fun _ _ x=>x)) hn (HO ())).mono ?_
  rintro r w2 ⟨v,p2,rfl,⟨ta,tc,rfl,hrv,hta⟩,hr2,hs2⟩
  go_wp2
  go_ret
  exact ⟨_,p2,rfl,⟨ta,tc,rfl,hrv,fun g hg=>⟨Nat.le_trans hk2.size (hta g hg).1,(hta g hg).2⟩⟩,hr2,(Step.of_keep b p hk2).trans hs2⟩
end Go.Proofs.YtlfijfodklhplaaGreat
