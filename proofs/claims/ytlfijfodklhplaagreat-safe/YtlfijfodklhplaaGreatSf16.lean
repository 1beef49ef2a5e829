import Derived.Test.YtlfijfodklhplaaGreatSf15
set_option linter.unusedVariables false
set_option linter.unusedSimpArgs false
namespace Go.Proofs.YtlfijfodklhplaaGreat
open Go.RowKit
structure NFr (n n' : Nod) (s : Nat) : Prop where
  len:n'.edges.length=n.edges.length
  rise:NRise n→NRise n'
  best:(∀ i,n.best=some i→i < n.edges.length)→∀ i,n'.best=some i→i < n.edges.length
  level:n.level≤10→n'.level≤10
  off:n'.off=n.off
  sent:n'.sent.length≤n.sent.length + s
theorem NFr.refl (n:Nod):NFr n n 0:=⟨rfl,id,id,id,rfl,by omega⟩
theorem NFr.trans {n n1 n2:Nod} {s t:Nat} (h:NFr n n1 s) (k:NFr n1 n2 t):NFr n n2 (s + t) :=
  ⟨k.len.trans h.len,fun e=>k.rise (h.rise e),fun e i hi=>by
    have:=k.best (fun i hi=>by rw [h.len]; exact h.best e i hi) i hi
    rw [h.len] at this; exact this,fun e=>k.level (h.level e),k.off.trans h.off,by have:=h.sent; have:=k.sent; omega⟩
theorem NFr.mono {n n1:Nod} {s t:Nat} (h:NFr n n1 s) (hst:s≤t):NFr n n1 t:=⟨h.len,h.rise,h.best,h.level,h.off,by have:=h.sent; omega⟩
theorem NFr.of {n n':Nod} (he:n'.edges=n.edges) (hb:n'.best=n.best) (hl:n'.level≤n.level) (ho:n'.off=n.off) (hs:n'.sent=n.sent):NFr n n' 0 :=
  ⟨by rw [he],fun h=>h.of he,fun h i hi=>h i (by rw [← hb]; exact hi),fun h=>by omega,ho,by rw [hs]; omega⟩
theorem fr_setSt (n:Nod) (j s:Nat):NFr n (n.setSt j s) 0:=⟨setSt_len n j s,fun h=>h.set j s,fun h i hi=>h i hi,id,rfl,by simp [Nod.setSt]⟩
theorem fr_send (n:Nod) (j:Nat) (m:NMsg):NFr n (n.send j m) 1:=⟨rfl,fun h=>h.of rfl,fun h i hi=>h i hi,id,rfl,by simp [Nod.send]⟩
theorem fr_wake (n:Nod):NFr n n.wake 1:=by
  unfold Nod.wake
  split
  · have h0:NFr n { n with level:=0,state:=2,count:=0 } 0:=NFr.of rfl rfl (Nat.zero_le _) rfl rfl
    split
    · have h1:NFr n { n with level:=0,state:=2,count:=0,over:=true } 0:=NFr.of rfl rfl (Nat.zero_le _) rfl rfl
      exact h1.mono (by omega)
    · rename_i j hj
      exact ((h0.trans (fr_setSt _ j 1)).trans (fr_send _ j (.connect 0))).mono (by omega)
  · exact (NFr.refl n).mono (by omega)
theorem fr_spread (n:Nod) (j l nm:Nat) (f:Bool):NFr n (n.spread j l nm f) 1:=by
  unfold Nod.spread
  split
  · have h1:NFr (n.send j (.initiate l nm f)) { n.send j (.initiate l nm f) with count:=wrap64 (n.count + 1) } 0:=NFr.of rfl rfl (Nat.le_refl _) rfl rfl
    exact (fr_send n j (.initiate l nm f)).trans h1
  · exact fr_send n j _
theorem fr_reports (n:Nod):NFr n n.reports 1:=by
  unfold Nod.reports
  split
  · have h0:NFr n { n with state:=2 } 0:=NFr.of rfl rfl (Nat.le_refl _) rfl rfl
    split
    · exact h0.mono (by omega)
    · exact (h0.trans (fr_send _ _ _)).mono (by omega)
  · exact (NFr.refl n).mono (by omega)
theorem fr_tests (n:Nod):NFr n n.tests 1:=by
  unfold Nod.tests
  split
  · have h1:NFr n { n with tested:=none } 0:=NFr.of rfl rfl (Nat.le_refl _) rfl rfl
    exact (h1.trans (fr_reports _)).mono (by omega)
  · rename_i j hj
    have h1:NFr n { n with tested:=some j } 0:=NFr.of rfl rfl (Nat.le_refl _) rfl rfl
    exact (h1.trans (fr_send _ _ _)).mono (by omega)
theorem fr_spreads (fr l nm:Nat) (f:Bool) (k:Nat):∀ (n:Nod) (j:Nat),NFr n (n.spreads fr l nm f k j) k:=by
  induction k with
  | zero=>intro n j; exact NFr.refl n
  | succ k ih =>
    intro n j
    rw [Nod.spreads]
    split
    · exact ((fr_spread n j l nm f).trans (ih _ _)).mono (by omega)
    · exact (ih n _).mono (by omega)
theorem initiate_eq (n:Nod) (fr l nm:Nat) (f:Bool):n.initiate fr l nm f=(if f then ((n.ini fr l nm f).spreads fr l nm f n.edges.length 0).tests else (n.ini fr l nm f).spreads fr l nm f n.edges.length 0):=rfl
theorem fr_initiate (n:Nod) (fr l nm:Nat) (f:Bool) (hl:l≤10):NFr n (n.initiate fr l nm f) (n.edges.length + 1):=by
  have h0:NFr n (n.ini fr l nm f) 0:=⟨rfl,fun h=>h.of rfl,(fun h i hi=>by cases hi),fun _=>hl,rfl,Nat.le_refl _⟩
  have h1:NFr n ((n.ini fr l nm f).spreads fr l nm f n.edges.length 0) (0 + n.edges.length):=h0.trans (fr_spreads fr l nm f n.edges.length (n.ini fr l nm f) 0)
  rw [initiate_eq]
  split
  · exact (h1.trans (fr_tests _)).mono (by omega)
  · exact h1.mono (by omega)
theorem fr_reject (n:Nod) (j:Nat):NFr n (n.reject j) 0:=by
  unfold Nod.reject
  split
  · exact fr_setSt _ _ _
  · exact NFr.refl n
theorem fr_hear (n:Nod) (j x:Nat) (hj:j < n.edges.length):NFr n (n.hear j x) 0:=by
  unfold Nod.hear
  split
  · exact ⟨rfl,fun h=>h.of rfl,(fun h i hi=>by cases hi; exact hj),id,rfl,Nat.le_refl _⟩
  · exact NFr.refl n
theorem fr_changeRoot (n:Nod):NFr n n.changeRoot 1:=by
  unfold Nod.changeRoot
  split
  · exact (NFr.refl n).mono (by omega)
  · split
    · exact fr_send _ _ _
    · exact ((fr_send n _ _).trans (fr_setSt _ _ _)).mono (by omega)
theorem fr_connect (n:Nod) (j l:Nat):NFr n (n.connect j l).1 2:=by
  unfold Nod.connect
  have h0:=fr_wake n
  simp only
  split
  · exact ((h0.trans (fr_setSt _ j 1)).trans (fr_spread _ _ _ _ _)).mono (by omega)
  · split
    · exact h0.mono (by omega)
    · exact (h0.trans (fr_send _ _ _)).mono (by omega)
theorem fr_test (n:Nod) (j l nm:Nat):NFr n (n.test j l nm).1 2:=by
  unfold Nod.test
  have h0:=fr_wake n
  simp only
  split
  · exact h0.mono (by omega)
  · split
    · exact (h0.trans (fr_send _ _ _)).mono (by omega)
    · have h1:=h0.trans (fr_reject n.wake j)
      split
      · exact (h1.trans (fr_tests _)).mono (by omega)
      · exact (h1.trans (fr_send _ _ _)).mono (by omega)
theorem fr_accept (n:Nod) (j:Nat) (hj:j < n.edges.length):NFr n (n.accept j) 1:=by
  unfold Nod.accept
  have h1:NFr n { n with tested:=none } 0:=NFr.of rfl rfl (Nat.le_refl _) rfl rfl
  have h2:=fr_hear { n with tested:=none } j (n.wt j) hj
  exact ((h1.trans h2).trans (fr_reports _)).mono (by omega)
theorem fr_report (n:Nod) (j x:Nat) (hj:j < n.edges.length):NFr n (n.report j x).1 1:=by
  unfold Nod.report
  split
  · split
    · exact (NFr.refl n).mono (by omega)
    · split
      · exact fr_changeRoot n
      · split
        · have h1:NFr n { n with over:=true } 0:=NFr.of rfl rfl (Nat.le_refl _) rfl rfl
          exact h1.mono (by omega)
        · exact (NFr.refl n).mono (by omega)
  · have h1:NFr n { n with count:=wrap64 (n.count - 1) } 0:=NFr.of rfl rfl (Nat.le_refl _) rfl rfl
    have h2:=fr_hear { n with count:=wrap64 (n.count - 1) } j x hj
    exact ((h1.trans h2).trans (fr_reports _)).mono (by omega)
def NMsg.may : NMsg → Prop
  | .initiate l _ _=>l≤10
  | _=>True
theorem fr_act (n:Nod) (j:Nat) (m:NMsg) (hj:j < n.edges.length) (hm:m.may):NFr n (n.act j m).1 (n.edges.length + 2):=by
  cases m with
  | connect l=>exact (fr_connect n j l).mono (by omega)
  | initiate l nm f=>exact (fr_initiate n j l nm f hm).mono (by omega)
  | test l nm=>exact (fr_test n j l nm).mono (by omega)
  | accept=>exact (fr_accept n j hj).mono (by omega)
  | reject=>exact ((fr_reject n j).trans (fr_tests _)).mono (by omega)
  | report x=>exact (fr_report n j x hj).mono (by omega)
  | root=>exact (fr_changeRoot n).mono (by omega)
structure NGood (n : Nod) : Prop where
  rise:NRise n
  best:∀ i,n.best=some i→i < n.edges.length
  level:n.level≤10
  off:∀ c ∈ n.off,c.1 < n.edges.length∧c.2.may
theorem NGood.fr {n n':Nod} {s:Nat} (h:NGood n) (k:NFr n n' s):NGood n' :=
  ⟨k.rise h.rise,fun i hi=>by rw [k.len]; exact k.best h.best i hi,k.level h.level,fun c hc=>by rw [k.off] at hc; rw [k.len]; exact h.off c hc⟩
theorem NGood.ok {n:Nod} (h:NGood n) (hs:(n.sent.length:Int) < 990000000000):NOk n:=⟨h.rise,h.best,by have:=h.level; omega,hs⟩
theorem NGood.erase {n:Nod} (h:NGood n) (k:Nat):NGood { n with off:=n.off.eraseIdx k } :=
  ⟨h.rise.of rfl,h.best,h.level,fun c hc=>h.off c (List.mem_of_mem_eraseIdx hc)⟩
theorem NGood.put {n:Nod} (h:NGood n) (j:Nat) (m:NMsg) (hj:j < n.edges.length) (hm:m.may):NGood { n with off:=n.off++[(j,m)] } :=
  ⟨h.rise.of rfl,h.best,h.level,fun c hc=>by
    rcases List.mem_append.1 hc with hc | hc
    · exact h.off c hc
    · rw [List.mem_singleton.1 hc]; exact ⟨hj,hm⟩⟩
theorem NGood.new (ws:List Nat) (hr:∀ (i k:Nat) (e f:Nat),i < k→ws[i]?=some e→ws[k]?=some f→e≤f) (hf:(ws.length:Int) < 1000):NGood (Nod.new ws):=by
  refine ⟨⟨fun i k e f hik he hf=>?_,by simpa [Nod.new] using hf⟩,(fun i hi=>by cases hi),Nat.zero_le _,(fun c hc=>by cases hc)⟩
  simp only [Nod.new,List.getElem?_map,Option.map_eq_some_iff] at he hf
  obtain ⟨e',he',rfl⟩:=he
  obtain ⟨f',hf',rfl⟩:=hf
  exact hr i k e' f' hik he' hf'
set_option maxRecDepth 100000 in
set_option maxHeartbeats 2000000 in
theorem typedReport_any (x:Nat) (w:World) :
    Calls Tryz.prog 198 #[.int .i64 (x:Int)] w fun r w'=>r=.returned (.agg #[.int .i64 ((if x=0 then 1001 else x:Nat):Int)])∧Keep nil w w':=by
  by_cases hx:x=0
  · subst hx
    go_enter Tryz.func198,Tryz.ntmps198
    go_wp2
    refine bodyPost_ret (v:=.agg #[.int .i64 ((if 0=0 then 1001 else 0:Nat):Int)]) ?_ rfl ⟨rfl,by repeat (first | exact Keep.refl _ _ | apply Keep.alloc)⟩
    simp [results,Tryz.results198,go_sem]
  · have h2:((x:Int) == 0)=false:=by rw [beq_eq_false_iff_ne]; omega
    have h3:¬ (x:Int)=0:=by omega
    have HX:Unit→¬ x=0:=fun _=>hx
    clear hx
    go_enter Tryz.func198,Tryz.ntmps198
    go_wp2
    refine bodyPost_ret (v:=.agg #[.int .i64 (x:Int)]) ?_ rfl ⟨by first | rfl | rw [if_neg (HX ())],by repeat (first | exact Keep.refl _ _ | apply Keep.alloc)⟩
    simp [results,Tryz.results198,go_sem]
set_option maxRecDepth 100000 in
set_option maxHeartbeats 2000000 in
theorem typed_any (m:Fr.Msg) (w:World) (h1:1≤m.kind) (h7:m.kind≤7) :
    Calls Tryz.prog 172 #[mv m] w fun r w'=>r=.returned (typed m).val∧Keep nil w w':=by
  obtain ⟨kd,lv,nm,fi⟩:=m
  simp only at h1 h7
  have hk:kd=1∨kd=2∨kd=3∨kd=4∨kd=5∨kd=6∨kd=7:=by omega
  clear h1 h7
  rcases hk with rfl | rfl | rfl | rfl | rfl | rfl | rfl
  · simp only [mv]
    go_enter Tryz.func172,Tryz.ntmps172
    go_wp2
    go_ret
    exact ⟨rfl,by repeat (first | exact Keep.refl _ _ | apply Keep.alloc | apply Keep.drew)⟩
  · simp only [mv]
    go_enter Tryz.func172,Tryz.ntmps172
    go_wp2
    go_ret
    exact ⟨rfl,by repeat (first | exact Keep.refl _ _ | apply Keep.alloc | apply Keep.drew)⟩
  · simp only [mv]
    go_enter Tryz.func172,Tryz.ntmps172
    go_wp2
    go_ret
    exact ⟨rfl,by repeat (first | exact Keep.refl _ _ | apply Keep.alloc | apply Keep.drew)⟩
  · simp only [mv]
    go_enter Tryz.func172,Tryz.ntmps172
    go_wp2
    go_ret
    exact ⟨rfl,by repeat (first | exact Keep.refl _ _ | apply Keep.alloc | apply Keep.drew)⟩
  · simp only [mv]
    go_enter Tryz.func172,Tryz.ntmps172
    go_wp2
    go_ret
    exact ⟨rfl,by repeat (first | exact Keep.refl _ _ | apply Keep.alloc | apply Keep.drew)⟩
  · simp only [mv]
    go_enter Tryz.func172,Tryz.ntmps172
    have HC:Unit→∀ w1,_:=fun _ w1=>typedReport_any nm w1
    obtain ⟨v,hv⟩:∃ v:Nat,v=(if nm=0 then 1001 else nm):=⟨_,rfl⟩
    rw [← hv] at HC
    have HV:Unit→(typed ⟨6,lv,nm,fi⟩).val=.iface 319 (.agg #[.int .i64 (v:Int)]):=fun _=>by rw [hv]; rfl
    clear hv
    go_wp2_with fail
    refine Calls.mono (HC () _) ?_
    rintro r w2 ⟨rfl,hk2⟩
    have HK:Unit→Keep nil w w2:=fun _=>(by repeat (first | exact Keep.refl _ _ | apply Keep.alloc | apply Keep.drew):Keep nil w _).trans hk2
    clear hk2
    go_wp2
    go_ret
    exact ⟨by rw [HV ()]; rfl,HK ()⟩
  · simp only [mv]
    go_enter Tryz.func172,Tryz.ntmps172
    go_wp2
    go_ret
    exact ⟨rfl,by repeat (first | exact Keep.refl _ _ | apply Keep.alloc | apply Keep.drew)⟩
set_option maxRecDepth 100000 in
set_option maxHeartbeats 2000000 in
theorem nsent_any (b:Nat) (n:Nod) (p:Np) (w:World) (h:NRep w b n p) :
    Calls Tryz.prog 110 #[.pointer (some ⟨b,0,none⟩)] w fun r w'=>r=.returned (.slice p.sa n.sent.length p.sc)∧w'=w.setCell ⟨b,11,none⟩ (.slice none 0 0):=by
  obtain ⟨-,-,-,-,-,-,-,-,-,-,-,c11⟩:=h.cells
  have f11:=h.blk.frozen 11
  have hbl:=h.blk.lt
  clear h
  go_enter Tryz.func110,Tryz.ntmps110
  go_wp2
  go_ret
  exact ⟨rfl,rfl⟩
theorem NRep.sentNil {w:World} {b:Nat} {n:Nod} {p:Np} (h:NRep w b n p):NRep (w.setCell ⟨b,11,none⟩ (.slice none 0 0)) b { n with sent:=[] } { p with sa:=none,sc:=0 }∧Keep (only b) w (w.setCell ⟨b,11,none⟩ (.slice none 0 0))∧RV (w.setCell ⟨b,11,none⟩ (.slice none 0 0)) 197 5 p.sa n.sent.length p.sc (lcells n.sent):=by
  have ks:Keep (only b) w (w.setCell ⟨b,11,none⟩ (.slice none 0 0)):=(Keep.refl (only b) w).setCell (p:=⟨b,11,none⟩) (fun _=>rfl) _
  refine ⟨⟨?_,h.erow.keep ks (fun g hg e=>h.eb (by rw [show g=b from e] at hg; exact hg)),h.frow.keep ks (fun g hg e=>h.fb (by rw [show g=b from e] at hg; exact hg)),?_,h.eb,h.fb,(fun e=>by obtain ⟨_,e⟩:=e; cases e),h.ef,(fun _ _ e=>by obtain ⟨_,e⟩:=e; cases e),(fun _ _ e=>by obtain ⟨_,e⟩:=e; cases e)⟩,ks,h.srow.keep ks (fun g hg e=>h.sb (by rw [show g=b from e] at hg; exact hg))⟩
  · have:=h.blk.set 11 (.slice none 0 0)
    have e1:(ncells n p).setIfInBounds 11 (.slice none 0 0)=ncells { n with sent:=[] } { p with sa:=none,sc:=0 }:=by simp [ncells]
    rw [e1] at this
    exact this
  · exact ⟨rfl,Nat.le_refl _,Or.inl ⟨rfl,rfl,rfl⟩⟩
theorem ccells_get (l:List (Nat × NMsg)):∀ (k:Nat) (e:Nat × NMsg),l[k]?=some e→(ccells l)[k * 2]?=some (.int .i64 (e.1:Int))∧(ccells l)[k * 2 + 1]?=some e.2.val:=by
  induction l with
  | nil=>intro k e h; simp at h
  | cons x t ih =>
    intro k e h
    have hc:ccells (x :: t)=ccell x++ccells t:=by simp [ccells]
    rw [hc]
    cases k with
    | zero=>simp at h; subst h; exact ⟨rfl,rfl⟩
    | succ k =>
      rw [List.getElem?_cons_succ] at h
      have:=ih k e h
      have hl:(ccell x).length=2:=rfl
      rw [List.getElem?_append_right (by omega),List.getElem?_append_right (by omega),hl,show (k + 1) * 2 - 2=k * 2 by omega,show (k + 1) * 2 + 1 - 2=k * 2 + 1 by omega]
      exact this
theorem NRep.off_at {w:World} {b:Nat} {n:Nod} {p:Np} (h:NRep w b n p) (j:Nat) (e:Nat × NMsg) (he:n.off[j]?=some e):∃ g o,p.fa=some ⟨g,o,none⟩∧g < w.heap.size∧w.cell? ⟨g,o + j * 2,none⟩=some (.int .i64 (e.1:Int))∧w.cell? ⟨g,o + j * 2 + 1,none⟩=some e.2.val:=by
  obtain ⟨h1,h2,h3⟩:=h.frow
  have hj:=(List.getElem?_eq_some_iff.1 he).1
  rcases h3 with ⟨_,h3,_⟩ | ⟨g,o,h3,hv⟩
  · omega
  · obtain ⟨c0,c1⟩:=ccells_get n.off j e he
    exact ⟨g,o,h3,hv.lt,hv.cell _ _ c0,by rw [Nat.add_assoc]; exact hv.cell _ _ c1⟩
theorem ccells_append (l m:List (Nat × NMsg)):ccells (l++m)=ccells l++ccells m:=by simp [ccells]
theorem ccells_len (l:List (Nat × NMsg)):(ccells l).length=l.length * 2:=by
  induction l with
  | nil=>rfl
  | cons x t ih =>
    have hc:ccells (x :: t)=ccell x++ccells t:=by simp [ccells]
    rw [hc,List.length_append,ih,List.length_cons]
    have hl:(ccell x).length=2:=rfl
    omega
theorem ccells_one (l:List (Nat × NMsg)):∀ u ∈ ccells l,u.oneCell'=true:=by
  intro u hu
  simp only [ccells,List.mem_flatMap] at hu
  obtain ⟨c,_,hc⟩:=hu
  simp only [ccell,List.mem_cons,List.not_mem_nil,or_false] at hc
  rcases hc with rfl | rfl
  · rfl
  · cases c.2 <;> rfl
theorem off_parts (l:List (Nat × NMsg)) (k:Nat) (c:Nat × NMsg) (h:l[k]?=some c):ccells l=ccells (l.take k)++ccell c++ccells (l.drop (k + 1))∧ccells (l.eraseIdx k)=ccells (l.take k)++ccells (l.drop (k + 1)):=by
  have hk:=(List.getElem?_eq_some_iff.1 h).1
  have hl:l=l.take k++[c]++l.drop (k + 1):=by
    have h2:=(List.take_append_drop (k + 1) l).symm
    rw [take_add l k c h] at h2
    exact h2
  constructor
  · conv=>lhs; rw [hl]
    rw [ccells_append,ccells_append]
    have:ccells [c]=ccell c:=by simp [ccells]
    rw [this]
  · rw [List.eraseIdx_eq_take_drop_succ,ccells_append]
theorem NRep.erase {w w' : World} {b : Nat} {n : Nod} {p : Np} (h : NRep w b n p) (k : Nat) (c : Nat × NMsg) (hc : n.off[k]? = some c) (g o : Nat) (pre sp : List Value) (hga : p.fa = some ⟨g, o, none⟩) (hpre : pre.length = o) (hcap : p.fc * 2 ≤ (ccells n.off).length + sp.length)
    (hb:Blk w' g (pre++ccells (n.off.take k)++ccells (n.off.drop (k + 1))++[Value.int .i64 0,Value.nilIface]++sp).toArray 270) (hk:Keep (only g) w w') :
    NRep (w'.setCell ⟨b,10,none⟩ (.slice p.fa (n.off.length - 1) p.fc)) b { n with off:=n.off.eraseIdx k } p∧NStep w (w'.setCell ⟨b,10,none⟩ (.slice p.fa (n.off.length - 1) p.fc)) b p p:=by
  have hkl:=(List.getElem?_eq_some_iff.1 hc).1
  have hg:inB p.fa g:=by rw [hga]; exact inB_self g o
  have hgb:b≠g:=fun e=>h.fb (e ▸ hg)
  have ks:Keep (only b) w' (w'.setCell ⟨b,10,none⟩ (.slice p.fa (n.off.length - 1) p.fc)):=(Keep.refl (only b) w').setCell (p:=⟨b,10,none⟩) (fun _=>rfl) _
  have hel:(n.off.eraseIdx k).length=n.off.length - 1:=by rw [List.length_eraseIdx_of_lt hkl]
  obtain ⟨h1,h2,h3⟩:=h.frow
  obtain ⟨q1,q2⟩:=off_parts n.off k c hc
  refine ⟨⟨?_,(h.erow.keep hk (fun i hi e=>h.ef i hi (by rw [show i=g from e]; exact hg))).keep ks (fun i hi e=>h.eb (by rw [show i=b from e] at hi; exact hi)),?_,(h.srow.keep hk (fun i hi e=>h.fs g hg (by rw [← show i=g from e]; exact hi))).keep ks (fun i hi e=>h.sb (by rw [show i=b from e] at hi; exact hi)),h.eb,h.fb,h.sb,h.ef,h.es,h.fs⟩,⟨fun _ e=>Or.inl e,(hk.mono (fun i _ e=>Or.inr (Or.inr (Or.inl (by rw [show i=g from e]; exact hg))))).trans (ks.mono (fun i _ e=>Or.inl e)),rfl,rfl⟩⟩
  · have hb1:=(h.blk.keep hk (fun e=>hgb e)).set 10 (.slice p.fa (n.off.length - 1) p.fc)
    have e1:(ncells n p).setIfInBounds 10 (.slice p.fa (n.off.length - 1) p.fc)=ncells { n with off:=n.off.eraseIdx k } p:=by simp [ncells,hel]
    rw [e1] at hb1
    exact hb1
  · show RV _ _ 2 p.fa (n.off.eraseIdx k).length p.fc (ccells (n.off.eraseIdx k))
    refine ⟨ccells_len _,by rw [hel]; omega,Or.inr ⟨g,o,hga,pre,[Value.int .i64 0,Value.nilIface]++sp,?_,hpre,?_⟩⟩
    · have hb2:=hb.keep ks (fun e=>hgb e.symm)
      rw [q2]
      simpa [List.append_assoc] using hb2
    · rw [ccells_len] at hcap ⊢
      rw [hel]
      simp
      omega
theorem oneOff_at (q:Nod) (L k:Nat) (c:Nat × NMsg) (hk:k < L) (hc:q.off[k]?=some c):q.oneOff (L - k) k=if (q.act c.1 c.2).2 then ({ (q.act c.1 c.2).1 with off:=(q.act c.1 c.2).1.off.eraseIdx k },true) else (q.act c.1 c.2).1.oneOff (L - (k + 1)) (k + 1):=by
  rw [show L - k=(L - (k + 1)) + 1 by omega,Nod.oneOff,hc]
structure One (w wr : World) (b : Nat) (n : Nod) (p : Np) (k : Nat) (q : Nod) (pr : Np) : Prop where
  rep:NRep wr b q pr
  step:NStep w wr b p pr
  fr:NFr n q (k * (n.edges.length + 2))
  rest:q.oneOff (n.off.length - k) k=n.oneOff n.off.length 0
set_option maxRecDepth 100000 in
set_option maxHeartbeats 2000000 in
theorem oneOff_any (b:Nat) (n:Nod) (p:Np) (w:World) (h:NRep w b n p) (hg:NGood n) (ho:(n.off.length:Int) < 100000) (hs:(n.sent.length:Int) < 100000000000) :
    Calls Tryz.prog 174 #[.pointer (some ⟨b,0,none⟩)] w fun r w'=>r=.returned (.bool (n.oneOff n.off.length 0).2)∧∃ p',NRep w' b (n.oneOff n.off.length 0).1 p'∧NStep w w' b p p':=by
  have H:Unit→NRep w b n p∧NGood n∧(n.off.length:Int) < 100000∧(n.sent.length:Int) < 100000000000:=fun _=>⟨h,hg,ho,hs⟩
  obtain ⟨-,-,-,-,-,-,-,-,-,-,c10,-⟩:=h.cells
  have hbl:=h.blk.lt
  clear h hg ho hs
  go_enter Tryz.func174,Tryz.ntmps174
  go_wp2_with fail
  have H0:Unit→One w w b n p 0 n p:=fun _=>⟨(H ()).1,NStep.refl _ _ _,(NFr.refl n).mono (by omega),rfl⟩
  clear c10
  go_loopw [10] (fun v wr=>∃ (k:Nat) (q:Nod) (pr:Np),k≤n.off.length∧v=.int .i64 (k:Int)∧One w wr b n p k q pr) (fun v _=>n.off.length - (intOf v).toNat)
  case atStart=>exact ⟨0,n,p,by omega,rfl,H0 ()⟩
  case round =>
    obtain ⟨k,q,pr,hk,rfl,hone⟩:=hrel
    have HQ:Unit→One w wr b n p k q pr∧k≤n.off.length:=fun _=>⟨hone,hk⟩
    have hbr:=hone.rep.blk.lt
    clear hone
    by_cases hkl:k < n.off.length
    · have HKL:Unit→k < n.off.length:=fun _=>hkl
      have hkI:(k:Int) < (n.off.length:Int):=by omega
      obtain ⟨c,hc⟩:∃ c,n.off[k]?=some c:=⟨_,List.getElem?_eq_getElem hkl⟩
      have hqc:q.off[k]?=some c:=by rw [(HQ ()).1.fr.off]; exact hc
      obtain ⟨g,o,hga,hgl,e0,e1⟩:=(HQ ()).1.rep.off_at k c hqc
      have hpa:p.fa=some ⟨g,o,none⟩:=by rw [← (HQ ()).1.step.fa]; exact hga
      have HC:Unit→n.off[k]?=some c∧q.off[k]?=some c∧p.fa=some ⟨g,o,none⟩:=fun _=>⟨hc,hqc,hpa⟩
      rw [NMsg.val_eq] at e1
      have hk9:(k:Int) < 100000:=by have:=(H ()).2.2.1; omega
      have HGQ:Unit→NGood q:=fun _=>(H ()).2.1.fr (HQ ()).1.fr
      have HMAY:Unit→c.1 < q.edges.length∧c.2.may:=fun _=>(HGQ ()).off c (List.mem_of_getElem? (HC ()).2.1)
      have HSQ:Unit→(q.sent.length:Int) < 990000000000:=fun _=>by
        have h1:=(HQ ()).1.fr.sent
        have h2:=(H ()).2.1.rise.few
        have h3:=(H ()).2.2.2
        have h4:k * (n.edges.length + 2)≤k * 1002:=Nat.mul_le_mul_left _ (by omega)
        omega
      have HA:Unit→∀ w1,Keep nil wr w1→_:=fun _ w1 k1=>act_any b q pr c.1 c.2 w1 ((HQ ()).1.rep.keep k1 (fun _ _ e=>e)) ((HGQ ()).ok (HSQ ())) (HMAY ()).1
      rw [NMsg.val_eq] at HA
      have HFA:Unit→NFr q (q.act c.1 c.2).1 (q.edges.length + 2):=fun _=>fr_act q c.1 c.2 (HMAY ()).1 (HMAY ()).2
      have HRST:Unit→_:=fun _=>oneOff_at q n.off.length k c (HKL ()) (HC ()).2.1
      rw [hpa]
      clear hkl hk hc hqc hga hpa
      generalize c.2.ty=cty at *
      generalize c.2.inner=cin at *
      generalize hnol:n.off.length=nol at hkI
      clear hnol
      go_wp2_with fail
      refine Calls.mono (HA () _ ((Keep.refl nil wr).alloc _)) ?_
      rintro r w2 ⟨rfl,p2,hr2,hs2⟩
      have H2:Unit→NRep w2 b (q.act c.1 c.2).1 p2∧NStep w w2 b p p2:=fun _=>⟨hr2,((HQ ()).1.step.trans (NStep.of_keep b pr ((Keep.refl nil wr).alloc _))).trans hs2⟩
      clear hr2 hs2 HA e0 e1
      cases hb:(q.act c.1 c.2).2 with
      | false =>
        have HP:Unit→One w w2 b n p (k + 1) (q.act c.1 c.2).1 p2:=fun _=>⟨(H2 ()).1,(H2 ()).2,((HQ ()).1.fr.trans (HFA ())).mono (by rw [(HQ ()).1.fr.len,Nat.succ_mul]; omega),by
          have:=(HQ ()).1.rest
          rw [HRST (),hb] at this
          exact this⟩
        go_wp2
        exact ⟨⟨k + 1,_,p2,by have:=HKL (); omega,by go_num,HP ()⟩,by have:=HKL (); simp [intOf]; omega⟩
      | true =>
        have HFIN:Unit→n.oneOff n.off.length 0=({ (q.act c.1 c.2).1 with off:=(q.act c.1 c.2).1.off.eraseIdx k },true):=fun _=>by
          have:=(HQ ()).1.rest
          rw [HRST (),hb] at this
          exact this.symm
        have HOFF:Unit→(q.act c.1 c.2).1.off=n.off:=fun _=>(HFA ()).off.trans (HQ ()).1.fr.off
        obtain ⟨-,-,-,-,-,-,-,-,-,-,d10,-⟩:=(H2 ()).1.cells
        rw [HOFF ()] at d10
        have hp2:p2.fa=some ⟨g,o,none⟩:=by rw [(H2 ()).2.fa]; exact (HC ()).2.2
        rw [hp2] at d10
        have hfrow:=(H2 ()).1.frow
        rw [HOFF (),hp2] at hfrow
        obtain ⟨r1,r2,r3⟩:=hfrow
        obtain ⟨pre,sp,hblk,hpre,hcap⟩:∃ pre sp,Blk w2 g (pre++ccells n.off++sp).toArray 270∧pre.length=o∧p2.fc * 2≤(ccells n.off).length + sp.length:=by
          rcases r3 with ⟨r3,_⟩ | ⟨g',o',r3,pre,sp,x1,x2,x3⟩
          · cases r3
          · cases r3; exact ⟨pre,sp,x1,x2,x3⟩
        obtain ⟨q1,q2⟩:=off_parts n.off k c (HC ()).1
        have hD:=delete_came g o n.off.length p2.fc k (k + 1) pre (ccells (n.off.take k)) (ccell c) (ccells (n.off.drop (k + 1))) sp w2 (by rw [q1] at hblk; simpa [List.append_assoc] using hblk) hpre (by rw [ccells_len,List.length_take]; have:=HKL (); omega) rfl (by rw [ccells_len,List.length_drop]) (ccells_one _) rfl (by have:=HKL (); omega) r2
        have HD:Unit→_:=fun _=>hD
        have hbl2:=(H2 ()).1.blk.lt
        have f10:=(H2 ()).1.blk.frozen 10
        have hgb:¬ b=g:=fun e=>(H2 ()).1.fb (by rw [hp2,e]; exact inB_self g o)
        have hkw:wrap64 ((k:Int) + 1)=((k + 1:Nat):Int):=by unfold wrap64; omega
        have HPS:Unit→pre.length=o∧p2.fc * 2≤(ccells n.off).length + sp.length∧p2.fa=some ⟨g,o,none⟩:=fun _=>⟨hpre,hcap,hp2⟩
        rw [show ((k + 1:Nat):Int)=(k:Int) + 1 from by omega] at HD
        clear hD r1 r2 r3 hblk hpre hcap q1 q2
        go_wp2_with fail
        refine Calls.mono (HD ()) ?_
        rintro r w3 ⟨rfl,hb3,hk3⟩
        have he:=(H2 ()).1.erase (w':=w3) k c (by rw [HOFF ()]; exact (HC ()).1) g o pre sp (HPS ()).2.2 (HPS ()).1 (by rw [HOFF ()]; exact (HPS ()).2.1) (by rw [HOFF ()]; exact hb3) hk3
        rw [HOFF (),(HPS ()).2.2] at he
        have HP:Unit→∃ p',NRep (w3.setCell ⟨b,10,none⟩ (.slice (some ⟨g,o,none⟩) (n.off.length - 1) p2.fc)) b (n.oneOff n.off.length 0).1 p'∧NStep w (w3.setCell ⟨b,10,none⟩ (.slice (some ⟨g,o,none⟩) (n.off.length - 1) p2.fc)) b p p':=fun _=>⟨p2,by rw [HFIN (),HOFF ()]; exact he.1,(H2 ()).2.trans he.2⟩
        have g10:=(hk3.frozen b 10 hbl2 hgb).trans f10
        have c10:=(hk3.cell b 10 hbl2 hgb).trans d10
        have hbl3:b < w3.heap.size:=Nat.lt_of_lt_of_le hbl2 hk3.size
        clear he hb3 hk3 HD d10 f10 hkw
        go_wp2
        go_ret
        exact ⟨by rw [HFIN ()]; rfl,HP ()⟩
    · have ek:k=n.off.length:=by omega
      subst ek
      have HN:Unit→n.oneOff n.off.length 0=(q,false):=fun _=>by rw [← (HQ ()).1.rest,Nat.sub_self,Nod.oneOff]
      clear hkl hk
      go_wp2
      go_ret
      exact ⟨by rw [HN ()]; rfl,pr,by rw [HN ()]; exact (HQ ()).1.rep,(HQ ()).1.step⟩
structure NMove (w w' : World) (b : Nat) (p p' : Np) : Prop where
  mine:∀ k,NMine b p' k→NMine b p k∨w.heap.size≤k
  keep:Keep (NMine b p) w w'
theorem NStep.move {w w':World} {b:Nat} {p p':Np} (h:NStep w w' b p p'):NMove w w' b p p':=⟨h.mine,h.keep⟩
theorem NMove.trans {w w1 w2:World} {b:Nat} {p p1 p2:Np} (h:NMove w w1 b p p1) (k:NMove w1 w2 b p1 p2):NMove w w2 b p p2 :=
  ⟨fun i hi=>by
    rcases k.mine i hi with h1 | h1
    · exact h.mine i h1
    · exact Or.inr (Nat.le_trans h.keep.size h1),h.keep.trans' k.keep (fun i hi e=>by
    rcases h.mine i e with h1 | h1
    · exact h1
    · omega)⟩
structure NTk (n n' : Nod) (s : Nat) : Prop where
  len:n'.edges.length=n.edges.length
  good:NGood n→NGood n'
  off:n'.off.length≤n.off.length
  sent:n'.sent.length≤n.sent.length + s
theorem oneOff_tk (f:Nat):∀ (k:Nat) (n:Nod),NGood n→NTk n (n.oneOff f k).1 (f * (n.edges.length + 2))∧((n.oneOff f k).2=true→(n.oneOff f k).1.off.length + 1=n.off.length):=by
  induction f with
  | zero=>intro k n h; exact ⟨⟨rfl,id,Nat.le_refl _,by simp [Nod.oneOff]⟩,fun e=>by simp [Nod.oneOff] at e⟩
  | succ f ih =>
    intro k n h
    rw [Nod.oneOff]
    split
    · exact ⟨⟨rfl,id,Nat.le_refl _,Nat.le_add_right _ _⟩,fun e=>by simp at e⟩
    · rename_i c hc
      have hm:=h.off c (List.mem_of_getElem? hc)
      have hf:=fr_act n c.1 c.2 hm.1 hm.2
      have hk:=(List.getElem?_eq_some_iff.1 hc).1
      have hg:=h.fr hf
      have hs:=hf.sent
      have hmul:(f + 1) * (n.edges.length + 2)=f * (n.edges.length + 2) + (n.edges.length + 2):=by rw [Nat.succ_mul]
      split
      · have hel:((n.act c.1 c.2).1.off.eraseIdx k).length + 1=n.off.length:=by
          rw [hf.off,List.length_eraseIdx_of_lt hk]; omega
        refine ⟨⟨hf.len,fun _=>hg.erase k,?_,?_⟩,fun _=>hel⟩
        · show ((n.act c.1 c.2).1.off.eraseIdx k).length≤_; omega
        · show (n.act c.1 c.2).1.sent.length≤_
          omega
      · obtain ⟨i1,i2⟩:=ih (k + 1) (n.act c.1 c.2).1 hg
        refine ⟨⟨i1.len.trans hf.len,fun _=>i1.good hg,by have:=i1.off; rw [hf.off] at this; exact this,?_⟩,fun e=>by have:=i2 e; rw [hf.off] at this; exact this⟩
        have:=i1.sent
        rw [hf.len] at this
        omega
def offLen (w:World) (b:Nat):Nat:=match w.cell? ⟨b,10,none⟩ with | some (.slice _ n _)=>n | _=>0
structure Tk (w wr : World) (b : Nat) (n : Nod) (p : Np) (q : Nod) (pr : Np) : Prop where
  rep:NRep wr b q pr
  step:NStep w wr b p pr
  good:NGood q
  len:q.edges.length=n.edges.length
  off:q.off.length≤n.off.length
  sent:q.sent.length + q.off.length * (5000 * 1002)≤n.sent.length + n.off.length * (5000 * 1002)
  rest:q.offs (q.off.length + 1)=n.offs (n.off.length + 1)
theorem Tk.len10 {w wr:World} {b:Nat} {n q:Nod} {p pr:Np} (h:Tk w wr b n p q pr):offLen wr b=q.off.length:=by
  obtain ⟨-,-,-,-,-,-,-,-,-,-,c10,-⟩:=h.rep.cells
  unfold offLen
  rw [c10]
theorem Tk.next {w wr w':World} {b:Nat} {n q:Nod} {p pr p':Np} (h:Tk w wr b n p q pr) (ho:(n.off.length:Int) < 5000) (hb:(q.oneOff q.off.length 0).2=true) (hr:NRep w' b (q.oneOff q.off.length 0).1 p') (hs:NStep wr w' b pr p'):Tk w w' b n p (q.oneOff q.off.length 0).1 p':=by
  obtain ⟨t1,t2⟩:=oneOff_tk q.off.length 0 q h.good
  have t3:=t2 hb
  refine ⟨hr,h.step.trans hs,t1.good h.good,t1.len.trans h.len,by have:=h.off; omega,?_,?_⟩
  · have hf:=h.good.rise.few
    have a1:=t1.sent
    have a2:=h.sent
    have a3:q.off.length * (q.edges.length + 2)≤5000 * 1002:=Nat.mul_le_mul (by have:=h.off; omega) (by omega)
    rw [← t3,Nat.succ_mul] at a2
    omega
  · rw [← h.rest,Nod.offs.eq_2 q,if_pos hb,t3]
theorem Tk.stop {w wr:World} {b:Nat} {n q:Nod} {p pr:Np} (h:Tk w wr b n p q pr) (hb:(q.oneOff q.off.length 0).2=false):n.offs (n.off.length + 1)=(q.oneOff q.off.length 0).1:=by
  rw [← h.rest,Nod.offs.eq_2 q,if_neg (by rw [hb]; simp)]
theorem came_info2:(Tryz.prog.info? 270).map (fun i=>(i.zero,i.size,i.bytes))=some (some (.agg #[.int .i64 0,.nilIface]),2,24):=by kernel_rfl
theorem NRep.off_one {w w1:World} {b:Nat} {n:Nod} {p:Np} (h:NRep w b n p) (c:Nat × NMsg) (a':Option Addr) (c':Nat) (hrow:RV w1 270 2 a' (n.off.length + 1) c' (ccells n.off++ccell c)) (hd:∀ g,inB a' g→inB p.fa g∨w.heap.size≤g) (hk:Keep (inB p.fa) w w1) :
    NRep (w1.setCell ⟨b,10,none⟩ (.slice a' (n.off.length + 1) c')) b { n with off:=n.off++[c] } { p with fa:=a',fc:=c' }∧NMove w (w1.setCell ⟨b,10,none⟩ (.slice a' (n.off.length + 1) c')) b p { p with fa:=a',fc:=c' }:=by
  have hbl:=h.blk.lt
  have ks:Keep (only b) w1 (w1.setCell ⟨b,10,none⟩ (.slice a' (n.off.length + 1) c')):=(Keep.refl (only b) w1).setCell (p:=⟨b,10,none⟩) (fun _=>rfl) _
  have old:∀ g,g < w.heap.size→¬ inB p.fa g→¬ inB a' g:=fun g hg hn e=>by
    rcases hd g e with e | e
    · exact hn e
    · omega
  have hb1:=(h.blk.keep hk (fun e=>h.fb e)).set 10 (.slice a' (n.off.length + 1) c')
  have hlen:(n.off++[c]).length=n.off.length + 1:=by simp
  refine ⟨⟨?_,?_,?_,?_,h.eb,old b hbl h.fb,h.sb,fun k hke=>old k (h.erow.lt k hke) (h.ef k hke),h.es,fun k hkf hks=>?_⟩,⟨fun k hk=>?_,?_⟩⟩
  · have:(ncells n p).setIfInBounds 10 (.slice a' (n.off.length + 1) c')=ncells { n with off:=n.off++[c] } { p with fa:=a',fc:=c' }:=by simp [ncells]
    rw [this] at hb1; exact hb1
  · exact (h.erow.keep hk (fun g hg e=>h.ef g hg e)).keep ks (fun g hg e=>by rw [show g=b from e] at hg; exact h.eb hg)
  · rw [hlen,ccells_append]
    have:ccells [c]=ccell c:=by simp [ccells]
    rw [this]
    exact hrow.keep ks (fun g hg e=>by rw [show g=b from e] at hg; exact old b hbl h.fb hg)
  · exact (h.srow.keep hk (fun g hg e=>h.fs g e hg)).keep ks (fun g hg e=>by rw [show g=b from e] at hg; exact h.sb hg)
  · exact old k (h.srow.lt k hks) (fun e=>h.fs k e hks) hkf
  · rcases hk with hk | hk | hk | hk
    · exact Or.inl (Or.inl hk)
    · exact Or.inl (Or.inr (Or.inl hk))
    · exact (hd k hk).imp (fun e=>Or.inr (Or.inr (Or.inl e))) id
    · exact Or.inl (Or.inr (Or.inr (Or.inr hk)))
  · exact (hk.mono (fun _ _ e=>Or.inr (Or.inr (Or.inl e)))).trans (ks.mono (fun _ _ e=>Or.inl e))
set_option maxRecDepth 100000 in
set_option maxHeartbeats 2000000 in
theorem ntake_any (b:Nat) (n:Nod) (p:Np) (j:Nat) (m:Fr.Msg) (w:World) (h:NRep w b n p) (hg:NGood n) (hj:j < n.edges.length) (h1:1≤m.kind) (h7:m.kind≤7) (hv:m.level≤10) (ho:(n.off.length:Int) < 5000) (hs:(n.sent.length:Int) < 10000000000) :
    Calls Tryz.prog 117 #[.pointer (some ⟨b,0,none⟩),.int .i64 (j:Int),mv m] w fun r w'=>r=.returned (.tuple #[])∧∃ p',NRep w' b (n.take j m) p'∧NMove w w' b p p':=by
  have hbl:=h.blk.lt
  have H:Unit→NRep w b n p∧NGood n∧j < n.edges.length∧(n.off.length:Int) < 5000∧(n.sent.length:Int) < 10000000000:=fun _=>⟨h,hg,hj,ho,hs⟩
  have HM:Unit→1≤m.kind∧m.kind≤7∧(typed m).may:=fun _=>⟨h1,h7,by
    unfold typed
    split <;> simp [NMsg.may]
    exact hv⟩
  have HBL:Unit→∀ k,NMine b p k→k < w.heap.size:=fun _=>h.lt
  clear h hg hj ho hs h1 h7 hv
  have HT:Unit→∀ w1,_:=fun _ w1=>typed_any m w1 (HM ()).1 (HM ()).2.1
  have HA:Unit→∀ w1,Keep nil w w1→_:=fun _ w1 k1=>act_any b n p j (typed m) w1 ((H ()).1.keep k1 (fun _ _ e=>e)) ((H ()).2.1.ok (by have:=(H ()).2.2.2.2; omega)) (H ()).2.2.1
  have HE:Unit→n.take j m=(if (n.act j (typed m)).2 then (n.act j (typed m)).1.offs ((n.act j (typed m)).1.off.length + 1) else { (n.act j (typed m)).1 with off:=(n.act j (typed m)).1.off++[(j,typed m)] }):=fun _=>rfl
  have HF:Unit→NFr n (n.act j (typed m)).1 (n.edges.length + 2):=fun _=>fr_act n j (typed m) (H ()).2.2.1 (HM ()).2.2
  generalize n.take j m=nt at *
  have HV:Unit→(typed m).val=.iface (typed m).ty (typed m).inner:=fun _=>NMsg.val_eq _
  rw [NMsg.val_eq] at HT HA
  obtain ⟨kd,lv,nm,fi⟩:=m
  simp only [mv] at HT ⊢
  generalize typed ⟨kd,lv,nm,fi⟩=tm at *
  generalize tm.ty=cty at *
  generalize tm.inner=cin at *
  go_enter Tryz.func117,Tryz.ntmps117
  go_wp2_with fail
  refine Calls.mono (HT () _) ?_
  rintro r w1 ⟨rfl,hk1⟩
  have HK1:Unit→Keep nil w w1:=fun _=>((Keep.refl nil w).alloc _).trans hk1
  clear hk1 HT
  go_wp2_with fail
  refine Calls.mono (HA () _ ((HK1 ()).alloc _)) ?_
  rintro r w2 ⟨rfl,p2,hr2,hs2⟩
  have hb1:Blk (w1.alloc (.cells #[.int .i64 (j:Int),.iface cty cin] 270)) w1.heap.size #[.int .i64 (j:Int),.iface cty cin] 270:=Blk.new _ _ _
  have hb2:=hb1.keep hs2.keep (fun e=>by have:=HBL () _ e; have:=(HK1 ()).size; omega)
  have H2:Unit→NRep w2 b (n.act j tm).1 p2∧NStep w w2 b p p2∧Blk w2 w1.heap.size #[.int .i64 (j:Int),.iface cty cin] 270∧¬ NMine b p2 w1.heap.size:=fun _=>⟨hr2,(NStep.of_keep b p ((HK1 ()).alloc _)).trans hs2,hb2,fun e=>by
    rcases hs2.mine _ e with e | e
    · have:=HBL () _ e; have:=(HK1 ()).size; omega
    · simp only [World.size_alloc] at e; omega⟩
  clear hb1 hb2 hr2 hs2 HA
  cases hb:(n.act j tm).2 with
  | true =>
    have HE2:Unit→nt=(n.act j tm).1.offs ((n.act j tm).1.off.length + 1):=fun _=>by rw [HE (),hb]; rfl
    have HSB:Unit→((n.act j tm).1.sent.length:Int) < 11000000000∧((n.act j tm).1.off.length:Int) < 5000:=fun _=>by
      have h1:=(HF ()).sent
      have h2:=(H ()).2.1.rise.few
      have h3:=(H ()).2.2.2
      rw [(HF ()).off]
      exact ⟨by omega,h3.1⟩
    have H0:Unit→Tk w w2 b (n.act j tm).1 p (n.act j tm).1 p2:=fun _=>⟨(H2 ()).1,(H2 ()).2.1,(H ()).2.1.fr (HF ()),rfl,Nat.le_refl _,Nat.le_refl _,rfl⟩
    clear HE HF
    generalize (n.act j tm).1=n1 at *
    go_wp2_with fail
    go_loopw [26] (fun v wr=>∃ (q:Nod) (pr:Np),Tk w wr b n1 p q pr) (fun v wr=>offLen wr b)
    case atStart=>exact ⟨n1,p2,H0 ()⟩
    case round =>
      obtain ⟨q,pr,htk⟩:=hrel
      have HQ:Unit→Tk w wr b n1 p q pr:=fun _=>htk
      have HO:Unit→_:=fun _=>oneOff_any b q pr wr htk.rep htk.good (by have:=htk.off; have:=(HSB ()).2; omega) (by have:=htk.sent; have:=HSB (); have:=htk.off; omega)
      clear htk
      go_wp2_with fail
      refine Calls.mono (HO ()) ?_
      rintro r w3 ⟨rfl,p3,hr3,hs3⟩
      have H3:Unit→NRep w3 b (q.oneOff q.off.length 0).1 p3∧NStep wr w3 b pr p3:=fun _=>⟨hr3,hs3⟩
      clear hr3 hs3 HO
      cases hb3:(q.oneOff q.off.length 0).2 with
      | true =>
        have HP:Unit→Tk w w3 b n1 p (q.oneOff q.off.length 0).1 p3:=fun _=>(HQ ()).next (HSB ()).2 hb3 (H3 ()).1 (H3 ()).2
        have HMS:Unit→offLen w3 b < offLen wr b:=fun _=>by
          rw [(HP ()).len10,(HQ ()).len10]
          have:=(oneOff_tk q.off.length 0 q (HQ ()).good).2 hb3
          omega
        go_wp2
        exact ⟨⟨_,p3,HP ()⟩,HMS ()⟩
      | false =>
        have HP:Unit→∃ p',NRep w3 b nt p'∧NMove w w3 b p p':=fun _=>⟨p3,by rw [HE2 (),(HQ ()).stop hb3]; exact (H3 ()).1,((HQ ()).step.trans (H3 ()).2).move⟩
        go_wp2
        go_end0
        exact ⟨rfl,HP ()⟩
  | false =>
    have HE2:Unit→nt={ (n.act j tm).1 with off:=(n.act j tm).1.off++[(j,tm)] }:=fun _=>by rw [HE (),hb]; rfl
    have HOF:Unit→((n.act j tm).1.off.length:Int) < 5000:=fun _=>by rw [(HF ()).off]; exact (H ()).2.2.2.1
    obtain ⟨-,-,-,-,-,-,-,-,-,-,d10,-⟩:=(H2 ()).1.cells
    have f10:=(H2 ()).1.blk.frozen 10
    have hbl2:=(H2 ()).1.blk.lt
    have y0:=(H2 ()).2.2.1.cell 0
    have y1:=(H2 ()).2.2.1.cell 1
    simp at y0 y1
    have hyl:=(H2 ()).2.2.1.lt
    have HFB:Unit→¬ inB p2.fa b:=fun _=>(H2 ()).1.fb
    have HRW:Unit→RV w2.drew 270 2 p2.fa (n.act j tm).1.off.length p2.fc (ccells (n.act j tm).1.off):=fun _=>(H2 ()).1.frow.keep ((Keep.refl nil w2).drew) (fun _ _ e=>e)
    have HVV:Unit→ccell (j,tm)=[.int .i64 (j:Int),.iface cty cin]:=fun _=>by rw [← HV ()]; rfl
    clear HF HE
    generalize (n.act j tm).1=n1 at *
    generalize hln:n1.off.length=ln at d10 HRW HOF
    generalize hls:ccells n1.off=ls at HRW
    go_wp2_with fail
    go_region_law (refine step_append_rvS rfl (.tmp 19) (.tmp 21) 184 rfl 270 (.agg #[.int .i64 0,.nilIface]) 2 24 Tryz.underlying184 came_info2 rfl p2.fa ln p2.fc (by simp [Act.eval,Act.put]) ls ((HRW ()).alloc _) ⟨w2.heap.size,0,none⟩ 1 1 (by omega) rfl [.int .i64 (j:Int),.iface cty cin] rfl (cells_elist w2.drew [.int .i64 (j:Int),.iface cty cin] 270 _ rfl) (by intro u hu; simp at hu; rcases hu with rfl | rfl <;> rfl) (by have:=HOF (); omega) (by have:=HOF (); omega) ?_; intro a' c' w4 hb4 hd4 hk4; have g0:=((((Keep.refl nil w2.drew).alloc _).mono (fun _ _ e=>e.elim)).trans hk4).cell b 10 hbl2 (HFB ()); have g1:=((((Keep.refl nil w2.drew).alloc _).mono (fun _ _ e=>e.elim)).trans hk4).frozen b 10 hbl2 (HFB ()); rw [show w2.drew.cell? ⟨b,10,none⟩=_ from d10] at g0; rw [show w2.drew.frozen? ⟨b,10,none⟩=_ from f10] at g1)
    all_goals
      have HP:Unit→∃ p',NRep (w4.setCell ⟨b,10,none⟩ (.slice a' (ln + 1) c')) b nt p'∧NMove w (w4.setCell ⟨b,10,none⟩ (.slice a' (ln + 1) c')) b p p':=fun _=>by
        rw [HE2 ()]
        have k24:Keep (inB p2.fa) w2 w4:=((((Keep.refl nil w2).drew).alloc _).mono (fun _ _ e=>e.elim)).trans hk4
        rw [← hln,← hls,← HVV ()] at hb4
        rw [← hln]
        have ho:=(H2 ()).1.off_one (j,tm) a' c' hb4 (fun g hg=>by
          rcases hd4 with ⟨e,_⟩ | ⟨e,_⟩
          · rw [e] at hg; exact Or.inl hg
          · rw [e] at hg
            have:=inB_some.1 hg
            simp only [World.size_alloc,World.size_drew] at this
            exact Or.inr (by omega)) k24
        exact ⟨_,ho.1,(H2 ()).2.1.move.trans ho.2⟩
      have hbl4:b < w4.heap.size:=Nat.lt_of_lt_of_le (by simp; omega) hk4.size
      clear hb4 hd4 hk4 d10 f10 y0 y1 HRW
      go_wp2
      (try simp only [Exit.inBlock,Exit.then])
      refine bodyPost_ret (results_none rfl _ _ _) rfl ?_
      exact ⟨rfl,HP ()⟩
end Go.Proofs.YtlfijfodklhplaaGreat
