import Derived.Test.YtlfijfodklhplaaGreatTn09
set_option maxRecDepth 100000
set_option maxHeartbeats 2000000
set_option linter.unusedVariables false
set_option linter.unusedSimpArgs false
namespace Go.Proofs.YtlfijfodklhplaaGreat
open Go.RowKit
def NMsg.fn:NMsg→FuncId
 | .connect _=>247
 | .initiate _ _ _=>255
 | .test _ _=>256
 | .accept=>257
 | .reject=>258
 | .report _=>259
 | .root=>260
def NMsg.ty:NMsg→TypeId
 | .connect _=>193
 | .initiate _ _ _=>313
 | .test _ _=>315
 | .accept=>316
 | .reject=>317
 | .report _=>319
 | .root=>321
def NMsg.inner:NMsg→Value
 | .connect l=>.agg #[.int .i64 (l:Int)]
 | .initiate l n f=>.agg #[.int .i64 (l:Int),.int .i64 (n:Int),.bool f]
 | .test l n=>.agg #[.int .i64 (l:Int),.int .i64 (n:Int)]
 | .accept=>.agg #[]
 | .reject=>.agg #[]
 | .report w=>.agg #[.int .i64 (w:Int)]
 | .root=>.agg #[]
theorem NMsg.val_eq(m:NMsg):m.val=.iface m.ty m.inner:=by cases m<;>rfl
theorem plain_connect(l:Nat)(w:World):Calls Tryz.prog 247 #[(NMsg.connect l).inner] w fun r w'=>r=.returned (mv (NMsg.connect l).plain)∧Keep nil w w':=by
 simp only[NMsg.inner,NMsg.plain]
 go_enter Tryz.func247,Tryz.ntmps247
 go_wp2
 refine bodyPost_ret (v:=mv (NMsg.connect l).plain) ?_ rfl ⟨rfl,by repeat (first|exact Keep.refl _ _|apply Keep.alloc)⟩
 simp[results,Tryz.results247,go_sem,NMsg.plain]
theorem plain_initiate(l n:Nat)(f:Bool)(w:World):Calls Tryz.prog 255 #[(NMsg.initiate l n f).inner] w fun r w'=>r=.returned (mv (NMsg.initiate l n f).plain)∧Keep nil w w':=by
 simp only[NMsg.inner,NMsg.plain]
 go_enter Tryz.func255,Tryz.ntmps255
 go_wp2
 refine bodyPost_ret (v:=mv (NMsg.initiate l n f).plain) ?_ rfl ⟨rfl,by repeat (first|exact Keep.refl _ _|apply Keep.alloc)⟩
 simp[results,Tryz.results255,go_sem,NMsg.plain]
theorem plain_test(l n:Nat)(w:World):Calls Tryz.prog 256 #[(NMsg.test l n).inner] w fun r w'=>r=.returned (mv (NMsg.test l n).plain)∧Keep nil w w':=by
 simp only[NMsg.inner,NMsg.plain]
 go_enter Tryz.func256,Tryz.ntmps256
 go_wp2
 refine bodyPost_ret (v:=mv (NMsg.test l n).plain) ?_ rfl ⟨rfl,by repeat (first|exact Keep.refl _ _|apply Keep.alloc)⟩
 simp[results,Tryz.results256,go_sem,NMsg.plain]
theorem plain_accept  (w:World):Calls Tryz.prog 257 #[NMsg.accept.inner] w fun r w'=>r=.returned (mv NMsg.accept.plain)∧Keep nil w w':=by
 simp only[NMsg.inner,NMsg.plain]
 go_enter Tryz.func257,Tryz.ntmps257
 go_wp2
 refine bodyPost_ret (v:=mv NMsg.accept.plain) ?_ rfl ⟨rfl,by repeat (first|exact Keep.refl _ _|apply Keep.alloc)⟩
 simp[results,Tryz.results257,go_sem,NMsg.plain]
theorem plain_reject  (w:World):Calls Tryz.prog 258 #[NMsg.reject.inner] w fun r w'=>r=.returned (mv NMsg.reject.plain)∧Keep nil w w':=by
 simp only[NMsg.inner,NMsg.plain]
 go_enter Tryz.func258,Tryz.ntmps258
 go_wp2
 refine bodyPost_ret (v:=mv NMsg.reject.plain) ?_ rfl ⟨rfl,by repeat (first|exact Keep.refl _ _|apply Keep.alloc)⟩
 simp[results,Tryz.results258,go_sem,NMsg.plain]
theorem plain_root  (w:World):Calls Tryz.prog 260 #[NMsg.root.inner] w fun r w'=>r=.returned (mv NMsg.root.plain)∧Keep nil w w':=by
 simp only[NMsg.inner,NMsg.plain]
 go_enter Tryz.func260,Tryz.ntmps260
 go_wp2
 refine bodyPost_ret (v:=mv NMsg.root.plain) ?_ rfl ⟨rfl,by repeat (first|exact Keep.refl _ _|apply Keep.alloc)⟩
 simp[results,Tryz.results260,go_sem,NMsg.plain]
theorem plain_report(x:Nat)(w:World):Calls Tryz.prog 259 #[(NMsg.report x).inner] w fun r w'=>r=.returned (mv (NMsg.report x).plain)∧Keep nil w w':=by
 simp only[NMsg.inner]
 by_cases hx:x=1001
 ·subst hx
  go_enter Tryz.func259,Tryz.ntmps259
  go_wp2
  refine bodyPost_ret (v:=mv (NMsg.report 1001).plain) ?_ rfl ⟨rfl,by repeat (first|exact Keep.refl _ _|apply Keep.alloc)⟩
  simp[results,Tryz.results259,go_sem,NMsg.plain]
 ·have hne:((x:Int)==1001)=false:=by rw[beq_eq_false_iff_ne];omega
  have hne2:¬(x:Int)=1001:=by omega
  have hp:(NMsg.report x).plain=⟨6,0,x,false⟩:=by simp[NMsg.plain,hx]
  rw[hp]
  clear hp hx
  go_enter Tryz.func259,Tryz.ntmps259
  go_wp2
  refine bodyPost_ret (v:=mv ⟨6,0,x,false⟩) ?_ rfl ⟨rfl,by repeat (first|exact Keep.refl _ _|apply Keep.alloc)⟩
  simp[results,Tryz.results259,go_sem]
theorem plain_of(m:NMsg)(w:World):Calls Tryz.prog m.fn #[m.inner] w fun r w'=>r=.returned (mv m.plain)∧Keep nil w w':=by
 cases m with
 |connect l=>exact plain_connect l w
 |initiate l n f=>exact plain_initiate l n f w
 |test l n=>exact plain_test l n w
 |accept=>exact plain_accept w
 |reject=>exact plain_reject w
 |report x=>exact plain_report x w
 |root=>exact plain_root w
theorem method_of (m : NMsg) (k : Nat) (v : Value) (w : World) : (method (k + 1) m.ty v "arbor/node.plain").run Tryz.prog w = .ok (m.fn, v) w := by
 cases m<;>kernel_rfl
theorem letter_info:(Tryz.prog.info? 197).map (fun i=>(i.zero,i.size,i.bytes))=some (some (.agg #[.int .i64 0,.int .i64 0,.int .i64 0,.int .i64 0,.bool false]),5,40):=by kernel_rfl
theorem lcells_append(l m:List (Nat×Fr.Msg)):lcells (l++m)=lcells l++lcells m:=by simp[lcells]
theorem NRep.sent_one{w w1:World}{b:Nat}{n:Nod}{p:Np}(h:NRep w b n p)(c:Nat×Fr.Msg)(a':Option Addr)(c':Nat)(hrow:RV w1 197 5 a' (n.sent.length+1) c' (lcells n.sent++lcell c))(hd:∀g,inB a' g→inB p.sa g∨w.heap.size≤g)(hk:Keep (inB p.sa) w w1):
 NRep (w1.setCell ⟨b,11,none⟩ (.slice a' (n.sent.length+1) c')) b { n with sent:=n.sent++[c]} { p with sa:=a',sc:=c'}∧NStep w (w1.setCell ⟨b,11,none⟩ (.slice a' (n.sent.length+1) c')) b p { p with sa:=a',sc:=c'}:=by
 have hbl:=h.blk.lt
 have ks:Keep (only b) w1 (w1.setCell ⟨b,11,none⟩ (.slice a' (n.sent.length+1) c')):=(Keep.refl (only b) w1).setCell (p:=⟨b,11,none⟩) (fun _=>rfl) _
 have old:∀g,g<w.heap.size→¬inB p.sa g→¬inB a' g:=fun g hg hn e=>by
  rcases hd g e with e|e
  ·exact hn e
  ·omega
 have hb1:=(h.blk.keep hk (fun e=>h.sb e)).set 11 (.slice a' (n.sent.length+1) c')
 have hlen:(n.sent++[c]).length=n.sent.length+1:=by simp
 refine⟨⟨?_,?_,?_,?_,h.eb,h.fb,old b hbl h.sb,h.ef,fun k hke=>old k (h.erow.lt k hke) (h.es k hke),fun k hkf=>old k (h.frow.lt k hkf) (h.fs k hkf)⟩,⟨fun k hk=>?_,?_,rfl,rfl⟩⟩
 ·have:(ncells n p).setIfInBounds 11 (.slice a' (n.sent.length+1) c')=ncells { n with sent:=n.sent++[c]} { p with sa:=a',sc:=c'}:=by simp[ncells]
  rw[this]at hb1;exact hb1
 ·exact(h.erow.keep hk (fun g hg e=>h.es g hg e)).keep ks (fun g hg e=>by rw[show g=b from e]at hg;exact h.eb hg)
 ·exact(h.frow.keep hk (fun g hg e=>h.fs g hg e)).keep ks (fun g hg e=>by rw[show g=b from e]at hg;exact h.fb hg)
 ·rw[hlen,lcells_append]
  have:lcells [c]=lcell c:=by simp[lcells]
  rw[this]
  exact hrow.keep ks (fun g hg e=>by rw[show g=b from e]at hg;exact old b hbl h.sb hg)
 ·rcases hk with hk|hk|hk|hk
  ·exact Or.inl (Or.inl hk)
  ·exact Or.inl (Or.inr (Or.inl hk))
  ·exact Or.inl (Or.inr (Or.inr (Or.inl hk)))
  ·exact(hd k hk).imp (fun e=>Or.inr (Or.inr (Or.inr e))) id
 ·exact(hk.mono (fun _ _ e=>Or.inr (Or.inr (Or.inr e)))).trans (ks.mono (fun _ _ e=>Or.inl e))
theorem nsend_connect(b:Nat)(n:Nod)(p:Np)(j:Nat)(l:Nat)(w:World)(h:NRep w b n p)(hl:(n.sent.length:Int)<1000000000000):
 Calls Tryz.prog 109 #[.pointer (some ⟨b,0,none⟩),.int .i64 (j:Int),(NMsg.connect l).val] w fun r w'=>r=.returned (.tuple #[])∧∃p',NRep w' b (n.send j (NMsg.connect l)) p'∧NStep w w' b p p':=by
 have c0:=h.blk.cell 11
 have f0:=h.blk.frozen 11
 simp[ncells]at c0
 have hbl:=h.blk.lt
 have hmt : ∀ (k : Nat) (v : Value) (w : World), (method (k + 1) 193 v "arbor/node.plain").run Tryz.prog w = .ok (247, v) w := fun k v w => method_of (NMsg.connect l) k v w
 have HPL:Unit→∀w1,Calls Tryz.prog 247 #[(NMsg.connect l).inner] w1 fun r w'=>r=.returned (mv (NMsg.connect l).plain)∧Keep nil w1 w':=fun _ w1=>plain_of (NMsg.connect l) w1
 have H:Unit→NRep w b n p∧(n.sent.length:Int)<1000000000000:=fun _=>⟨h,hl⟩
 have HSB:Unit→¬inB p.sa b:=fun _=>h.sb
 have HRW:Unit→∀w3,Keep nil w w3→RV w3 197 5 p.sa n.sent.length p.sc (lcells n.sent):=fun _ w3 k3=>h.srow.keep k3 (fun _ _ e=>e)
 have HSND:Unit→n.send j (NMsg.connect l)={ n with sent:=n.sent++[(j,(NMsg.connect l).plain)]}:=fun _=>rfl
 simp only[NMsg.val]
 clear h hl
 obtain⟨mp,hmp⟩:∃mp,mp=(NMsg.connect l).plain:=⟨_,rfl⟩
 rw[←hmp]at HPL HSND
 clear hmp
 simp only[NMsg.inner]at HPL
 generalize hln:n.sent.length=ln at *
 generalize hls:lcells n.sent=ls at *
 obtain⟨mk,ml,mn,mf⟩:=mp
 simp only[mv]at HPL
 go_enter Tryz.func109,Tryz.ntmps109
 go_wp2_with fail
 go_region_law (first
  |(refine step_append_rvS rfl (.tmp 10) (.tmp 15) 185 rfl 197 (.agg #[.int .i64 0,.int .i64 0,.int .i64 0,.int .i64 0,.bool false]) 5 40 Tryz.underlying185 letter_info rfl p.sa ln p.sc (by simp[Act.eval,Act.put]) ls ((HRW () w3 (((Keep.refl nil w).drew).trans hk3)).alloc _) ⟨w3.heap.size,0,none⟩ 1 1 (by omega) rfl [.int .i64 (j:Int),.int .i64 (mk:Int),.int .i64 (ml:Int),.int .i64 (mn:Int),.bool mf] rfl (cells_elist w3 [.int .i64 (j:Int),.int .i64 (mk:Int),.int .i64 (ml:Int),.int .i64 (mn:Int),.bool mf] 197 _ rfl) (by intro u hu;simp at hu;rcases hu with rfl|rfl|rfl|rfl|rfl<;>rfl) (by have:=(H ()).2;omega) (by have:=(H ()).2;omega) ?_;intro a' c' w4 hb4 hd4 hk4;have g0:=((((Keep.refl nil w3).alloc _).mono (fun _ _ e=>e.elim)).trans hk4).cell b 11 (Nat.lt_of_lt_of_le hbl hk3.size) (HSB ());have g1:=((((Keep.refl nil w3).alloc _).mono (fun _ _ e=>e.elim)).trans hk4).frozen b 11 (Nat.lt_of_lt_of_le hbl hk3.size) (HSB ());rw[d0]at g0;rw[d1]at g1)
  |(go_simp;refine(HPL () _).mono ?_;rintro r w3 ⟨rfl,hk3⟩;have d0:=(hk3.cell b 11 hbl (fun e=>e)).trans c0;have d1:=(hk3.frozen b 11 hbl (fun e=>e)).trans f0;have hy3:b<w3.heap.size:=Nat.lt_of_lt_of_le hbl hk3.size))
 all_goals
  have HP:Unit→∃p',NRep (w4.setCell ⟨b,11,none⟩ (.slice a' (ln+1) c')) b (n.send j (NMsg.connect l)) p'∧NStep w (w4.setCell ⟨b,11,none⟩ (.slice a' (ln+1) c')) b p p':=fun _=>by
   rw[HSND ()]
   have k24:Keep (inB p.sa) w w4:=(((((Keep.refl nil w).drew).trans hk3).alloc _).mono (fun _ _ e=>e.elim)).trans hk4
   rw[←hln,←hls]at hb4
   rw[←hln]
   refine⟨_,(H ()).1.sent_one (j,⟨mk,ml,mn,mf⟩) a' c' hb4 (fun g hg=>?_) k24⟩
   rcases hd4 with⟨e,_⟩|⟨e,_⟩
   ·rw[e]at hg;exact Or.inl hg
   ·rw[e]at hg
    have:=inB_some.1 hg
    have hs3:=hk3.size
    simp only[World.size_alloc]at this
    simp only[World.size_drew]at hs3
    exact Or.inr (by omega)
  clear hb4 hd4 hk4 hk3 d0 d1 g0 g1 hy3
  go_wp2
  go_end0
  exact⟨rfl,HP ()⟩
theorem nsend_initiate(b:Nat)(n:Nod)(p:Np)(j:Nat)(l nm:Nat)(f:Bool)(w:World)(h:NRep w b n p)(hl:(n.sent.length:Int)<1000000000000):
 Calls Tryz.prog 109 #[.pointer (some ⟨b,0,none⟩),.int .i64 (j:Int),(NMsg.initiate l nm f).val] w fun r w'=>r=.returned (.tuple #[])∧∃p',NRep w' b (n.send j (NMsg.initiate l nm f)) p'∧NStep w w' b p p':=by
 have c0:=h.blk.cell 11
 have f0:=h.blk.frozen 11
 simp[ncells]at c0
 have hbl:=h.blk.lt
 have hmt : ∀ (k : Nat) (v : Value) (w : World), (method (k + 1) 313 v "arbor/node.plain").run Tryz.prog w = .ok (255, v) w := fun k v w => method_of (NMsg.initiate l nm f) k v w
 have HPL:Unit→∀w1,Calls Tryz.prog 255 #[(NMsg.initiate l nm f).inner] w1 fun r w'=>r=.returned (mv (NMsg.initiate l nm f).plain)∧Keep nil w1 w':=fun _ w1=>plain_of (NMsg.initiate l nm f) w1
 have H:Unit→NRep w b n p∧(n.sent.length:Int)<1000000000000:=fun _=>⟨h,hl⟩
 have HSB:Unit→¬inB p.sa b:=fun _=>h.sb
 have HRW:Unit→∀w3,Keep nil w w3→RV w3 197 5 p.sa n.sent.length p.sc (lcells n.sent):=fun _ w3 k3=>h.srow.keep k3 (fun _ _ e=>e)
 have HSND:Unit→n.send j (NMsg.initiate l nm f)={ n with sent:=n.sent++[(j,(NMsg.initiate l nm f).plain)]}:=fun _=>rfl
 simp only[NMsg.val]
 clear h hl
 obtain⟨mp,hmp⟩:∃mp,mp=(NMsg.initiate l nm f).plain:=⟨_,rfl⟩
 rw[←hmp]at HPL HSND
 clear hmp
 simp only[NMsg.inner]at HPL
 generalize hln:n.sent.length=ln at *
 generalize hls:lcells n.sent=ls at *
 obtain⟨mk,ml,mn,mf⟩:=mp
 simp only[mv]at HPL
 go_enter Tryz.func109,Tryz.ntmps109
 go_wp2_with fail
 go_region_law (first
  |(refine step_append_rvS rfl (.tmp 10) (.tmp 15) 185 rfl 197 (.agg #[.int .i64 0,.int .i64 0,.int .i64 0,.int .i64 0,.bool false]) 5 40 Tryz.underlying185 letter_info rfl p.sa ln p.sc (by simp[Act.eval,Act.put]) ls ((HRW () w3 (((Keep.refl nil w).drew).trans hk3)).alloc _) ⟨w3.heap.size,0,none⟩ 1 1 (by omega) rfl [.int .i64 (j:Int),.int .i64 (mk:Int),.int .i64 (ml:Int),.int .i64 (mn:Int),.bool mf] rfl (cells_elist w3 [.int .i64 (j:Int),.int .i64 (mk:Int),.int .i64 (ml:Int),.int .i64 (mn:Int),.bool mf] 197 _ rfl) (by intro u hu;simp at hu;rcases hu with rfl|rfl|rfl|rfl|rfl<;>rfl) (by have:=(H ()).2;omega) (by have:=(H ()).2;omega) ?_;intro a' c' w4 hb4 hd4 hk4;have g0:=((((Keep.refl nil w3).alloc _).mono (fun _ _ e=>e.elim)).trans hk4).cell b 11 (Nat.lt_of_lt_of_le hbl hk3.size) (HSB ());have g1:=((((Keep.refl nil w3).alloc _).mono (fun _ _ e=>e.elim)).trans hk4).frozen b 11 (Nat.lt_of_lt_of_le hbl hk3.size) (HSB ());rw[d0]at g0;rw[d1]at g1)
  |(go_simp;refine(HPL () _).mono ?_;rintro r w3 ⟨rfl,hk3⟩;have d0:=(hk3.cell b 11 hbl (fun e=>e)).trans c0;have d1:=(hk3.frozen b 11 hbl (fun e=>e)).trans f0;have hy3:b<w3.heap.size:=Nat.lt_of_lt_of_le hbl hk3.size))
 all_goals
  have HP:Unit→∃p',NRep (w4.setCell ⟨b,11,none⟩ (.slice a' (ln+1) c')) b (n.send j (NMsg.initiate l nm f)) p'∧NStep w (w4.setCell ⟨b,11,none⟩ (.slice a' (ln+1) c')) b p p':=fun _=>by
   rw[HSND ()]
   have k24:Keep (inB p.sa) w w4:=(((((Keep.refl nil w).drew).trans hk3).alloc _).mono (fun _ _ e=>e.elim)).trans hk4
   rw[←hln,←hls]at hb4
   rw[←hln]
   refine⟨_,(H ()).1.sent_one (j,⟨mk,ml,mn,mf⟩) a' c' hb4 (fun g hg=>?_) k24⟩
   rcases hd4 with⟨e,_⟩|⟨e,_⟩
   ·rw[e]at hg;exact Or.inl hg
   ·rw[e]at hg
    have:=inB_some.1 hg
    have hs3:=hk3.size
    simp only[World.size_alloc]at this
    simp only[World.size_drew]at hs3
    exact Or.inr (by omega)
  clear hb4 hd4 hk4 hk3 d0 d1 g0 g1 hy3
  go_wp2
  go_end0
  exact⟨rfl,HP ()⟩
theorem nsend_test(b:Nat)(n:Nod)(p:Np)(j:Nat)(l nm:Nat)(w:World)(h:NRep w b n p)(hl:(n.sent.length:Int)<1000000000000):
 Calls Tryz.prog 109 #[.pointer (some ⟨b,0,none⟩),.int .i64 (j:Int),(NMsg.test l nm).val] w fun r w'=>r=.returned (.tuple #[])∧∃p',NRep w' b (n.send j (NMsg.test l nm)) p'∧NStep w w' b p p':=by
 have c0:=h.blk.cell 11
 have f0:=h.blk.frozen 11
 simp[ncells]at c0
 have hbl:=h.blk.lt
 have hmt : ∀ (k : Nat) (v : Value) (w : World), (method (k + 1) 315 v "arbor/node.plain").run Tryz.prog w = .ok (256, v) w := fun k v w => method_of (NMsg.test l nm) k v w
 have HPL:Unit→∀w1,Calls Tryz.prog 256 #[(NMsg.test l nm).inner] w1 fun r w'=>r=.returned (mv (NMsg.test l nm).plain)∧Keep nil w1 w':=fun _ w1=>plain_of (NMsg.test l nm) w1
 have H:Unit→NRep w b n p∧(n.sent.length:Int)<1000000000000:=fun _=>⟨h,hl⟩
 have HSB:Unit→¬inB p.sa b:=fun _=>h.sb
 have HRW:Unit→∀w3,Keep nil w w3→RV w3 197 5 p.sa n.sent.length p.sc (lcells n.sent):=fun _ w3 k3=>h.srow.keep k3 (fun _ _ e=>e)
 have HSND:Unit→n.send j (NMsg.test l nm)={ n with sent:=n.sent++[(j,(NMsg.test l nm).plain)]}:=fun _=>rfl
 simp only[NMsg.val]
 clear h hl
 obtain⟨mp,hmp⟩:∃mp,mp=(NMsg.test l nm).plain:=⟨_,rfl⟩
 rw[←hmp]at HPL HSND
 clear hmp
 simp only[NMsg.inner]at HPL
 generalize hln:n.sent.length=ln at *
 generalize hls:lcells n.sent=ls at *
 obtain⟨mk,ml,mn,mf⟩:=mp
 simp only[mv]at HPL
 go_enter Tryz.func109,Tryz.ntmps109
 go_wp2_with fail
 go_region_law (first
  |(refine step_append_rvS rfl (.tmp 10) (.tmp 15) 185 rfl 197 (.agg #[.int .i64 0,.int .i64 0,.int .i64 0,.int .i64 0,.bool false]) 5 40 Tryz.underlying185 letter_info rfl p.sa ln p.sc (by simp[Act.eval,Act.put]) ls ((HRW () w3 (((Keep.refl nil w).drew).trans hk3)).alloc _) ⟨w3.heap.size,0,none⟩ 1 1 (by omega) rfl [.int .i64 (j:Int),.int .i64 (mk:Int),.int .i64 (ml:Int),.int .i64 (mn:Int),.bool mf] rfl (cells_elist w3 [.int .i64 (j:Int),.int .i64 (mk:Int),.int .i64 (ml:Int),.int .i64 (mn:Int),.bool mf] 197 _ rfl) (by intro u hu;simp at hu;rcases hu with rfl|rfl|rfl|rfl|rfl<;>rfl) (by have:=(H ()).2;omega) (by have:=(H ()).2;omega) ?_;intro a' c' w4 hb4 hd4 hk4;have g0:=((((Keep.refl nil w3).alloc _).mono (fun _ _ e=>e.elim)).trans hk4).cell b 11 (Nat.lt_of_lt_of_le hbl hk3.size) (HSB ());have g1:=((((Keep.refl nil w3).alloc _).mono (fun _ _ e=>e.elim)).trans hk4).frozen b 11 (Nat.lt_of_lt_of_le hbl hk3.size) (HSB ());rw[d0]at g0;rw[d1]at g1)
  |(go_simp;refine(HPL () _).mono ?_;rintro r w3 ⟨rfl,hk3⟩;have d0:=(hk3.cell b 11 hbl (fun e=>e)).trans c0;have d1:=(hk3.frozen b 11 hbl (fun e=>e)).trans f0;have hy3:b<w3.heap.size:=Nat.lt_of_lt_of_le hbl hk3.size))
 all_goals
  have HP:Unit→∃p',NRep (w4.setCell ⟨b,11,none⟩ (.slice a' (ln+1) c')) b (n.send j (NMsg.test l nm)) p'∧NStep w (w4.setCell ⟨b,11,none⟩ (.slice a' (ln+1) c')) b p p':=fun _=>by
   rw[HSND ()]
   have k24:Keep (inB p.sa) w w4:=(((((Keep.refl nil w).drew).trans hk3).alloc _).mono (fun _ _ e=>e.elim)).trans hk4
   rw[←hln,←hls]at hb4
   rw[←hln]
   refine⟨_,(H ()).1.sent_one (j,⟨mk,ml,mn,mf⟩) a' c' hb4 (fun g hg=>?_) k24⟩
   rcases hd4 with⟨e,_⟩|⟨e,_⟩
   ·rw[e]at hg;exact Or.inl hg
   ·rw[e]at hg
    have:=inB_some.1 hg
    have hs3:=hk3.size
    simp only[World.size_alloc]at this
    simp only[World.size_drew]at hs3
    exact Or.inr (by omega)
  clear hb4 hd4 hk4 hk3 d0 d1 g0 g1 hy3
  go_wp2
  go_end0
  exact⟨rfl,HP ()⟩
theorem nsend_accept(b:Nat)(n:Nod)(p:Np)(j:Nat) (w:World)(h:NRep w b n p)(hl:(n.sent.length:Int)<1000000000000):
 Calls Tryz.prog 109 #[.pointer (some ⟨b,0,none⟩),.int .i64 (j:Int),NMsg.accept.val] w fun r w'=>r=.returned (.tuple #[])∧∃p',NRep w' b (n.send j NMsg.accept) p'∧NStep w w' b p p':=by
 have c0:=h.blk.cell 11
 have f0:=h.blk.frozen 11
 simp[ncells]at c0
 have hbl:=h.blk.lt
 have hmt : ∀ (k : Nat) (v : Value) (w : World), (method (k + 1) 316 v "arbor/node.plain").run Tryz.prog w = .ok (257, v) w := fun k v w => method_of NMsg.accept k v w
 have HPL:Unit→∀w1,Calls Tryz.prog 257 #[NMsg.accept.inner] w1 fun r w'=>r=.returned (mv NMsg.accept.plain)∧Keep nil w1 w':=fun _ w1=>plain_of NMsg.accept w1
 have H:Unit→NRep w b n p∧(n.sent.length:Int)<1000000000000:=fun _=>⟨h,hl⟩
 have HSB:Unit→¬inB p.sa b:=fun _=>h.sb
 have HRW:Unit→∀w3,Keep nil w w3→RV w3 197 5 p.sa n.sent.length p.sc (lcells n.sent):=fun _ w3 k3=>h.srow.keep k3 (fun _ _ e=>e)
 have HSND:Unit→n.send j NMsg.accept={ n with sent:=n.sent++[(j,NMsg.accept.plain)]}:=fun _=>rfl
 simp only[NMsg.val]
 clear h hl
 obtain⟨mp,hmp⟩:∃mp,mp=NMsg.accept.plain:=⟨_,rfl⟩
 rw[←hmp]at HPL HSND
 clear hmp
 simp only[NMsg.inner]at HPL
 generalize hln:n.sent.length=ln at *
 generalize hls:lcells n.sent=ls at *
 obtain⟨mk,ml,mn,mf⟩:=mp
 simp only[mv]at HPL
 go_enter Tryz.func109,Tryz.ntmps109
 go_wp2_with fail
 go_region_law (first
  |(refine step_append_rvS rfl (.tmp 10) (.tmp 15) 185 rfl 197 (.agg #[.int .i64 0,.int .i64 0,.int .i64 0,.int .i64 0,.bool false]) 5 40 Tryz.underlying185 letter_info rfl p.sa ln p.sc (by simp[Act.eval,Act.put]) ls ((HRW () w3 (((Keep.refl nil w).drew).trans hk3)).alloc _) ⟨w3.heap.size,0,none⟩ 1 1 (by omega) rfl [.int .i64 (j:Int),.int .i64 (mk:Int),.int .i64 (ml:Int),.int .i64 (mn:Int),.bool mf] rfl (cells_elist w3 [.int .i64 (j:Int),.int .i64 (mk:Int),.int .i64 (ml:Int),.int .i64 (mn:Int),.bool mf] 197 _ rfl) (by intro u hu;simp at hu;rcases hu with rfl|rfl|rfl|rfl|rfl<;>rfl) (by have:=(H ()).2;omega) (by have:=(H ()).2;omega) ?_;intro a' c' w4 hb4 hd4 hk4;have g0:=((((Keep.refl nil w3).alloc _).mono (fun _ _ e=>e.elim)).trans hk4).cell b 11 (Nat.lt_of_lt_of_le hbl hk3.size) (HSB ());have g1:=((((Keep.refl nil w3).alloc _).mono (fun _ _ e=>e.elim)).trans hk4).frozen b 11 (Nat.lt_of_lt_of_le hbl hk3.size) (HSB ());rw[d0]at g0;rw[d1]at g1)
  |(go_simp;refine(HPL () _).mono ?_;rintro r w3 ⟨rfl,hk3⟩;have d0:=(hk3.cell b 11 hbl (fun e=>e)).trans c0;have d1:=(hk3.frozen b 11 hbl (fun e=>e)).trans f0;have hy3:b<w3.heap.size:=Nat.lt_of_lt_of_le hbl hk3.size))
 all_goals
  have HP:Unit→∃p',NRep (w4.setCell ⟨b,11,none⟩ (.slice a' (ln+1) c')) b (n.send j NMsg.accept) p'∧NStep w (w4.setCell ⟨b,11,none⟩ (.slice a' (ln+1) c')) b p p':=fun _=>by
   rw[HSND ()]
   have k24:Keep (inB p.sa) w w4:=(((((Keep.refl nil w).drew).trans hk3).alloc _).mono (fun _ _ e=>e.elim)).trans hk4
   rw[←hln,←hls]at hb4
   rw[←hln]
   refine⟨_,(H ()).1.sent_one (j,⟨mk,ml,mn,mf⟩) a' c' hb4 (fun g hg=>?_) k24⟩
   rcases hd4 with⟨e,_⟩|⟨e,_⟩
   ·rw[e]at hg;exact Or.inl hg
   ·rw[e]at hg
    have:=inB_some.1 hg
    have hs3:=hk3.size
    simp only[World.size_alloc]at this
    simp only[World.size_drew]at hs3
    exact Or.inr (by omega)
  clear hb4 hd4 hk4 hk3 d0 d1 g0 g1 hy3
  go_wp2
  go_end0
  exact⟨rfl,HP ()⟩
theorem nsend_reject(b:Nat)(n:Nod)(p:Np)(j:Nat) (w:World)(h:NRep w b n p)(hl:(n.sent.length:Int)<1000000000000):
 Calls Tryz.prog 109 #[.pointer (some ⟨b,0,none⟩),.int .i64 (j:Int),NMsg.reject.val] w fun r w'=>r=.returned (.tuple #[])∧∃p',NRep w' b (n.send j NMsg.reject) p'∧NStep w w' b p p':=by
 have c0:=h.blk.cell 11
 have f0:=h.blk.frozen 11
 simp[ncells]at c0
 have hbl:=h.blk.lt
 have hmt : ∀ (k : Nat) (v : Value) (w : World), (method (k + 1) 317 v "arbor/node.plain").run Tryz.prog w = .ok (258, v) w := fun k v w => method_of NMsg.reject k v w
 have HPL:Unit→∀w1,Calls Tryz.prog 258 #[NMsg.reject.inner] w1 fun r w'=>r=.returned (mv NMsg.reject.plain)∧Keep nil w1 w':=fun _ w1=>plain_of NMsg.reject w1
 have H:Unit→NRep w b n p∧(n.sent.length:Int)<1000000000000:=fun _=>⟨h,hl⟩
 have HSB:Unit→¬inB p.sa b:=fun _=>h.sb
 have HRW:Unit→∀w3,Keep nil w w3→RV w3 197 5 p.sa n.sent.length p.sc (lcells n.sent):=fun _ w3 k3=>h.srow.keep k3 (fun _ _ e=>e)
 have HSND:Unit→n.send j NMsg.reject={ n with sent:=n.sent++[(j,NMsg.reject.plain)]}:=fun _=>rfl
 simp only[NMsg.val]
 clear h hl
 obtain⟨mp,hmp⟩:∃mp,mp=NMsg.reject.plain:=⟨_,rfl⟩
 rw[←hmp]at HPL HSND
 clear hmp
 simp only[NMsg.inner]at HPL
 generalize hln:n.sent.length=ln at *
 generalize hls:lcells n.sent=ls at *
 obtain⟨mk,ml,mn,mf⟩:=mp
 simp only[mv]at HPL
 go_enter Tryz.func109,Tryz.ntmps109
 go_wp2_with fail
 go_region_law (first
  |(refine step_append_rvS rfl (.tmp 10) (.tmp 15) 185 rfl 197 (.agg #[.int .i64 0,.int .i64 0,.int .i64 0,.int .i64 0,.bool false]) 5 40 Tryz.underlying185 letter_info rfl p.sa ln p.sc (by simp[Act.eval,Act.put]) ls ((HRW () w3 (((Keep.refl nil w).drew).trans hk3)).alloc _) ⟨w3.heap.size,0,none⟩ 1 1 (by omega) rfl [.int .i64 (j:Int),.int .i64 (mk:Int),.int .i64 (ml:Int),.int .i64 (mn:Int),.bool mf] rfl (cells_elist w3 [.int .i64 (j:Int),.int .i64 (mk:Int),.int .i64 (ml:Int),.int .i64 (mn:Int),.bool mf] 197 _ rfl) (by intro u hu;simp at hu;rcases hu with rfl|rfl|rfl|rfl|rfl<;>rfl) (by have:=(H ()).2;omega) (by have:=(H ()).2;omega) ?_;intro a' c' w4 hb4 hd4 hk4;have g0:=((((Keep.refl nil w3).alloc _).mono (fun _ _ e=>e.elim)).trans hk4).cell b 11 (Nat.lt_of_lt_of_le hbl hk3.size) (HSB ());have g1:=((((Keep.refl nil w3).alloc _).mono (fun _ _ e=>e.elim)).trans hk4).frozen b 11 (Nat.lt_of_lt_of_le hbl hk3.size) (HSB ());rw[d0]at g0;rw[d1]at g1)
  |(go_simp;refine(HPL () _).mono ?_;rintro r w3 ⟨rfl,hk3⟩;have d0:=(hk3.cell b 11 hbl (fun e=>e)).trans c0;have d1:=(hk3.frozen b 11 hbl (fun e=>e)).trans f0;have hy3:b<w3.heap.size:=Nat.lt_of_lt_of_le hbl hk3.size))
 all_goals
  have HP:Unit→∃p',NRep (w4.setCell ⟨b,11,none⟩ (.slice a' (ln+1) c')) b (n.send j NMsg.reject) p'∧NStep w (w4.setCell ⟨b,11,none⟩ (.slice a' (ln+1) c')) b p p':=fun _=>by
   rw[HSND ()]
   have k24:Keep (inB p.sa) w w4:=(((((Keep.refl nil w).drew).trans hk3).alloc _).mono (fun _ _ e=>e.elim)).trans hk4
   rw[←hln,←hls]at hb4
   rw[←hln]
   refine⟨_,(H ()).1.sent_one (j,⟨mk,ml,mn,mf⟩) a' c' hb4 (fun g hg=>?_) k24⟩
   rcases hd4 with⟨e,_⟩|⟨e,_⟩
   ·rw[e]at hg;exact Or.inl hg
   ·rw[e]at hg
    have:=inB_some.1 hg
    have hs3:=hk3.size
    simp only[World.size_alloc]at this
    simp only[World.size_drew]at hs3
    exact Or.inr (by omega)
  clear hb4 hd4 hk4 hk3 d0 d1 g0 g1 hy3
  go_wp2
  go_end0
  exact⟨rfl,HP ()⟩
theorem nsend_report(b:Nat)(n:Nod)(p:Np)(j:Nat)(x:Nat)(w:World)(h:NRep w b n p)(hl:(n.sent.length:Int)<1000000000000):
 Calls Tryz.prog 109 #[.pointer (some ⟨b,0,none⟩),.int .i64 (j:Int),(NMsg.report x).val] w fun r w'=>r=.returned (.tuple #[])∧∃p',NRep w' b (n.send j (NMsg.report x)) p'∧NStep w w' b p p':=by
 have c0:=h.blk.cell 11
 have f0:=h.blk.frozen 11
 simp[ncells]at c0
 have hbl:=h.blk.lt
 have hmt : ∀ (k : Nat) (v : Value) (w : World), (method (k + 1) 319 v "arbor/node.plain").run Tryz.prog w = .ok (259, v) w := fun k v w => method_of (NMsg.report x) k v w
 have HPL:Unit→∀w1,Calls Tryz.prog 259 #[(NMsg.report x).inner] w1 fun r w'=>r=.returned (mv (NMsg.report x).plain)∧Keep nil w1 w':=fun _ w1=>plain_of (NMsg.report x) w1
 have H:Unit→NRep w b n p∧(n.sent.length:Int)<1000000000000:=fun _=>⟨h,hl⟩
 have HSB:Unit→¬inB p.sa b:=fun _=>h.sb
 have HRW:Unit→∀w3,Keep nil w w3→RV w3 197 5 p.sa n.sent.length p.sc (lcells n.sent):=fun _ w3 k3=>h.srow.keep k3 (fun _ _ e=>e)
 have HSND:Unit→n.send j (NMsg.report x)={ n with sent:=n.sent++[(j,(NMsg.report x).plain)]}:=fun _=>rfl
 simp only[NMsg.val]
 clear h hl
 obtain⟨mp,hmp⟩:∃mp,mp=(NMsg.report x).plain:=⟨_,rfl⟩
 rw[←hmp]at HPL HSND
 clear hmp
 simp only[NMsg.inner]at HPL
 generalize hln:n.sent.length=ln at *
 generalize hls:lcells n.sent=ls at *
 obtain⟨mk,ml,mn,mf⟩:=mp
 simp only[mv]at HPL
 go_enter Tryz.func109,Tryz.ntmps109
 go_wp2_with fail
 go_region_law (first
  |(refine step_append_rvS rfl (.tmp 10) (.tmp 15) 185 rfl 197 (.agg #[.int .i64 0,.int .i64 0,.int .i64 0,.int .i64 0,.bool false]) 5 40 Tryz.underlying185 letter_info rfl p.sa ln p.sc (by simp[Act.eval,Act.put]) ls ((HRW () w3 (((Keep.refl nil w).drew).trans hk3)).alloc _) ⟨w3.heap.size,0,none⟩ 1 1 (by omega) rfl [.int .i64 (j:Int),.int .i64 (mk:Int),.int .i64 (ml:Int),.int .i64 (mn:Int),.bool mf] rfl (cells_elist w3 [.int .i64 (j:Int),.int .i64 (mk:Int),.int .i64 (ml:Int),.int .i64 (mn:Int),.bool mf] 197 _ rfl) (by intro u hu;simp at hu;rcases hu with rfl|rfl|rfl|rfl|rfl<;>rfl) (by have:=(H ()).2;omega) (by have:=(H ()).2;omega) ?_;intro a' c' w4 hb4 hd4 hk4;have g0:=((((Keep.refl nil w3).alloc _).mono (fun _ _ e=>e.elim)).trans hk4).cell b 11 (Nat.lt_of_lt_of_le hbl hk3.size) (HSB ());have g1:=((((Keep.refl nil w3).alloc _).mono (fun _ _ e=>e.elim)).trans hk4).frozen b 11 (Nat.lt_of_lt_of_le hbl hk3.size) (HSB ());rw[d0]at g0;rw[d1]at g1)
  |(go_simp;refine(HPL () _).mono ?_;rintro r w3 ⟨rfl,hk3⟩;have d0:=(hk3.cell b 11 hbl (fun e=>e)).trans c0;have d1:=(hk3.frozen b 11 hbl (fun e=>e)).trans f0;have hy3:b<w3.heap.size:=Nat.lt_of_lt_of_le hbl hk3.size))
 all_goals
  have HP:Unit→∃p',NRep (w4.setCell ⟨b,11,none⟩ (.slice a' (ln+1) c')) b (n.send j (NMsg.report x)) p'∧NStep w (w4.setCell ⟨b,11,none⟩ (.slice a' (ln+1) c')) b p p':=fun _=>by
   rw[HSND ()]
   have k24:Keep (inB p.sa) w w4:=(((((Keep.refl nil w).drew).trans hk3).alloc _).mono (fun _ _ e=>e.elim)).trans hk4
   rw[←hln,←hls]at hb4
   rw[←hln]
   refine⟨_,(H ()).1.sent_one (j,⟨mk,ml,mn,mf⟩) a' c' hb4 (fun g hg=>?_) k24⟩
   rcases hd4 with⟨e,_⟩|⟨e,_⟩
   ·rw[e]at hg;exact Or.inl hg
   ·rw[e]at hg
    have:=inB_some.1 hg
    have hs3:=hk3.size
    simp only[World.size_alloc]at this
    simp only[World.size_drew]at hs3
    exact Or.inr (by omega)
  clear hb4 hd4 hk4 hk3 d0 d1 g0 g1 hy3
  go_wp2
  go_end0
  exact⟨rfl,HP ()⟩
theorem nsend_root(b:Nat)(n:Nod)(p:Np)(j:Nat) (w:World)(h:NRep w b n p)(hl:(n.sent.length:Int)<1000000000000):
 Calls Tryz.prog 109 #[.pointer (some ⟨b,0,none⟩),.int .i64 (j:Int),NMsg.root.val] w fun r w'=>r=.returned (.tuple #[])∧∃p',NRep w' b (n.send j NMsg.root) p'∧NStep w w' b p p':=by
 have c0:=h.blk.cell 11
 have f0:=h.blk.frozen 11
 simp[ncells]at c0
 have hbl:=h.blk.lt
 have hmt : ∀ (k : Nat) (v : Value) (w : World), (method (k + 1) 321 v "arbor/node.plain").run Tryz.prog w = .ok (260, v) w := fun k v w => method_of NMsg.root k v w
 have HPL:Unit→∀w1,Calls Tryz.prog 260 #[NMsg.root.inner] w1 fun r w'=>r=.returned (mv NMsg.root.plain)∧Keep nil w1 w':=fun _ w1=>plain_of NMsg.root w1
 have H:Unit→NRep w b n p∧(n.sent.length:Int)<1000000000000:=fun _=>⟨h,hl⟩
 have HSB:Unit→¬inB p.sa b:=fun _=>h.sb
 have HRW:Unit→∀w3,Keep nil w w3→RV w3 197 5 p.sa n.sent.length p.sc (lcells n.sent):=fun _ w3 k3=>h.srow.keep k3 (fun _ _ e=>e)
 have HSND:Unit→n.send j NMsg.root={ n with sent:=n.sent++[(j,NMsg.root.plain)]}:=fun _=>rfl
 simp only[NMsg.val]
 clear h hl
 obtain⟨mp,hmp⟩:∃mp,mp=NMsg.root.plain:=⟨_,rfl⟩
 rw[←hmp]at HPL HSND
 clear hmp
 simp only[NMsg.inner]at HPL
 generalize hln:n.sent.length=ln at *
 generalize hls:lcells n.sent=ls at *
 obtain⟨mk,ml,mn,mf⟩:=mp
 simp only[mv]at HPL
 go_enter Tryz.func109,Tryz.ntmps109
 go_wp2_with fail
 go_region_law (first
  |(refine step_append_rvS rfl (.tmp 10) (.tmp 15) 185 rfl 197 (.agg #[.int .i64 0,.int .i64 0,.int .i64 0,.int .i64 0,.bool false]) 5 40 Tryz.underlying185 letter_info rfl p.sa ln p.sc (by simp[Act.eval,Act.put]) ls ((HRW () w3 (((Keep.refl nil w).drew).trans hk3)).alloc _) ⟨w3.heap.size,0,none⟩ 1 1 (by omega) rfl [.int .i64 (j:Int),.int .i64 (mk:Int),.int .i64 (ml:Int),.int .i64 (mn:Int),.bool mf] rfl (cells_elist w3 [.int .i64 (j:Int),.int .i64 (mk:Int),.int .i64 (ml:Int),.int .i64 (mn:Int),.bool mf] 197 _ rfl) (by intro u hu;simp at hu;rcases hu with rfl|rfl|rfl|rfl|rfl<;>rfl) (by have:=(H ()).2;omega) (by have:=(H ()).2;omega) ?_;intro a' c' w4 hb4 hd4 hk4;have g0:=((((Keep.refl nil w3).alloc _).mono (fun _ _ e=>e.elim)).trans hk4).cell b 11 (Nat.lt_of_lt_of_le hbl hk3.size) (HSB ());have g1:=((((Keep.refl nil w3).alloc _).mono (fun _ _ e=>e.elim)).trans hk4).frozen b 11 (Nat.lt_of_lt_of_le hbl hk3.size) (HSB ());rw[d0]at g0;rw[d1]at g1)
  |(go_simp;refine(HPL () _).mono ?_;rintro r w3 ⟨rfl,hk3⟩;have d0:=(hk3.cell b 11 hbl (fun e=>e)).trans c0;have d1:=(hk3.frozen b 11 hbl (fun e=>e)).trans f0;have hy3:b<w3.heap.size:=Nat.lt_of_lt_of_le hbl hk3.size))
 all_goals
  have HP:Unit→∃p',NRep (w4.setCell ⟨b,11,none⟩ (.slice a' (ln+1) c')) b (n.send j NMsg.root) p'∧NStep w (w4.setCell ⟨b,11,none⟩ (.slice a' (ln+1) c')) b p p':=fun _=>by
   rw[HSND ()]
   have k24:Keep (inB p.sa) w w4:=(((((Keep.refl nil w).drew).trans hk3).alloc _).mono (fun _ _ e=>e.elim)).trans hk4
   rw[←hln,←hls]at hb4
   rw[←hln]
   refine⟨_,(H ()).1.sent_one (j,⟨mk,ml,mn,mf⟩) a' c' hb4 (fun g hg=>?_) k24⟩
   rcases hd4 with⟨e,_⟩|⟨e,_⟩
   ·rw[e]at hg;exact Or.inl hg
   ·rw[e]at hg
    have:=inB_some.1 hg
    have hs3:=hk3.size
    simp only[World.size_alloc]at this
    simp only[World.size_drew]at hs3
    exact Or.inr (by omega)
  clear hb4 hd4 hk4 hk3 d0 d1 g0 g1 hy3
  go_wp2
  go_end0
  exact⟨rfl,HP ()⟩
theorem nsend_any(b:Nat)(n:Nod)(p:Np)(j:Nat)(m:NMsg)(w:World)(h:NRep w b n p)(hl:(n.sent.length:Int)<1000000000000):
 Calls Tryz.prog 109 #[.pointer (some ⟨b,0,none⟩),.int .i64 (j:Int),m.val] w fun r w'=>r=.returned (.tuple #[])∧∃p',NRep w' b (n.send j m) p'∧NStep w w' b p p':=by
 cases m with
 |connect l=>exact nsend_connect b n p j l w h hl
 |initiate l nm f=>exact nsend_initiate b n p j l nm f w h hl
 |test l nm=>exact nsend_test b n p j l nm w h hl
 |accept=>exact nsend_accept b n p j w h hl
 |reject=>exact nsend_reject b n p j w h hl
 |report x=>exact nsend_report b n p j x w h hl
 |root=>exact nsend_root b n p j w h hl
theorem isBranch_any(b:Nat)(n:Nod)(p:Np)(j:Nat)(e:Nat×Nat)(w:World)(h:NRep w b n p)(he:n.edges[j]?=some e)(hl:(n.edges.length:Int)<1000000000000):
 Calls Tryz.prog 119 #[.pointer (some ⟨b,0,none⟩),.int .i64 (j:Int)] w fun r w'=>r=.returned (.bool (decide (e.2=1)))∧Keep nil w w':=by
 have c3:=h.blk.cell 3
 simp[ncells]at c3
 obtain⟨g,o,hga,hgl,e0,e1,_⟩:=h.edge_at j e he
 rw[hga]at c3
 have hbl:=h.blk.lt
 have hjI:(j:Int)<(n.edges.length:Int):=by have:=(List.getElem?_eq_some_iff.1 he).1;omega
 clear h he hl
 generalize n.edges.length=nl at *
 obtain⟨ew,es⟩:=e
 simp only at e0 e1
 go_enter Tryz.func119,Tryz.ntmps119
 go_wp2
 go_ret
 refine⟨?_,Keep.refl _ _⟩
 by_cases hs:es=1
 ·subst hs;rfl
 ·have:((es:Int)==1)=false:=by rw[beq_eq_false_iff_ne];omega
  simp[this,hs]
end Go.Proofs.YtlfijfodklhplaaGreat
