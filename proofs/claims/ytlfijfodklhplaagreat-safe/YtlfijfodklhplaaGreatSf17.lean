import Derived.Test.YtlfijfodklhplaaGreatSf16
set_option linter.unusedVariables false
set_option linter.unusedSimpArgs false
namespace Go.Proofs.YtlfijfodklhplaaGreat
open Go.RowKit
def icells (l:List Nat):List Value:=l.map (fun (x:Nat)=>Value.int .i64 (x:Int))
theorem icells_get (l:List Nat) (k x:Nat) (h:l[k]?=some x):(icells l)[k]?=some (Value.int .i64 (x:Int)):=by
  simp [icells,h]
theorem nedge_info:(Tryz.prog.info? 190).map (fun i=>(i.zero,i.size,i.bytes))=some (some (.agg #[.int .i64 0,.int .i64 0]),2,16):=by kernel_rfl
theorem necells_append (l m:List (Nat × Nat)):necells (l++m)=necells l++necells m:=by simp [necells]
theorem NRep.edge_one {w w1:World} {b:Nat} {ws:List Nat} {p:Np} (h:NRep w b (Nod.new ws) p) (x:Nat) (a':Option Addr) (c':Nat) (hrow:RV w1 190 2 a' (ws.length + 1) c' (necells (Nod.new ws).edges++necell (x,0))) (hd:∀ g,inB a' g→inB p.ea g∨w.heap.size≤g) (hk:Keep (inB p.ea) w w1) :
    NRep (w1.setCell ⟨b,3,none⟩ (.slice a' (ws.length + 1) c')) b (Nod.new (ws++[x])) { p with ea:=a',ec:=c' }∧NMove w (w1.setCell ⟨b,3,none⟩ (.slice a' (ws.length + 1) c')) b p { p with ea:=a',ec:=c' }:=by
  have hbl:=h.blk.lt
  have ks:Keep (only b) w1 (w1.setCell ⟨b,3,none⟩ (.slice a' (ws.length + 1) c')):=(Keep.refl (only b) w1).setCell (p:=⟨b,3,none⟩) (fun _=>rfl) _
  have old:∀ g,g < w.heap.size→¬ inB p.ea g→¬ inB a' g:=fun g hg hn e=>by
    rcases hd g e with e | e
    · exact hn e
    · omega
  have hb1:=(h.blk.keep hk (fun e=>h.eb e)).set 3 (.slice a' (ws.length + 1) c')
  have hed:(Nod.new (ws++[x])).edges=(Nod.new ws).edges++[(x,0)]:=by simp [Nod.new]
  have hlen:(Nod.new (ws++[x])).edges.length=ws.length + 1:=by simp [Nod.new]
  refine ⟨⟨?_,?_,?_,?_,old b hbl h.eb,h.fb,h.sb,fun k hke hkf=>old k (h.frow.lt k hkf) (fun e=>h.ef k e hkf) hke,fun k hke hks=>old k (h.srow.lt k hks) (fun e=>h.es k e hks) hke,h.fs⟩,⟨fun k hk=>?_,?_⟩⟩
  · have:(ncells (Nod.new ws) p).setIfInBounds 3 (.slice a' (ws.length + 1) c')=ncells (Nod.new (ws++[x])) { p with ea:=a',ec:=c' }:=by simp [ncells,Nod.new]
    rw [this] at hb1; exact hb1
  · rw [hlen,hed,necells_append]
    have:necells [(x,0)]=necell (x,0):=by simp [necells]
    rw [this]
    exact hrow.keep ks (fun g hg e=>by rw [show g=b from e] at hg; exact old b hbl h.eb hg)
  · exact (h.frow.keep hk (fun g hg e=>h.ef g e hg)).keep ks (fun g hg e=>by rw [show g=b from e] at hg; exact h.fb hg)
  · exact (h.srow.keep hk (fun g hg e=>h.es g e hg)).keep ks (fun g hg e=>by rw [show g=b from e] at hg; exact h.sb hg)
  · rcases hk with hk | hk | hk | hk
    · exact Or.inl (Or.inl hk)
    · exact (hd k hk).imp (fun e=>Or.inr (Or.inl e)) id
    · exact Or.inl (Or.inr (Or.inr (Or.inl hk)))
    · exact Or.inl (Or.inr (Or.inr (Or.inr hk)))
  · exact (hk.mono (fun _ _ e=>Or.inr (Or.inl e))).trans (ks.mono (fun _ _ e=>Or.inl e))
set_option maxRecDepth 100000 in
set_option maxHeartbeats 2000000 in
theorem nodeNew_any (ws:List Nat) (wa:Option Addr) (wc:Nat) (w:World) (h:RV w 3 1 wa ws.length wc (icells ws)) (hl:(ws.length:Int) < 1000) :
    Calls Tryz.prog 107 #[.slice wa ws.length wc] w fun r w'=>∃ b p',r=.returned (.pointer (some ⟨b,0,none⟩))∧NRep w' b (Nod.new ws) p'∧Keep nil w w'∧∀ i,NMine b p' i→w.heap.size≤i:=by
  have H:Unit→RV w 3 1 wa ws.length wc (icells ws)∧(ws.length:Int) < 1000:=fun _=>⟨h,hl⟩
  clear h hl
  go_enter Tryz.func107,Tryz.ntmps107
  go_wp2_with fail
  obtain ⟨W1,hW1⟩:∃ W1,W1=w.alloc (.cells #[.int .i64 0,.int .i64 0,.int .i64 0,.slice none 0 0,.int .i64 (-1),.int .i64 (-1),.int .i64 1001,.int .i64 (-1),.int .i64 0,.bool false,.slice none 0 0,.slice none 0 0] 187):=⟨_,rfl⟩
  obtain ⟨b,hb⟩:∃ b,b=w.heap.size:=⟨_,rfl⟩
  rw [← hW1,← hb]
  have H1:Unit→NRep W1 b (Nod.new []) ⟨none,0,none,0,none,0⟩∧Keep nil w W1∧∀ i,NMine b ⟨none,0,none,0,none,0⟩ i→w.heap.size≤i:=fun _=>by
    have hbk:Blk W1 b (ncells (Nod.new []) ⟨none,0,none,0,none,0⟩) 187:=by rw [hW1,hb]; exact Blk.new _ _ _
    have hnn:∀ i,¬ inB none i:=fun i e=>by obtain ⟨_,e⟩:=e; cases e
    refine ⟨⟨hbk,⟨rfl,Nat.le_refl _,Or.inl ⟨rfl,rfl,rfl⟩⟩,⟨rfl,Nat.le_refl _,Or.inl ⟨rfl,rfl,rfl⟩⟩,⟨rfl,Nat.le_refl _,Or.inl ⟨rfl,rfl,rfl⟩⟩,hnn _,hnn _,hnn _,fun k e=>(hnn k e).elim,fun k e=>(hnn k e).elim,fun k e=>(hnn k e).elim⟩,by rw [hW1]; exact (Keep.refl nil w).alloc _,fun i hi=>?_⟩
    rcases hi with hi | hi | hi | hi
    · omega
    · exact (hnn i hi).elim
    · exact (hnn i hi).elim
    · exact (hnn i hi).elim
  clear hW1 hb
  go_loopw [10] (fun v wr=>∃ (k:Nat) (pr:Np),k≤ws.length∧v=.int .i64 (k:Int)∧NRep wr b (Nod.new (ws.take k)) pr∧Keep nil w wr∧∀ i,NMine b pr i→w.heap.size≤i) (fun v _=>ws.length - (intOf v).toNat)
  case atStart=>exact ⟨0,_,by omega,rfl,H1 ()⟩
  case round =>
    obtain ⟨k,pr,hk,rfl,hrep⟩:=hrel
    have HQ:Unit→(NRep wr b (Nod.new (ws.take k)) pr∧Keep nil w wr∧∀ i,NMine b pr i→w.heap.size≤i)∧k≤ws.length:=fun _=>⟨hrep,hk⟩
    have hbr:=hrep.1.blk.lt
    have f3:=hrep.1.blk.frozen 3
    obtain ⟨-,-,-,d3,-⟩:=hrep.1.cells
    clear hrep
    by_cases hkl:k < ws.length
    · have HKL:Unit→k < ws.length:=fun _=>hkl
      have hkI:(k:Int) < (ws.length:Int):=by omega
      obtain ⟨x,hx⟩:∃ x,ws[k]?=some x:=⟨_,List.getElem?_eq_getElem hkl⟩
      have HX:Unit→ws[k]?=some x:=fun _=>hx
      have hrv:=(H ()).1.keep (HQ ()).1.2.1 (fun _ _ e=>e)
      obtain ⟨r1,r2,r3⟩:=hrv
      obtain ⟨g,o,hga,hgl,e0⟩:∃ g o,wa=some ⟨g,o,none⟩∧g < wr.heap.size∧wr.cell? ⟨g,o + k,none⟩=some (.int .i64 (x:Int)):=by
        rcases r3 with ⟨_,r3,_⟩ | ⟨g,o,r3,hv⟩
        · omega
        · exact ⟨g,o,r3,hv.lt,hv.cell _ _ (icells_get ws k x hx)⟩
      have htl:(ws.take k).length=k:=by rw [List.length_take]; omega
      have hnl:(Nod.new (ws.take k)).edges.length=k:=by simp [Nod.new]; omega
      rw [hnl] at d3
      have hk9:(k:Int) < 1000:=by have:=(H ()).2; omega
      have HRW:Unit→RV wr 190 2 pr.ea k pr.ec (necells (Nod.new (ws.take k)).edges):=fun _=>by have:=(HQ ()).1.1.erow; rw [hnl] at this; exact this
      have HEB:Unit→¬ inB pr.ea b:=fun _=>(HQ ()).1.1.eb
      have HK9:Unit→(k:Int) < 1000:=fun _=>hk9
      rw [hga]
      clear hkl hk hx r1 r2 r3 hga hnl
      generalize hls:necells (Nod.new (ws.take k)).edges=ls at HRW
      go_wp2_with (at_builtin; refine wpList_append_rvS _ rfl (.tmp 18) (.tmp 21) 183 rfl 190 (.agg #[.int .i64 0,.int .i64 0]) 2 16 Tryz.underlying183 nedge_info rfl pr.ea k pr.ec rfl ls ((HRW ()).alloc _) ⟨wr.heap.size,0,none⟩ 1 1 (by omega) rfl [.int .i64 (x:Int),.int .i64 0] rfl (cells_elist wr [.int .i64 (x:Int),.int .i64 0] 190 _ rfl) (by intro u hu; simp at hu; rcases hu with rfl | rfl <;> rfl) (by have:=HK9 (); omega) (by have:=HK9 (); omega) ?_; intro a' c' w4 hb4 hd4 hk4; have g0:=((((Keep.refl nil wr).alloc _).mono (fun _ _ e=>e.elim)).trans hk4).cell b 3 hbr (HEB ()); have g1:=((((Keep.refl nil wr).alloc _).mono (fun _ _ e=>e.elim)).trans hk4).frozen b 3 hbr (HEB ()); rw [d3] at g0; rw [f3] at g1)
      have k24:Keep (inB pr.ea) wr w4:=(((Keep.refl nil wr).alloc _).mono (fun _ _ e=>e.elim)).trans hk4
      rw [← hls] at hb4
      have ho:=(HQ ()).1.1.edge_one x a' c' (by rw [htl]; exact hb4) (fun g hg=>by
        rcases hd4 with ⟨e,_⟩ | ⟨e,_⟩
        · rw [e] at hg; exact Or.inl hg
        · rw [e] at hg
          have:=inB_some.1 hg
          simp only [World.size_alloc] at this
          exact Or.inr (by omega)) k24
      rw [htl,← take_add ws k x (HX ())] at ho
      refine ⟨⟨k + 1,_,by have:=HKL (); omega,by go_num,ho.1,(HQ ()).1.2.1.trans' ho.2.keep (fun i hi e=>by have:=(HQ ()).1.2.2 i e; omega),fun i hi=>?_⟩,by have:=HKL (); simp [intOf]; omega⟩
      rcases ho.2.mine i hi with hi | hi
      · exact (HQ ()).1.2.2 i hi
      · exact Nat.le_trans (HQ ()).1.2.1.size hi
    · have ek:k=ws.length:=by omega
      subst ek
      have HP:Unit→NRep wr b (Nod.new ws) pr:=fun _=>by have:=(HQ ()).1.1; rw [List.take_length] at this; exact this
      clear hkl hk d3 f3
      go_wp2
      go_ret
      exact ⟨b,pr,rfl,HP (),(HQ ()).1.2⟩
theorem int_info:(Tryz.prog.info? 3).map (fun i=>(i.zero,i.size,i.bytes))=some (some (.int .i64 0),1,8):=by kernel_rfl
structure Lo (w wr : World) (lb rb ns nl nn nof : Nat) (nov : Bool) (l : List Nat) (a : Option Addr) (c : Nat) : Prop where
  keep:Keep nil w wr
  lblk:Blk wr lb #[.int .i64 (ns:Int),.int .i64 (nl:Int),.int .i64 (nn:Int),.bool nov,.int .i64 (nof:Int),.slice a l.length c] 50
  rblk:Blk wr rb #[.int .i64 0,.int .i64 0,.int .i64 0,.bool false,.int .i64 0,.slice none 0 0] 50
  row:RV wr 3 1 a l.length c (icells l)
  new:∀ i,inB a i→w.heap.size≤i
  la:¬ inB a lb
  ra:¬ inB a rb
  lr:rb < lb
  r:w.heap.size≤rb
theorem Lo.next {w wr w4:World} {lb rb ns nl nn nof:Nat} {nov:Bool} {l:List Nat} {a a':Option Addr} {c c':Nat} (h:Lo w wr lb rb ns nl nn nof nov l a c) (x:Nat) (hrow:RV w4 3 1 a' (l.length + 1) c' (icells l++[.int .i64 (x:Int)])) (hd:∀ g,inB a' g→inB a g∨wr.heap.size≤g) (hk:Keep (inB a) wr w4) :
    Lo w (w4.setCell ⟨lb,5,none⟩ (.slice a' (l.length + 1) c')) lb rb ns nl nn nof nov (l++[x]) a' c':=by
  have ks:Keep (only lb) w4 (w4.setCell ⟨lb,5,none⟩ (.slice a' (l.length + 1) c')):=(Keep.refl (only lb) w4).setCell (p:=⟨lb,5,none⟩) (fun _=>rfl) _
  have old:∀ g,g < wr.heap.size→¬ inB a g→¬ inB a' g:=fun g hg hn e=>by
    rcases hd g e with e | e
    · exact hn e
    · omega
  have hl:=h.lblk.lt
  have hr:=h.rblk.lt
  have hlen:(l++[x]).length=l.length + 1:=by simp
  refine ⟨?_,?_,?_,?_,fun i hi=>?_,old lb hl h.la,old rb hr h.ra,h.lr,h.r⟩
  · have k1:=h.keep.trans' hk (fun i hi e=>by have:=h.new i e; omega)
    exact k1.trans' ks (fun i hi e=>by have:=h.r; have:=h.lr; have e:i=lb:=e; omega)
  · have:=(h.lblk.keep hk h.la).set 5 (.slice a' (l.length + 1) c')
    rw [hlen]
    exact this
  · exact (h.rblk.keep hk h.ra).keep ks (fun e=>by have e:rb=lb:=e; have:=h.lr; omega)
  · rw [hlen]
    have e1:icells (l++[x])=icells l++[.int .i64 (x:Int)]:=by simp [icells]
    rw [e1]
    exact hrow.keep ks (fun g hg e=>by rw [show g=lb from e] at hg; exact old lb hl h.la hg)
  · rcases hd i hi with hi | hi
    · exact h.new i hi
    · exact Nat.le_trans h.keep.size hi
def lookv (n:Nod) (a:Option Addr) (c:Nat):Value:=.agg #[.int .i64 (n.state:Int),.int .i64 (n.level:Int),.int .i64 (n.name:Int),.bool n.over,.int .i64 (n.off.length:Int),.slice a n.edges.length c]
set_option maxRecDepth 100000 in
set_option maxHeartbeats 2000000 in
theorem nlook_any (b:Nat) (n:Nod) (p:Np) (w:World) (h:NRep w b n p) (hl:(n.edges.length:Int) < 1000) :
    Calls Tryz.prog 71 #[.pointer (some ⟨b,0,none⟩)] w fun r w'=>∃ a c,r=.returned (lookv n a c)∧RV w' 3 1 a n.edges.length c (icells (n.edges.map (·.2)))∧Keep nil w w'∧∀ i,inB a i→w.heap.size≤i:=by
  have H:Unit→NRep w b n p∧(n.edges.length:Int) < 1000:=fun _=>⟨h,hl⟩
  obtain ⟨c0,c1,c2,c3,c4,c5,c6,c7,c8,c9,c10,c11⟩:=h.cells
  have hbl:=h.blk.lt
  clear h hl c4 c5 c6 c7 c8 c11
  unfold lookv
  generalize n.state=ns at *
  generalize n.level=nl at *
  generalize n.name=nn at *
  generalize n.over=nov at *
  generalize hof:n.off.length=nof at *
  go_enter Tryz.func71,Tryz.ntmps71
  go_wp2_with fail
  obtain ⟨W1,hW1⟩:∃ W1,W1=w.alloc (.cells #[.int .i64 0,.int .i64 0,.int .i64 0,.bool false,.int .i64 0,.slice none 0 0] 50):=⟨_,rfl⟩
  have hk1:Keep nil w W1:=by rw [hW1]; exact (Keep.refl nil w).alloc _
  have hb1:Blk W1 w.heap.size #[.int .i64 0,.int .i64 0,.int .i64 0,.bool false,.int .i64 0,.slice none 0 0] 50:=by rw [hW1]; exact Blk.new _ _ _
  obtain ⟨rb,hrb⟩:∃ rb,rb=w.heap.size:=⟨_,rfl⟩
  rw [← hW1,← hrb]
  rw [← hrb] at hb1
  have d0:=(hk1.cell b 0 hbl id).trans c0
  have d1:=(hk1.cell b 1 hbl id).trans c1
  have d2:=(hk1.cell b 2 hbl id).trans c2
  have d9:=(hk1.cell b 9 hbl id).trans c9
  have d10:=(hk1.cell b 10 hbl id).trans c10
  have hbl1:b < W1.heap.size:=Nat.lt_of_lt_of_le hbl hk1.size
  have H1:Unit→Keep nil w W1∧rb=w.heap.size∧Blk W1 rb #[.int .i64 0,.int .i64 0,.int .i64 0,.bool false,.int .i64 0,.slice none 0 0] 50:=fun _=>⟨hk1,hrb,hb1⟩
  clear hW1 hk1 hb1 hrb c0 c1 c2 c3 c9 c10
  go_region_held3 (fun w'=>w'.cell? ⟨b,0,none⟩=some (.int .i64 (ns:Int))∧w'.cell? ⟨b,1,none⟩=some (.int .i64 (nl:Int))∧w'.cell? ⟨b,2,none⟩=some (.int .i64 (nn:Int))∧w'.cell? ⟨b,9,none⟩=some (.bool nov)∧w'.cell? ⟨b,10,none⟩=some (.slice p.fa nof p.fc)) (go_keep) (fail)
  obtain ⟨W2,hW2⟩:∃ W2,W2=(W1.alloc (.cells #[.int .i64 (ns:Int),.int .i64 (nl:Int),.int .i64 (nn:Int),.bool nov,.int .i64 (nof:Int),.slice none 0 0] 50)).drew:=⟨_,rfl⟩
  obtain ⟨lb,hlb⟩:∃ lb,lb=W1.heap.size:=⟨_,rfl⟩
  rw [← hW2,← hlb]
  have hb2:Blk W2 lb #[.int .i64 (ns:Int),.int .i64 (nl:Int),.int .i64 (nn:Int),.bool nov,.int .i64 (nof:Int),.slice none 0 0] 50:=by rw [hW2,hlb]; exact (Blk.new _ _ _).keep ((Keep.refl nil _).drew) id
  have hk2:Keep nil W1 W2:=by rw [hW2]; exact ((Keep.refl nil W1).alloc _).drew
  have H2:Unit→Keep nil w W2∧Blk W2 lb #[.int .i64 (ns:Int),.int .i64 (nl:Int),.int .i64 (nn:Int),.bool nov,.int .i64 (nof:Int),.slice none 0 0] 50∧Blk W2 rb #[.int .i64 0,.int .i64 0,.int .i64 0,.bool false,.int .i64 0,.slice none 0 0] 50∧rb=w.heap.size∧rb < lb:=fun _=>⟨(H1 ()).1.trans hk2,hb2,(H1 ()).2.2.keep hk2 id,(H1 ()).2.1,by have:=(H1 ()).2.2.lt; omega⟩
  have c3:=(((H ()).1.keep (H2 ()).1 (fun _ _ e=>e)).blk.cell 3)
  simp [ncells] at c3
  have hbl2:b < W2.heap.size:=((H ()).1.keep (H2 ()).1 (fun _ _ e=>e)).blk.lt
  clear hW2 hlb hb2 hk2 d0 d1 d2 d9 d10 hbl1 H1
  go_wp2_with fail
  have H0:Unit→Lo w W2 lb rb ns nl nn nof nov [] none 0:=fun _=>by
    have hnn:∀ i,¬ inB none i:=fun i e=>by obtain ⟨_,e⟩:=e; cases e
    obtain ⟨x1,x2,x3,x4,x5⟩:=H2 ()
    exact ⟨x1,x2,x3,⟨rfl,Nat.le_refl _,Or.inl ⟨rfl,rfl,rfl⟩⟩,fun i e=>(hnn i e).elim,hnn _,hnn _,x5,by omega⟩
  clear c3 H2 hbl2
  go_loopw [33] (fun v wr=>∃ (k:Nat) (a:Option Addr) (c:Nat),k≤n.edges.length∧v=.int .i64 (k:Int)∧Lo w wr lb rb ns nl nn nof nov ((n.edges.take k).map (·.2)) a c) (fun v _=>n.edges.length - (intOf v).toNat)
  case atStart=>exact ⟨0,none,0,by omega,rfl,H0 ()⟩
  case round =>
    obtain ⟨k,a,c,hk,rfl,hlo⟩:=hrel
    have HQ:Unit→Lo w wr lb rb ns nl nn nof nov ((n.edges.take k).map (·.2)) a c∧k≤n.edges.length:=fun _=>⟨hlo,hk⟩
    have hll:=hlo.lblk.lt
    have f5:=hlo.lblk.frozen 5
    have d0:=hlo.lblk.cell 0
    have d1:=hlo.lblk.cell 1
    have d2:=hlo.lblk.cell 2
    have d3:=hlo.lblk.cell 3
    have d4:=hlo.lblk.cell 4
    have d5:=hlo.lblk.cell 5
    simp at d0 d1 d2 d3 d4
    have htl:((n.edges.take k).map (·.2)).length=k:=by rw [List.length_map,List.length_take]; omega
    replace d5:wr.cell? ⟨lb,5,none⟩=some (.slice a k c):=by rw [d5]; simp; omega
    by_cases hkl:k < n.edges.length
    · have HKL:Unit→k < n.edges.length:=fun _=>hkl
      have hkI:(k:Int) < (n.edges.length:Int):=by omega
      obtain ⟨e,he⟩:∃ e,n.edges[k]?=some e:=⟨_,List.getElem?_eq_getElem hkl⟩
      obtain ⟨g,o,hga,hgl,e0,e1,_⟩:=((H ()).1.keep hlo.keep (fun _ _ e=>e)).edge_at k e he
      have HE:Unit→n.edges[k]?=some e:=fun _=>he
      have hk9:(k:Int) < 1000:=by have:=(H ()).2; omega
      have HK9:Unit→(k:Int) < 1000:=fun _=>hk9
      have HRW:Unit→RV wr 3 1 a k c (icells ((n.edges.take k).map (·.2))):=fun _=>by have:=(HQ ()).1.row; rw [htl] at this; exact this
      have HLA:Unit→¬ inB a lb:=fun _=>(HQ ()).1.la
      have HTL:Unit→((n.edges.take k).map (·.2)).length=k:=fun _=>htl
      rw [hga]
      obtain ⟨ew,es⟩:=e
      simp only at e0 e1
      clear hkl hk he hlo d0 d1 d2 d3 d4 htl hga
      generalize hls:icells ((n.edges.take k).map (·.2))=ls at HRW
      go_wp2_with (at_builtin; refine wpList_append_rvS _ rfl (.tmp 38) (.tmp 41) 25 rfl 3 (.int .i64 0) 1 8 Tryz.underlying25 int_info rfl a k c rfl ls (((HRW ()).alloc _).alloc _) ⟨wr.heap.size + 1,0,none⟩ 1 1 (by omega) rfl [.int .i64 (es:Int)] rfl (cells_elist (wr.alloc (.cells #[.int .i64 (ew:Int),.int .i64 (es:Int)] 190)) [.int .i64 (es:Int)] 3 _ (by simp)) (by simp [Value.oneCell']) (by have:=HK9 (); omega) (by have:=HK9 (); omega) ?_; intro a' c' w4 hb4 hd4 hk4; have g0:=(((((Keep.refl nil wr).alloc _).alloc _).mono (fun _ _ e=>e.elim)).trans hk4).cell lb 5 hll (HLA ()); have g1:=(((((Keep.refl nil wr).alloc _).alloc _).mono (fun _ _ e=>e.elim)).trans hk4).frozen lb 5 hll (HLA ()); rw [d5] at g0; rw [f5] at g1)
      have k24:Keep (inB a) wr w4:=((((Keep.refl nil wr).alloc _).alloc _).mono (fun _ _ e=>e.elim)).trans hk4
      rw [← hls] at hb4
      have ho:=(HQ ()).1.next es (by rw [HTL ()]; exact hb4) (fun g hg=>by
        rcases hd4 with ⟨e,_⟩ | ⟨e,_⟩
        · rw [e] at hg; exact Or.inl hg
        · rw [e] at hg
          have:=inB_some.1 hg
          simp only [World.size_alloc] at this
          exact Or.inr (by omega)) k24
      rw [HTL ()] at ho
      refine ⟨⟨k + 1,a',c',by have:=HKL (); omega,by go_num,?_⟩,by have:=HKL (); simp [intOf]; omega⟩
      rw [take_add n.edges k (ew,es) (HE ()),List.map_append]
      exact ho
    · have ek:k=n.edges.length:=by omega
      subst ek
      have hrl:=hlo.rblk.lt
      have q0:=hlo.rblk.frozen 0
      have q1:=hlo.rblk.frozen 1
      have q2:=hlo.rblk.frozen 2
      have q3:=hlo.rblk.frozen 3
      have q4:=hlo.rblk.frozen 4
      have q5:=hlo.rblk.frozen 5
      have z0:=hlo.rblk.cell 0
      have z1:=hlo.rblk.cell 1
      have z2:=hlo.rblk.cell 2
      have z3:=hlo.rblk.cell 3
      have z4:=hlo.rblk.cell 4
      have z5:=hlo.rblk.cell 5
      simp at z0 z1 z2 z3 z4 z5
      have hlr:¬ lb=rb:=by have:=hlo.lr; omega
      have hlr2:¬ rb=lb:=by have:=hlo.lr; omega
      clear hkl hk htl hlo f5
      go_wp2_with fail
      have hR:=((((((HQ ()).1.rblk.set 0 (.int .i64 (ns:Int))).set 1 (.int .i64 (nl:Int))).set 2 (.int .i64 (nn:Int))).set 3 (.bool nov)).set 4 (.int .i64 (nof:Int))).set 5 (.slice a n.edges.length c)
      obtain ⟨W9,hW9⟩:∃ W9,W9=((((((wr.setCell ⟨rb,0,none⟩ (.int .i64 (ns:Int))).setCell ⟨rb,1,none⟩ (.int .i64 (nl:Int))).setCell ⟨rb,2,none⟩ (.int .i64 (nn:Int))).setCell ⟨rb,3,none⟩ (.bool nov)).setCell ⟨rb,4,none⟩ (.int .i64 (nof:Int))).setCell ⟨rb,5,none⟩ (.slice a n.edges.length c)):=⟨_,rfl⟩
      have hk9:Keep (only rb) wr W9:=by
        rw [hW9]
        exact ((((((Keep.refl (only rb) wr).setCell (p:=⟨rb,0,none⟩) (fun _=>rfl) _).setCell (p:=⟨rb,1,none⟩) (fun _=>rfl) _).setCell (p:=⟨rb,2,none⟩) (fun _=>rfl) _).setCell (p:=⟨rb,3,none⟩) (fun _=>rfl) _).setCell (p:=⟨rb,4,none⟩) (fun _=>rfl) _).setCell (p:=⟨rb,5,none⟩) (fun _=>rfl) _
      rw [← hW9] at hR ⊢
      have y0:=hR.cell 0
      have y1:=hR.cell 1
      have y2:=hR.cell 2
      have y3:=hR.cell 3
      have y4:=hR.cell 4
      have y5:=hR.cell 5
      have hyl:=hR.lt
      simp at y0 y1 y2 y3 y4 y5
      have hlo:=(HQ ()).1
      have hrow:=hlo.row.keep hk9 (fun g hg e=>by rw [show g=rb from e] at hg; exact hlo.ra hg)
      rw [List.take_length] at hrow
      have hln:(n.edges.map (·.2)).length=n.edges.length:=by simp
      rw [hln] at hrow
      have hkk:Keep nil w W9:=hlo.keep.trans' hk9 (fun i hi e=>by have e:i=rb:=e; have:=hlo.r; omega)
      have hnew:=hlo.new
      clear hW9 hR hlo hk9 z0 z1 z2 z3 z4 z5 q0 q1 q2 q3 q4 q5 d0 d1 d2 d3 d4 d5 HQ H0 H
      refine bodyPost_ret (v:=.agg #[.int .i64 (ns:Int),.int .i64 (nl:Int),.int .i64 (nn:Int),.bool nov,.int .i64 (nof:Int),.slice a n.edges.length c]) ?_ rfl ⟨a,c,rfl,hrow,hkk,hnew⟩
      clear hrow hkk hnew
      simp [results,Tryz.results71,go_sem,y0,y1,y2,y3,y4,y5]
structure NS (n : Nod) : Prop where
  inn:∀ i,n.inn=some i→i < n.edges.length
  best:∀ i,n.best=some i→i < n.edges.length
  sent:∀ c ∈ n.sent,c.1 < n.edges.length
theorem NS.of {n n':Nod} (h:NS n) (he:n'.edges.length=n.edges.length) (hi:n'.inn=n.inn) (hb:n'.best=n.best) (hs:n'.sent=n.sent):NS n' :=
  ⟨by rw [hi,he]; exact h.inn,by rw [hb,he]; exact h.best,by rw [hs,he]; exact h.sent⟩
theorem ns_setSt {n:Nod} (h:NS n) (j s:Nat):NS (n.setSt j s):=h.of (setSt_len n j s) rfl rfl rfl
theorem ns_send {n:Nod} (h:NS n) (j:Nat) (m:NMsg) (hj:j < n.edges.length):NS (n.send j m) :=
  ⟨h.inn,h.best,fun c hc=>by
    rcases List.mem_append.1 hc with hc | hc
    · exact h.sent c hc
    · rw [List.mem_singleton.1 hc]; exact hj⟩
theorem light_lt {n:Nod} {j:Nat} (h:n.light=some j):j < n.edges.length:=by
  obtain ⟨e,he⟩:=light_at h
  exact (List.getElem?_eq_some_iff.1 he).1
theorem ns_wake {n:Nod} (h:NS n):NS n.wake:=by
  unfold Nod.wake
  split
  · have h0:NS { n with level:=0,state:=2,count:=0 }:=h.of rfl rfl rfl rfl
    split
    · exact h.of rfl rfl rfl rfl
    · rename_i j hj
      exact ns_send (ns_setSt h0 j 1) j _ (by rw [setSt_len]; exact light_lt hj)
  · exact h
theorem ns_spread {n:Nod} (h:NS n) (j l nm:Nat) (f:Bool) (hj:j < n.edges.length):NS (n.spread j l nm f):=by
  unfold Nod.spread
  split
  · exact (ns_send h j _ hj).of rfl rfl rfl rfl
  · exact ns_send h j _ hj
theorem ns_reports {n:Nod} (h:NS n):NS n.reports:=by
  unfold Nod.reports
  split
  · have h0:NS { n with state:=2 }:=h.of rfl rfl rfl rfl
    split
    · exact h0
    · rename_i i hi
      exact ns_send h0 i _ (h.inn i hi)
  · exact h
theorem ns_tests {n:Nod} (h:NS n):NS n.tests:=by
  unfold Nod.tests
  split
  · have h0:NS { n with tested:=none }:=h.of rfl rfl rfl rfl
    exact ns_reports h0
  · rename_i j hj
    have h0:NS { n with tested:=some j }:=h.of rfl rfl rfl rfl
    exact ns_send h0 j _ (light_lt hj)
theorem ns_spreads (fr l nm:Nat) (f:Bool) (k:Nat):∀ (n:Nod) (j:Nat),NS n→j + k≤n.edges.length→NS (n.spreads fr l nm f k j):=by
  induction k with
  | zero=>intro n j h _; exact h
  | succ k ih =>
    intro n j h hk
    rw [Nod.spreads]
    split
    · exact ih _ _ (ns_spread h j l nm f (by omega)) (by rw [(spread_same n j l nm f).1]; omega)
    · exact ih _ _ h (by omega)
theorem ns_initiate {n:Nod} (h:NS n) (fr l nm:Nat) (f:Bool) (hf:fr < n.edges.length):NS (n.initiate fr l nm f):=by
  have h0:NS (n.ini fr l nm f):=⟨fun i hi=>by cases hi; exact hf,(fun i hi=>by cases hi),h.sent⟩
  have h1:=ns_spreads fr l nm f n.edges.length (n.ini fr l nm f) 0 h0 (by simp [Nod.ini])
  rw [initiate_eq]
  split
  · exact ns_tests h1
  · exact h1
theorem ns_reject {n:Nod} (h:NS n) (j:Nat):NS (n.reject j):=by
  unfold Nod.reject
  split
  · exact ns_setSt h _ _
  · exact h
theorem ns_hear {n:Nod} (h:NS n) (j x:Nat) (hj:j < n.edges.length):NS (n.hear j x):=by
  unfold Nod.hear
  split
  · exact ⟨h.inn,(fun i hi=>by cases hi; exact hj),h.sent⟩
  · exact h
theorem ns_changeRoot {n:Nod} (h:NS n):NS n.changeRoot:=by
  unfold Nod.changeRoot
  split
  · exact h
  · rename_i i hi
    split
    · exact ns_send h _ _ (h.best i hi)
    · exact ns_setSt (ns_send h _ _ (h.best i hi)) _ _
theorem ns_act {n:Nod} (h:NS n) (j:Nat) (m:NMsg) (hj:j < n.edges.length):NS (n.act j m).1:=by
  have hw:=ns_wake h
  have hwl:=(wake_edges n).1
  cases m with
  | connect l =>
    show NS (n.connect j l).1
    unfold Nod.connect
    simp only
    split
    · exact ns_spread (ns_setSt hw j 1) _ _ _ _ (by rw [setSt_len,hwl]; exact hj)
    · split
      · exact hw
      · exact ns_send hw _ _ (by rw [hwl]; exact hj)
  | initiate l nm f=>exact ns_initiate h j l nm f hj
  | test l nm =>
    show NS (n.test j l nm).1
    unfold Nod.test
    simp only
    split
    · exact hw
    · split
      · exact ns_send hw _ _ (by rw [hwl]; exact hj)
      · have hr:=ns_reject hw j
        split
        · exact ns_tests hr
        · exact ns_send hr _ _ (by rw [(reject_same n.wake j).2.2.1,hwl]; exact hj)
  | accept =>
    have h0:NS { n with tested:=none }:=h.of rfl rfl rfl rfl
    exact ns_reports (ns_hear h0 j _ hj)
  | reject=>exact ns_tests (ns_reject h j)
  | report x =>
    show NS (n.report j x).1
    unfold Nod.report
    split
    · split
      · exact h
      · split
        · exact ns_changeRoot h
        · split
          · exact h.of rfl rfl rfl rfl
          · exact h
    · have h0:NS { n with count:=wrap64 (n.count - 1) }:=h.of rfl rfl rfl rfl
      exact ns_reports (ns_hear h0 j _ hj)
  | root=>exact ns_changeRoot h
theorem ns_oneOff (f:Nat):∀ (k:Nat) (n:Nod),NGood n→NS n→NS (n.oneOff f k).1:=by
  induction f with
  | zero=>intro k n _ h; exact h
  | succ f ih =>
    intro k n hg h
    rw [Nod.oneOff]
    split
    · exact h
    · rename_i c hc
      have hm:=hg.off c (List.mem_of_getElem? hc)
      have ha:=ns_act h c.1 c.2 hm.1
      split
      · exact ha.of rfl rfl rfl rfl
      · exact ih _ _ (hg.fr (fr_act n c.1 c.2 hm.1 hm.2)) ha
structure NWell (n : Nod) : Prop where
  good:NGood n
  ns:NS n
theorem offs_well (f:Nat):∀ n:Nod,NWell n→(n.off.length:Int) < 5000→NWell (n.offs f)∧(n.offs f).edges.length=n.edges.length∧(n.offs f).off.length≤n.off.length∧(n.offs f).sent.length≤n.sent.length + f * (5000 * 1002):=by
  induction f with
  | zero=>intro n h _; exact ⟨h,rfl,Nat.le_refl _,Nat.le_add_right _ _⟩
  | succ f ih =>
    intro n h ho
    obtain ⟨t1,t2⟩:=oneOff_tk n.off.length 0 n h.good
    have hw:NWell (n.oneOff n.off.length 0).1:=⟨t1.good h.good,ns_oneOff _ _ _ h.good h.ns⟩
    have a1:=t1.sent
    have a2:=h.good.rise.few
    have a3:n.off.length * (n.edges.length + 2)≤5000 * 1002:=Nat.mul_le_mul (by omega) (by omega)
    have a4:(f + 1) * (5000 * 1002)=f * (5000 * 1002) + 5000 * 1002:=Nat.succ_mul _ _
    have a5:=t1.off
    rw [Nod.offs]
    split
    · obtain ⟨i1,i2,i3,i4⟩:=ih _ hw (by omega)
      exact ⟨i1,i2.trans t1.len,by omega,by omega⟩
    · exact ⟨hw,t1.len,a5,by omega⟩
theorem take_well (n:Nod) (j:Nat) (m:Fr.Msg) (h:NWell n) (hj:j < n.edges.length) (hm:(typed m).may) (ho:(n.off.length:Int) < 5000):NWell (n.take j m)∧(n.take j m).edges.length=n.edges.length∧(n.take j m).off.length≤n.off.length + 1∧(n.take j m).sent.length≤n.sent.length + 5002 * (5000 * 1002):=by
  have hf:=fr_act n j (typed m) hj hm
  have hw:NWell (n.act j (typed m)).1:=⟨h.good.fr hf,ns_act h.ns j (typed m) hj⟩
  have a1:=hf.sent
  have a2:=h.good.rise.few
  unfold Nod.take
  split
  · obtain ⟨i1,i2,i3,i4⟩:=offs_well ((n.act j (typed m)).1.off.length + 1) _ hw (by rw [hf.off]; exact ho)
    rw [hf.off] at i1 i2 i3 i4 ⊢
    have a3:(n.off.length + 1) * (5000 * 1002)≤5001 * (5000 * 1002):=Nat.mul_le_mul (by omega) (Nat.le_refl _)
    exact ⟨i1,i2.trans hf.len,by omega,by omega⟩
  · refine ⟨⟨hw.good.put j (typed m) (by rw [hf.len]; exact hj) hm,hw.ns.of rfl rfl rfl rfl⟩,hf.len,?_,?_⟩
    · show ((n.act j (typed m)).1.off++[(j,typed m)]).length≤_
      rw [hf.off]; simp
    · show (n.act j (typed m)).1.sent.length≤_
      omega
theorem wake_well (n:Nod) (h:NWell n):NWell n.wake:=⟨h.good.fr (fr_wake n),ns_wake h.ns⟩
theorem new_well (ws:List Nat) (hr:∀ (i k:Nat) (e f:Nat),i < k→ws[i]?=some e→ws[k]?=some f→e≤f) (hf:(ws.length:Int) < 1000):NWell (Nod.new ws) :=
  ⟨NGood.new ws hr hf,(fun i hi=>by cases hi),(fun i hi=>by cases hi),(fun c hc=>by cases hc)⟩
theorem sentNil_well {n:Nod} (h:NWell n):NWell { n with sent:=[] } :=
  ⟨⟨h.good.rise.of rfl,h.good.best,h.good.level,h.good.off⟩,h.ns.inn,h.ns.best,(fun c hc=>by cases hc)⟩
theorem zero_packet (w:World):(zeroValue 200).run Tryz.prog w=.ok (.agg #[.int .i64 0,.int .i64 0,.slice none 0 0,.bool false]) w:=by
  have h:(Tryz.prog.info? 200).map (fun i=>i.zero)=some (some (.agg #[.int .i64 0,.int .i64 0,.slice none 0 0,.bool false])):=by kernel_rfl
  obtain ⟨i,hi,hs⟩:=Option.map_eq_some_iff.1 h
  simp [zeroValue,typeInfo,hi,hs]
theorem packet_info:∃ i,Tryz.prog.info? 200=some i∧i.size=4:=by
  have h:(Tryz.prog.info? 200).map (fun i=>i.size)=some 4:=by kernel_rfl
  obtain ⟨i,hi,hs⟩:=Option.map_eq_some_iff.1 h
  exact ⟨i,hi,hs⟩
set_option maxRecDepth 100000 in
set_option maxHeartbeats 2000000 in
theorem delete_packet (g o n c k j:Nat) (pre mid x tl sp:List Value) (w:World) (hb:Blk w g (pre++mid++x++tl++sp).toArray 200) (ho:pre.length=o) (hm:mid.length=k * 4) (hx:x.length=4) (ht:tl.length=(n - j) * 4) (h1:∀ u ∈ tl,u.oneCell'=true) (hk:j=k + 1) (hjn:j≤n) (hc:n≤c) :
    Calls Tryz.prog 167 #[.slice (some ⟨g,o,none⟩) n c,.int .i64 (k:Int),.int .i64 (j:Int)] w fun r w'=>r=.returned (.slice (some ⟨g,o,none⟩) (n - 1) c)∧Blk w' g (pre++mid++tl++[Value.int .i64 0,Value.int .i64 0,Value.slice none 0 0,Value.bool false]++sp).toArray 200∧Keep (only g) w w':=by
  have hkj:k≤j:=by omega
  have hkn:k≤n:=by omega
  have hkc:k≤c:=by omega
  have hkI:(k:Int)≤(j:Int):=by omega
  have hjI:(j:Int)≤(n:Int):=by omega
  have hcI:(n:Int)≤(c:Int):=by omega
  have e1:((k:Int) == (j:Int))=false:=by rw [beq_eq_false_iff_ne]; omega
  have e2:¬ (k:Int)=(j:Int):=by omega
  have H:Unit→j=k + 1∧j≤n∧n≤c:=fun _=>⟨hk,hjn,hc⟩
  obtain ⟨i,hi,hsz⟩:=packet_info
  clear hk
  have hbd:Blk w.drew g (pre++mid++x++tl++sp).toArray 200:=hb.keep ((Keep.refl nil w).drew) id
  obtain ⟨ad,hite,hca⟩:∃ ad:Addr,(if c=j then some (⟨g,o,none⟩:Addr) else some ⟨g,o + j * 4,none⟩)=some ad∧∀ q u,tl[q]?=some u→w.drew.cell? (ad.add q)=some u:=by
    by_cases hcj:c=j
    · refine ⟨⟨g,o,none⟩,by rw [if_pos hcj],fun q u hu=>?_⟩
      have hq:=(List.getElem?_eq_some_iff.1 hu).1
      have:=H ()
      have hz:(n - j) * 4=0:=by rw [show n - j=0 by omega]
      omega
    · refine ⟨⟨g,o + j * 4,none⟩,by rw [if_neg hcj],fun q u hu=>?_⟩
      rw [Addr.add_lit]
      have hc0:=hbd.cell (o + j * 4 + q)
      have hq:=(List.getElem?_eq_some_iff.1 hu).1
      rw [hc0]
      simp only [List.getElem?_toArray]
      rw [List.append_assoc,List.append_assoc,List.append_assoc,← List.append_assoc,List.getElem?_append_right (by simp; have:=H (); omega),List.getElem?_append_right (by simp; have:=H (); omega),List.getElem?_append_left (by simp; have:=H (); omega)]
      rw [← hu]
      congr 1
      simp
      have:=H ()
      omega
  have hln:tl.length=(n - j) * i.size:=by rw [hsz]; exact ht
  have hrm:k + (n - j)≤c:=by have:=H (); omega
  have hft:o + k * i.size + tl.length≤(pre++mid++x++tl++sp).length:=by rw [hsz]; simp; have:=H (); omega
  go_enter Tryz.func167,Tryz.ntmps167
  go_wp2_with fail
  go_region_law (refine step_append_room rfl (.tmp 22) (.tmp 25) 85 rfl 200 i Tryz.underlying85 hi g o k c (pre++mid++x++tl++sp) hbd rfl ad (n - j) (c - j) rfl tl hln hca h1 hrm hft ?_; intro W1 hb1 hk1)
  have e3:(pre++mid++x++tl++sp).take (o + k * i.size)=pre++mid:=by
    rw [hsz,List.append_assoc,List.append_assoc,show o + k * 4=(pre++mid).length by simp; omega]; exact List.take_left
  have e4:(pre++mid++x++tl++sp).drop (o + k * i.size + tl.length)=(x++tl).drop tl.length++sp:=by
    rw [hsz,← List.drop_drop,show o + k * 4=(pre++mid).length by simp; omega,show pre++mid++x++tl++sp=(pre++mid)++(x++tl++sp) by simp,List.drop_left,List.drop_append_of_le_length (by simp)]
  rw [e3,e4] at hb1
  have H1:Unit→Blk W1 g (pre++mid++tl++((x++tl).drop tl.length++sp)).toArray 200∧Keep (only g) w W1:=fun _=>⟨hb1,((Keep.refl nil w).drew.mono (fun _ _ e=>e.elim)).trans' hk1 (fun _ _ e=>e)⟩
  have hlx:((x++tl).drop tl.length).length=4:=by simp; omega
  have hone:n - (k + (n - j))=1:=by have:=H (); omega
  have hzv:∀ w,(zeroValue 200).run Tryz.prog w=.ok (.agg #[.int .i64 0,.int .i64 0,.slice none 0 0,.bool false]) w:=fun w=>zero_packet w
  have hkn2:k + (n - j)≤n:=by have:=H (); omega
  have hkc2:k + (n - j)≤c:=hrm
  have hpl:(pre++mid++tl).length=o + (k + (n - j)) * 4:=by simp; omega
  obtain ⟨W2,hrun,hb2,hk2⟩:=run_clear_at (P:=Tryz.prog) W1 85 0 200 _ Tryz.underlying85 hzv g (o + (k + (n - j)) * 4) (n - (k + (n - j))) (c - (k + (n - j))) (by omega) (pre++mid++tl++((x++tl).drop tl.length++sp)) hb1 [Value.int .i64 0,Value.int .i64 0,Value.slice none 0 0,Value.bool false] (by rw [hone]; first | kernel_rfl | decide | simp [Builtin.zeroCells,Value.cells,List.ofFn]) (by simp [Value.oneCell']) (by simp only [List.length_append] at hpl hlx ⊢; simp; omega)
  have e5:(pre++mid++tl++((x++tl).drop tl.length++sp)).take (o + (k + (n - j)) * 4)=pre++mid++tl:=by rw [← hpl]; exact List.take_left
  have e6:(pre++mid++tl++((x++tl).drop tl.length++sp)).drop (o + (k + (n - j)) * 4 + [Value.int .i64 0,Value.int .i64 0,Value.slice none 0 0,Value.bool false].length)=sp:=by
    rw [← List.drop_drop,← hpl,List.drop_left,show [Value.int .i64 0,Value.int .i64 0,Value.slice none 0 0,Value.bool false].length=((x++tl).drop tl.length).length by rw [hlx]; rfl,List.drop_left]
  rw [e5,e6] at hb2
  have HP:Unit→Blk W2 g (pre++mid++tl++[Value.int .i64 0,Value.int .i64 0,Value.slice none 0 0,Value.bool false]++sp).toArray 200∧Keep (only g) w W2∧n - 1=k + (n - j):=fun _=>⟨hb2,(H1 ()).2.trans' hk2 (fun _ _ e=>e),by have:=H (); omega⟩
  clear hb1 hk1 e3 e4 hbd hb hb2 hk2 e5 e6 hpl hlx hone hzv
  go_wp2
  go_ret
  exact ⟨by rw [(HP ()).2.2]; rfl,(HP ()).1,(HP ()).2.1⟩
structure Pk where
  from_:Nat
  to_:Nat
  l:List Nat
  g:Nat
  c:Nat
  sp:Bool
def Pk.slice (x:Pk):Value:=.slice (some ⟨x.g,0,none⟩) x.l.length x.c
def pkcell (x:Pk):List Value:=[.int .i64 (x.from_:Int),.int .i64 (x.to_:Int),x.slice,.bool x.sp]
def pkcells (L:List Pk):List Value:=L.flatMap pkcell
def badd (L:List Pk) (x:Pk):List Pk:=if L.length < 300 then L++[x] else L
theorem pkcells_append (l m:List Pk):pkcells (l++m)=pkcells l++pkcells m:=by simp [pkcells]
theorem pkcells_len (l:List Pk):(pkcells l).length=l.length * 4:=by
  induction l with
  | nil=>rfl
  | cons x t ih =>
    have hc:pkcells (x :: t)=pkcell x++pkcells t:=by simp [pkcells]
    rw [hc,List.length_append,ih,List.length_cons]
    have hl:(pkcell x).length=4:=rfl
    omega
theorem pkcells_one (l:List Pk):∀ u ∈ pkcells l,u.oneCell'=true:=by
  intro u hu
  simp only [pkcells,List.mem_flatMap] at hu
  obtain ⟨c,_,hc⟩:=hu
  simp only [pkcell,Pk.slice,List.mem_cons,List.not_mem_nil,or_false] at hc
  rcases hc with rfl | rfl | rfl | rfl <;> rfl
theorem pk_parts (l:List Pk) (k:Nat) (c:Pk) (h:l[k]?=some c):pkcells l=pkcells (l.take k)++pkcell c++pkcells (l.drop (k + 1))∧pkcells (l.eraseIdx k)=pkcells (l.take k)++pkcells (l.drop (k + 1)):=by
  have hl:l=l.take k++[c]++l.drop (k + 1):=by
    have h2:=(List.take_append_drop (k + 1) l).symm
    rw [take_add l k c h] at h2
    exact h2
  constructor
  · conv=>lhs; rw [hl]
    rw [pkcells_append,pkcells_append]
    have:pkcells [c]=pkcell c:=by simp [pkcells]
    rw [this]
  · rw [List.eraseIdx_eq_take_drop_succ,pkcells_append]
set_option maxRecDepth 100000 in
set_option maxHeartbeats 2000000 in
theorem bagHas_any (ba:Option Addr) (n bc:Nat) (k:Int) (w:World) :
    Calls Tryz.prog 113 #[.slice ba n bc,.int .i64 k] w fun r w'=>r=.returned (.bool (decide (0≤k∧k < (n:Int))))∧Keep nil w w':=by
  by_cases h0:0≤k
  · by_cases h1:k < (n:Int)
    · rw [decide_eq_true (p:=0≤k∧k < (n:Int)) ⟨h0,h1⟩]
      go_enter Tryz.func113,Tryz.ntmps113
      go_wp2
      go_ret
      exact ⟨rfl,by repeat (first | exact Keep.refl _ _ | apply Keep.drew)⟩
    · rw [decide_eq_false (p:=0≤k∧k < (n:Int)) (fun e=>h1 e.2)]
      have h2:(n:Int)≤k:=by omega
      go_enter Tryz.func113,Tryz.ntmps113
      go_wp2
      go_ret
      exact ⟨rfl,by repeat (first | exact Keep.refl _ _ | apply Keep.drew)⟩
  · rw [decide_eq_false (p:=0≤k∧k < (n:Int)) (fun e=>h0 e.1)]
    have h2:k < 0:=by omega
    go_enter Tryz.func113,Tryz.ntmps113
    go_wp2
    go_ret
    exact ⟨rfl,by repeat (first | exact Keep.refl _ _ | apply Keep.drew)⟩
structure Bag (w : World) (nb o : Nat) (L : List Pk) (ba : Option Addr) (bc : Nat) : Prop where
  lt:nb < w.heap.size
  cell:w.cell? ⟨nb,o,none⟩=some (.slice ba L.length bc)
  frz:w.frozen? ⟨nb,o,none⟩=false
  row:RV w 200 4 ba L.length bc (pkcells L)
  nb_:¬ inB ba nb
structure BagTo (w w' : World) (nb o : Nat) (ba ba' : Option Addr) (v : Value) : Prop where
  keep:Keep (fun i=>i=nb∨inB ba i) w w'
  blk:∀ cells t,Blk w nb cells t→Blk w' nb (cells.setIfInBounds o v) t
  mine:∀ i,inB ba' i→inB ba i∨w.heap.size≤i
theorem blk_same {w:World} {b o:Nat} {cells:Array Value} {t:TypeId} {v:Value} (h:Blk w b cells t) (hc:w.cell? ⟨b,o,none⟩=some v):cells.setIfInBounds o v=cells:=by
  rw [h.cell o] at hc
  apply Array.ext_getElem?
  intro i
  by_cases hi:o=i
  · subst hi
    rw [hc]
    rw [Array.getElem?_setIfInBounds]
    have:=(Array.getElem?_eq_some_iff.1 hc).1
    simp [this]
  · rw [Array.getElem?_setIfInBounds]; simp [hi]
theorem cell_set_self {w:World} {b o:Nat} {u:Value} (h:w.cell? ⟨b,o,none⟩=some u) (v:Value):(w.setCell ⟨b,o,none⟩ v).cell? ⟨b,o,none⟩=some v:=World.cell?_setCell_same' _ _ _ (by rw [h]; rfl)
theorem frozen_set {w:World} {b o:Nat} (v:Value):(w.setCell ⟨b,o,none⟩ v).frozen? ⟨b,o,none⟩=w.frozen? ⟨b,o,none⟩:=World.frozen?_setCell _ _ _ _
theorem packet_info2:(Tryz.prog.info? 200).map (fun i=>(i.zero,i.size,i.bytes))=some (some (.agg #[.int .i64 0,.int .i64 0,.slice none 0 0,.bool false]),4,48):=by kernel_rfl
set_option maxRecDepth 100000 in
set_option maxHeartbeats 2000000 in
theorem bagAdd_any (nb o:Nat) (L:List Pk) (ba:Option Addr) (bc:Nat) (x:Pk) (w:World) (h:Bag w nb o L ba bc) (hl:(L.length:Int)≤300) :
    Calls Tryz.prog 120 #[.pointer (some ⟨nb,o,none⟩),.agg #[.int .i64 (x.from_:Int),.int .i64 (x.to_:Int),x.slice,.bool x.sp]] w fun r w'=>r=.returned (.tuple #[])∧∃ ba' bc',Bag w' nb o (badd L x) ba' bc'∧BagTo w w' nb o ba ba' (.slice ba' (badd L x).length bc'):=by
  have H:Unit→Bag w nb o L ba bc∧(L.length:Int)≤300:=fun _=>⟨h,hl⟩
  have hc:=h.cell
  have hf:=h.frz
  have hlt:=h.lt
  unfold Pk.slice
  obtain ⟨xf,xt,xl,xg,xc,xs⟩:=x
  simp only
  by_cases hr:L.length < 300
  · have HE:Unit→badd L ⟨xf,xt,xl,xg,xc,xs⟩=L++[⟨xf,xt,xl,xg,xc,xs⟩]:=fun _=>by unfold badd; rw [if_pos hr]
    have hrI:(L.length:Int) < 300:=by omega
    have HRI:Unit→(L.length:Int) < 300:=fun _=>hrI
    clear h hl hr
    generalize hln:L.length=ln at hc hrI HRI
    go_enter Tryz.func120,Tryz.ntmps120
    go_wp2_with fail
    obtain ⟨W1,hW1⟩:∃ W1,W1=w.alloc (.cells #[.int .i64 (xf:Int),.int .i64 (xt:Int),.slice (some ⟨xg,0,none⟩) xl.length xc,.bool xs] 200):=⟨_,rfl⟩
    obtain ⟨yb,hyb⟩:∃ yb,yb=w.heap.size:=⟨_,rfl⟩
    have hk1:Keep nil w W1:=by rw [hW1]; exact (Keep.refl nil w).alloc _
    have hb1:Blk W1 yb #[.int .i64 (xf:Int),.int .i64 (xt:Int),.slice (some ⟨xg,0,none⟩) xl.length xc,.bool xs] 200:=by rw [hW1,hyb]; exact Blk.new _ _ _
    rw [← hW1,← hyb]
    have y0:=hb1.cell 0
    have y1:=hb1.cell 1
    have y2:=hb1.cell 2
    have y3:=hb1.cell 3
    simp at y0 y1 y2 y3
    have hyl:=hb1.lt
    have d0:=(hk1.cell nb o hlt id).trans hc
    have d1:=(hk1.frozen nb o hlt id).trans hf
    have hlt1:nb < W1.heap.size:=Nat.lt_of_lt_of_le hlt hk1.size
    have HRW:Unit→RV W1.drew 200 4 ba ln bc (pkcells L):=fun _=>by have:=(H ()).1.row; rw [hln] at this; exact (this.keep hk1 (fun _ _ e=>e)).keep ((Keep.refl nil W1).drew) (fun _ _ e=>e)
    have HNB:Unit→¬ inB ba nb:=fun _=>(H ()).1.nb_
    have H1:Unit→Keep nil w W1:=fun _=>hk1
    clear hW1 hyb hk1 hb1 hc hf
    generalize hls:pkcells L=ls at HRW
    generalize hxl:xl.length=xln at *
    go_region_law (refine step_append_rvS rfl (.tmp 12) (.tmp 14) 85 rfl 200 (.agg #[.int .i64 0,.int .i64 0,.slice none 0 0,.bool false]) 4 48 Tryz.underlying85 packet_info2 rfl ba ln bc (by simp [Act.eval,Act.put]) ls ((HRW ()).alloc _) ⟨W1.heap.size,0,none⟩ 1 1 (by omega) rfl [.int .i64 (xf:Int),.int .i64 (xt:Int),.slice (some ⟨xg,0,none⟩) xln xc,.bool xs] rfl (cells_elist W1.drew [.int .i64 (xf:Int),.int .i64 (xt:Int),.slice (some ⟨xg,0,none⟩) xln xc,.bool xs] 200 _ rfl) (by intro u hu; simp at hu; rcases hu with rfl | rfl | rfl | rfl <;> rfl) (by have:=HRI (); omega) (by have:=HRI (); omega) ?_; intro a' c' w4 hb4 hd4 hk4; have g0:=((((Keep.refl nil W1.drew).alloc _).mono (fun _ _ e=>e.elim)).trans hk4).cell nb o hlt1 (HNB ()); have g1:=((((Keep.refl nil W1.drew).alloc _).mono (fun _ _ e=>e.elim)).trans hk4).frozen nb o hlt1 (HNB ()); rw [show W1.drew.cell? ⟨nb,o,none⟩=_ from d0] at g0; rw [show W1.drew.frozen? ⟨nb,o,none⟩=_ from d1] at g1)
    all_goals
      have HP:Unit→∃ ba' bc',Bag (w4.setCell ⟨nb,o,none⟩ (.slice a' (ln + 1) c')) nb o (badd L ⟨xf,xt,xl,xg,xc,xs⟩) ba' bc'∧BagTo w (w4.setCell ⟨nb,o,none⟩ (.slice a' (ln + 1) c')) nb o ba ba' (.slice ba' (badd L ⟨xf,xt,xl,xg,xc,xs⟩).length bc'):=fun _=>by
        rw [HE ()]
        have k24:Keep (inB ba) w w4:=((((H1 ()).drew).alloc _).mono (fun _ _ e=>e.elim)).trans hk4
        have ks:Keep (only nb) w4 (w4.setCell ⟨nb,o,none⟩ (.slice a' (ln + 1) c')):=(Keep.refl (only nb) w4).setCell (p:=⟨nb,o,none⟩) (fun _=>rfl) _
        have hmine:∀ i,inB a' i→inB ba i∨w.heap.size≤i:=fun i hi=>by
          rcases hd4 with ⟨e,_⟩ | ⟨e,_⟩
          · rw [e] at hi; exact Or.inl hi
          · rw [e] at hi
            have:=inB_some.1 hi
            have hs1:=(H1 ()).size
            simp only [World.size_alloc,World.size_drew] at this
            exact Or.inr (by omega)
        have hna:¬ inB a' nb:=fun e=>by
          rcases hmine nb e with e | e
          · exact HNB () e
          · omega
        have hlen:(L++[(⟨xf,xt,xl,xg,xc,xs⟩:Pk)]).length=ln + 1:=by simp [hln]
        rw [hlen]
        have hl4:nb < w4.heap.size:=Nat.lt_of_lt_of_le hlt k24.size
        refine ⟨a',c',⟨by simpa using hl4,?_,?_,?_,hna⟩,⟨?_,?_,hmine⟩⟩
        · rw [hlen]; exact cell_set_self g0 _
        · rw [frozen_set]; exact g1
        · rw [hlen,pkcells_append,hls]
          have e1:pkcells [(⟨xf,xt,xl,xg,xc,xs⟩:Pk)]=[.int .i64 (xf:Int),.int .i64 (xt:Int),.slice (some ⟨xg,0,none⟩) xln xc,.bool xs]:=by simp [pkcells,pkcell,Pk.slice,hxl]
          rw [e1]
          exact hb4.keep ks (fun g hg e=>by rw [show g=nb from e] at hg; exact hna hg)
        · exact (k24.mono (fun _ _ e=>Or.inr e)).trans (ks.mono (fun _ _ e=>Or.inl e))
        · intro cells t hb
          exact (hb.keep k24 (HNB ())).set o _
      have hl4:nb < w4.heap.size:=Nat.lt_of_lt_of_le (by simp; omega) hk4.size
      clear hb4 hd4 hk4 d0 d1 y0 y1 y2 y3 HRW
      go_wp2
      go_end0
      exact ⟨rfl,HP ()⟩
  · have HE:Unit→badd L ⟨xf,xt,xl,xg,xc,xs⟩=L:=fun _=>by unfold badd; rw [if_neg hr]
    have hr2:L.length=300:=by omega
    rw [hr2] at hc
    clear h hl hr hr2
    go_enter Tryz.func120,Tryz.ntmps120
    go_wp2
    go_end0
    have hk1:Keep nil w (w.alloc (.cells #[.int .i64 (xf:Int),.int .i64 (xt:Int),.slice (some ⟨xg,0,none⟩) xl.length xc,.bool xs] 200)):=(Keep.refl nil w).alloc _
    have hB:=(H ()).1
    refine ⟨rfl,ba,bc,?_,?_⟩
    · rw [HE ()]
      exact ⟨Nat.lt_of_lt_of_le hB.lt hk1.size,(hk1.cell nb o hB.lt id).trans hB.cell,(hk1.frozen nb o hB.lt id).trans hB.frz,hB.row.keep hk1 (fun _ _ e=>e),hB.nb_⟩
    · rw [HE ()]
      exact ⟨hk1.mono (fun _ _ e=>e.elim),fun cells t hb=>by rw [blk_same hb hB.cell]; exact hb.keep hk1 id,fun i hi=>Or.inl hi⟩
end Go.Proofs.YtlfijfodklhplaaGreat
