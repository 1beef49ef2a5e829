import Derived.Test.YtlfijfodklhplaaGreatTn24
import Derived.Test.YtlfijfodklhplaaGreatTn23
import Derived.Test.YtlfijfodklhplaaGreatTn27
import Derived.Deep.DeepCutAuto
import Derived.Shelf.SlSortCmp.WholeK
import Derived.Shelf.SlLaysF0
import Derived.Test.YtlfijfodklhplaaGreatProg
set_option maxRecDepth 100000
set_option maxHeartbeats 4000000
set_option linter.unusedVariables false
set_option linter.unusedSimpArgs false
namespace Go.Proofs.YtlfijfodklhplaaGreat
open Go.RowKit
structure SEs(n:Nat)(es:List Ed):Prop where
 few:es.length≤30
 nat:∀e∈es,∃x y z:Nat,e=⟨(x:Int),(y:Int),(z:Int)⟩∧x<n∧y<n∧z≤1000
 rise:es.Pairwise (fun e f=>e.wt≤f.wt)
def freshS(es:List Ed)(k:Nat):AS:=⟨Nod.new (wts (ownE k es)),(ownE k es).map (fun e=>((e.a+e.b - (k:Int)).toNat,En.new))⟩
def AN.fresh(n:Nat)(es:List Ed):AN:=⟨es,(List.range n).map (freshS es),[]⟩
theorem fresh_at{n:Nat}{es:List Ed}{i:Nat}{s:AS}(h:(AN.fresh n es).sps[i]?=some s):i<n∧s=freshS es i:=by
 unfold AN.fresh at h
 simp only[List.getElem?_map,Option.map_eq_some_iff]at h
 obtain⟨j,hj,rfl⟩:=h
 obtain⟨h1,h2⟩:=List.getElem?_eq_some_iff.1 hj
 simp at h1 h2
 exact⟨h1,by rw[←h2]⟩
theorem fresh_get{n i:Nat}(es:List Ed)(h:i<n):(AN.fresh n es).sps[i]?=some (freshS es i):=by
 unfold AN.fresh
 simp[List.getElem?_map,h]
theorem mem_own{k:Nat}{es:List Ed}{e:Ed}:e∈ownE k es↔e∈es∧(e.a=(k:Int)∨e.b=(k:Int)):=by
 unfold ownE;rw[List.mem_filter,decide_eq_true_eq]
theorem fresh_shape{n:Nat}{es:List Ed}{i:Nat}{l:List Nat}(h:(AN.fresh n es).shape[i]?=some l):i<n∧l=(ownE i es).map (fun e=>(e.a+e.b - (i:Int)).toNat):=by
 unfold AN.shape at h
 rw[List.getElem?_map,Option.map_eq_some_iff]at h
 obtain⟨s,hs,rfl⟩:=h
 obtain⟨h1,rfl⟩:=fresh_at hs
 exact⟨h1,by simp[freshS,Function.comp_def]⟩
theorem fresh_shape_get{n i:Nat}(es:List Ed)(h:i<n):(AN.fresh n es).shape[i]?=some ((ownE i es).map (fun e=>(e.a+e.b - (i:Int)).toNat)):=by
 unfold AN.shape
 rw[List.getElem?_map,fresh_get es h]
 simp[freshS,Function.comp_def]
theorem own_len(k:Nat)(es:List Ed):(ownE k es).length≤es.length:=List.length_filter_le _ _
theorem wts_rise{k:Nat}{es:List Ed}(h:es.Pairwise (fun e f=>e.wt≤f.wt)):∀(i j:Nat) (e f:Nat),i<j→(wts (ownE k es))[i]?=some e→(wts (ownE k es))[j]?=some f→e≤f:=by
 intro i j e f hij he hf
 have h1:(ownE k es).Pairwise (fun e f=>e.wt≤f.wt):=h.sublist List.filter_sublist
 unfold wts at he hf
 rw[List.getElem?_map,Option.map_eq_some_iff]at he hf
 obtain⟨x,hx,rfl⟩:=he
 obtain⟨y,hy,rfl⟩:=hf
 rw[List.pairwise_iff_getElem]at h1
 obtain⟨a1,a2⟩:=List.getElem?_eq_some_iff.1 hx
 obtain⟨b1,b2⟩:=List.getElem?_eq_some_iff.1 hy
 have:=h1 i j a1 b1 hij
 rw[a2,b2]at this
 omega
theorem aok_fresh{n:Nat}{es:List Ed}(h:SEs n es)(hn:n≤10):AOk (AN.fresh n es) 0:=by
 have hfew:=h.few
 refine⟨by simp[AN.fresh];omega,?_,?_,?_,by simp[AN.fresh],?_,?_⟩
 ·intro i s hs
  obtain⟨hi,rfl⟩:=fresh_at hs
  have:=own_len i es
  refine⟨new_well _ (wts_rise h.rise) (by simp[wts];omega),by simp[freshS,Nod.new,wts],by simp[freshS,Nod.new]⟩
 ·intro i s hs j d hd
  obtain⟨hi,rfl⟩:=fresh_at hs
  simp only[freshS,List.getElem?_map,Option.map_eq_some_iff]at hd
  obtain⟨e,_,rfl⟩:=hd
  rfl
 ·intro i s hs j d hd
  obtain⟨hi,rfl⟩:=fresh_at hs
  simp only[freshS,List.getElem?_map,Option.map_eq_some_iff]at hd
  obtain⟨e,_,rfl⟩:=hd
  intro m hm
  simp[En.new]at hm
 ·intro x hx
  simp[AN.fresh]at hx
 ·intro i l t hl ht
  obtain⟨hi,rfl⟩:=fresh_shape hl
  obtain⟨e,he,rfl⟩:=List.mem_map.1 ht
  obtain⟨he,ho⟩:=mem_own.1 he
  obtain⟨x,y,z,rfl,hx,hy,hz⟩:=h.nat e he
  simp only at ho⊢
  have ht:((x:Int)+(y:Int) - (i:Int)).toNat<n:=by omega
  refine⟨_,fresh_shape_get es ht,List.mem_map.2 ⟨_,mem_own.2 ⟨he,?_⟩,?_⟩⟩
  ·simp only;omega
  ·simp only;omega
theorem ast_fresh(n:Nat)(es:List Ed):ASt (AN.fresh n es):=by
 intro i m hm
 unfold AN.nods at hm
 rw[List.getElem?_map,Option.map_eq_some_iff]at hm
 obtain⟨s,hs,rfl⟩:=hm
 obtain⟨_,rfl⟩:=fresh_at hs
 rfl
theorem eok_fresh{n:Nat}{es:List Ed}(h:SEs n es):EOk (AN.fresh n es):=by
 have hfew:=h.few
 refine⟨by simp[AN.fresh];omega,?_⟩
 intro e he
 have he:e∈es:=he
 obtain⟨x,y,z,rfl,hx,hy,hz⟩:=h.nat e he
 refine⟨x,y,rfl,rfl,⟨_,fresh_shape_get es hx,List.mem_map.2 ⟨_,mem_own.2 ⟨he,Or.inl rfl⟩,?_⟩⟩,⟨_,fresh_shape_get es hy,List.mem_map.2 ⟨_,mem_own.2 ⟨he,Or.inr rfl⟩,?_⟩⟩⟩
 ·simp only;omega
 ·simp only;omega
theorem ownE_yes(k:Nat){es:List Ed}{i:Nat}{e:Ed}(h:es[i]?=some e)(hk:e.a=(k:Int)∨e.b=(k:Int)):ownE k (es.take (i+1))=ownE k (es.take i)++[e]:=by
 unfold ownE
 rw[take_succ_get h,List.filter_append]
 simp[hk]
theorem ownE_no(k:Nat){es:List Ed}{i:Nat}{e:Ed}(h:es[i]?=some e)(hk:¬(e.a=(k:Int)∨e.b=(k:Int))):ownE k (es.take (i+1))=ownE k (es.take i):=by
 unfold ownE
 rw[take_succ_get h,List.filter_append]
 simp[hk]
theorem newSpot_any(k:Nat)(es:List Ed)(ea:Option Addr)(ec:Nat)(w:World)(hr:RV w 30 3 ea es.length ec (ecells es))(hel:(es.length:Int)≤900)(hk9:(k:Int)<1000)
 (hn:∀e∈es,∃x y z:Nat,e=⟨(x:Int),(y:Int),(z:Int)⟩∧(x:Int)<1000∧(y:Int)<1000∧(z:Int)≤1000):
 Calls Tryz.prog 61 #[.int .i64 (k:Int),.slice ea es.length ec] w fun r w'=>∃b p a c,r=.returned (.agg #[.pointer (some ⟨b,0,none⟩),.slice a (ownE k es).length c])∧NRep w' b (Nod.new (wts (ownE k es))) p∧RV w' 181 25 a (ownE k es).length c (sdcells ((ownE k es).map (mkSd k)))∧Keep nil w w'∧(∀g,NMine b p g→w.heap.size≤g∧¬inB a g)∧∀g,inB a g→w.heap.size≤g:=by
 have H:Unit→RV w 30 3 ea es.length ec (ecells es)∧(es.length:Int)≤900∧(∀e∈es,∃x y z:Nat,e=⟨(x:Int),(y:Int),(z:Int)⟩∧(x:Int)<1000∧(y:Int)<1000∧(z:Int)≤1000):=fun _=>⟨hr,hel,hn⟩
 clear hr hn
 go_enter Tryz.func61,Tryz.ntmps61
 go_wp2_with fail
 obtain⟨W0,hW0⟩:∃W0,W0=((w.alloc (Obj.cells #[.pointer none,.slice none 0 0] 125)).alloc (Obj.cells #[.pointer none,.slice none 0 0] 125)):=⟨_,rfl⟩
 obtain⟨rb,hrb⟩:∃rb,rb=w.heap.size:=⟨_,rfl⟩
 obtain⟨sb,hsb⟩:∃sb,sb=w.heap.size+1:=⟨_,rfl⟩
 have H0:Unit→NSp w W0 k [] rb sb none 0 none 0:=fun _=>by
  refine⟨by rw[hW0];exact((Keep.refl nil w).alloc _).alloc _,?_,?_,RV.nil _ _ _,RV.nil _ _ _,⟨by omega,by omega,by omega⟩,fun g hg=>(inB_none g hg).elim,fun g hg=>(inB_none g hg).elim⟩
  ·rw[hW0,hrb];exact(Blk.new w _ _).old _
  ·rw[hW0,hsb];exact Blk.new' _ _ _ _ (by simp)
 rw[←hW0,←hsb,←hrb]
 clear hW0 hrb hsb
 go_loopw [6,11] (fun u v wr=>∃(i:Nat) (a:Option Addr) (c:Nat) (wa:Option Addr) (wc:Nat),i≤es.length∧v=.int .i64 (i:Int)∧u=.slice wa (ownE k (es.take i)).length wc∧NSp w wr k (ownE k (es.take i)) rb sb a c wa wc) (fun _ v _=>es.length - (intOf v).toNat)
 case atStart=>exact⟨0,none,0,none,0,by omega,rfl,rfl,H0 ()⟩
 case round=>
  obtain⟨i,a,c,wa,wz,hi,rfl,rfl,hns⟩:=hrel
  have HQ:Unit→NSp w wr k (ownE k (es.take i)) rb sb a c wa wz∧i≤es.length:=fun _=>⟨hns,hi⟩
  have hol:(ownE k (es.take i)).length≤900:=by
   have h1:=List.length_filter_le (fun e:Ed=>decide (e.a=(k:Int)∨e.b=(k:Int))) (es.take i)
   rw[List.length_take]at h1
   have h2:(ownE k (es.take i)).length=(List.filter (fun e:Ed=>decide (e.a=(k:Int)∨e.b=(k:Int))) (es.take i)).length:=rfl
   omega
  obtain⟨fl,hfl⟩:∃fl,fl=(ownE k (es.take i)).length:=⟨_,rfl⟩
  have HFL:Unit→fl=(ownE k (es.take i)).length∧fl≤900:=fun _=>⟨hfl,by rw[hfl];exact hol⟩
  rw[←hfl]
  have s1:wr.cell? ⟨sb,1,none⟩=some (.slice a fl c):=by rw[hns.sblk.cell,hfl];rfl
  have f1:wr.frozen? ⟨sb,1,none⟩=false:=hns.sblk.frozen 1
  have hsl:=hns.sblk.lt
  by_cases hil:i<es.length
  ·have HIL:Unit→i<es.length:=fun _=>hil
   have hiI:(i:Int)<(es.length:Int):=by omega
   have hi9:(i:Int)<1000:=by omega
   obtain⟨e,he⟩:∃e,es[i]?=some e:=⟨_,List.getElem?_eq_getElem hil⟩
   obtain⟨g,q,hga,hgl,e0,e1,e2⟩:=edge_at ((H ()).1.keep hns.keep (fun _ _ e=>e)) he hil
   obtain⟨x,y,z,rfl,hx9,hy9,hz9⟩:=(H ()).2.2 e (List.mem_of_getElem? he)
   have HE:Unit→es[i]?=some ⟨(x:Int),(y:Int),(z:Int)⟩:=fun _=>he
   simp only at e0 e1 e2
   rw[hga]
   clear hi hil hns hfl hol he hga
   have HBX:Unit→(x:Int)<1000∧(y:Int)<1000∧(z:Int)≤1000∧(k:Int)<1000:=fun _=>⟨hx9,hy9,hz9,hk9⟩
   clear hx9 hy9 hz9 hk9 hel
   go_upto_region 6 with fail
   obtain⟨W3,hW3⟩:∃W3,W3=wr.alloc (Obj.cells #[.int .i64 (x:Int),.int .i64 (y:Int),.int .i64 (z:Int)] 30):=⟨_,rfl⟩
   have k3:Keep nil wr W3:=by rw[hW3];exact(Keep.refl nil wr).alloc _
   have hb3:Blk W3 wr.heap.size #[.int .i64 (x:Int),.int .i64 (y:Int),.int .i64 (z:Int)] 30:=by rw[hW3];exact Blk.new _ _ _
   rw[←hW3]
   obtain⟨yb,hyb⟩:∃yb,yb=wr.heap.size:=⟨_,rfl⟩
   rw[←hyb]at hb3⊢
   have x0:W3.cell? ⟨yb,0,none⟩=some (.int .i64 (x:Int)):=by rw[hb3.cell];rfl
   have x1:W3.cell? ⟨yb,1,none⟩=some (.int .i64 (y:Int)):=by rw[hb3.cell];rfl
   have x2:W3.cell? ⟨yb,2,none⟩=some (.int .i64 (z:Int)):=by rw[hb3.cell];rfl
   have hyl:yb<W3.heap.size:=hb3.lt
   have s3:=(k3.cell sb 1 hsl id).trans s1
   have f3:=(k3.frozen sb 1 hsl id).trans f1
   have hsl3:sb<W3.heap.size:=Nat.lt_of_lt_of_le hsl k3.size
   have HK3:Unit→Keep nil wr W3∧yb=wr.heap.size∧Blk W3 yb #[.int .i64 (x:Int),.int .i64 (y:Int),.int .i64 (z:Int)] 30:=fun _=>⟨k3,hyb,hb3⟩
   clear hW3 k3 hb3 hyb e0 e1 e2 hgl s1 f1 hsl
   obtain⟨bo,hbo⟩:∃bo:Bool,bo=((x:Int) != (k:Int)&&(y:Int) != (k:Int)):=⟨_,rfl⟩
   go_cut [24] (fun v wx=>v=.bool bo∧wx=W3)
   case first=>
    clear HQ H HFL HIL HE HBX HK3 s3 f3 hsl3 hiI
    go_wp2
    all_goals
     go_meet
     case rel=>exact⟨by simp_all,rfl⟩
   case rest=>
    obtain⟨rfl,hwx⟩:=hcut
    rw[hwx]
    clear hwx
    have HBO:Unit→bo=((x:Int) != (k:Int)&&(y:Int) != (k:Int)):=fun _=>hbo
    clear hbo
    cases bo with
    |true=>
     have HNO:Unit→¬((x:Int)=(k:Int)∨(y:Int)=(k:Int)):=fun _=>by
      have h1:=HBO ()
      intro h
      rcases h with h|h<;>rw[h]at h1<;>simp at h1
     clear x0 x1 x2 hyl s3 f3 hsl3
     go_wp2
     have hE:=ownE_no k (HE ()) (HNO ())
     refine⟨⟨i+1,a,c,wa,wz,by have:=HIL ();omega,by go_num,?_,by rw[hE];exact(HQ ()).1.keepN (HK3 ()).1⟩,by have:=HIL ();simp[intOf];omega⟩
     rw[hE,←(HFL ()).1]
    |false=>
     have HOW:Unit→((x:Int)=(k:Int)∨(y:Int)=(k:Int)):=fun _=>by
      have:=HBO ()
      rcases Classical.em ((x:Int)=(k:Int))with h|h
      ·exact Or.inl h
      ·rcases Classical.em ((y:Int)=(k:Int))with h2|h2
       ·exact Or.inr h2
       ·exfalso
        have e1:((x:Int) != (k:Int))=true:=by simpa using h
        have e2:((y:Int) != (k:Int))=true:=by simpa using h2
        rw[e1,e2]at this
        cases this
     have hxy:(x:Int)+(y:Int)<2000:=by have:=HBX ();omega
     have hxk:0≤(x:Int)+(y:Int) - (k:Int):=by have:=HOW ();omega
     have hxk9:(x:Int)+(y:Int) - (k:Int)<2000:=by have:=HBX ();omega
     have HR3:Unit→RV W3 181 25 a fl c (sdcells ((ownE k (es.take i)).map (mkSd k))):=fun _=>by rw[(HFL ()).1];exact(HQ ()).1.row.keep (HK3 ()).1 (fun _ _ e=>e)
     obtain⟨ls,hls⟩:∃ls,ls=sdcells ((ownE k (es.take i)).map (mkSd k)):=⟨_,rfl⟩
     rw[←hls]at HR3
     have HAB:Unit→(∀g,inB a g→g<wr.heap.size∧g≠sb):=fun _ g hg=>⟨(HQ ()).1.row.lt g hg,((HQ ()).1.new g hg).2.1⟩
     have HS4:Unit→∀(o:Obj) (w4:World),Keep (inB a) (W3.alloc o) w4→(∃u,w4.cell? ⟨sb,1,none⟩=some u)∧w4.frozen? ⟨sb,1,none⟩=false∧sb<w4.heap.size∧w4.cell? ⟨yb,2,none⟩=some (.int .i64 (z:Int))∧yb<w4.heap.size:=fun _ o w4 k4=>by
      have ka:Keep nil W3 (W3.alloc o):=(Keep.refl nil W3).alloc o
      have nsb:¬inB a sb:=fun e=>(HAB () sb e).2 rfl
      have nyb:¬inB a yb:=fun e=>by have:=(HAB () yb e).1;rw[(HK3 ()).2.1]at this;omega
      have h1:sb<(W3.alloc o).heap.size:=Nat.lt_of_lt_of_le hsl3 ka.size
      have h2:yb<(W3.alloc o).heap.size:=Nat.lt_of_lt_of_le hyl ka.size
      exact⟨⟨_,(k4.cell sb 1 h1 nsb).trans ((ka.cell sb 1 hsl3 id).trans s3)⟩,(k4.frozen sb 1 h1 nsb).trans ((ka.frozen sb 1 hsl3 id).trans f3),Nat.lt_of_lt_of_le h1 k4.size,(k4.cell yb 2 h2 nyb).trans ((ka.cell yb 2 hyl id).trans x2),Nat.lt_of_lt_of_le h2 k4.size⟩
     obtain⟨lw,hlw⟩:∃lw,lw=icells (wts (ownE k (es.take i))):=⟨_,rfl⟩
     have HWR:Unit→∀(o:Obj) (w4:World) (v:Value),Keep (inB a) (W3.alloc o) w4→RV (w4.setCell ⟨sb,1,none⟩ v) 3 1 wa fl wz lw:=fun _ o w4 v k4=>by
      have h0:=(HQ ()).1.wrow
      rw[←(HFL ()).1,←hlw]at h0
      exact((h0.keep ((HK3 ()).1.alloc o) (fun _ _ e=>e)).keep k4 (fun g hg e=>((HQ ()).1.wnew g hg).2.2.2 e)).keep ((Keep.refl (only sb) w4).setCell (p:=⟨sb,1,none⟩) (fun _=>rfl) v) (fun g hg e=>((HQ ()).1.wnew g hg).2.1 e)
     have HLS:Unit→ls=sdcells ((ownE k (es.take i)).map (mkSd k))∧lw=icells (wts (ownE k (es.take i))):=fun _=>⟨hls,hlw⟩
     have HNN:Unit→0≤(x:Int)+(y:Int) - (k:Int):=fun _=>hxk
     clear hls hlw
     go_wp2_with (first|(at_builtin;refine wpList_append_rvS _ rfl (.tmp 26) (.tmp 35) 123 rfl 181 (.agg #[.int .i64 0,.int .i64 0,.slice none 0 0,.int .i64 0,.int .i64 0,.int .i64 0,.int .i64 0,.bool false,.bool false,.int .i64 0,.int .i64 0,.int .i64 0,.bool false,.bool false,.int .i64 0,.int .i64 0,.int .i64 0,.bool false,.bool false,.int .i64 0,.int .i64 0,.int .i64 0,.bool false,.bool false,.slice none 0 0]) 25 232 Tryz.underlying123 side_info rfl a fl c rfl ls ((HR3 ()).alloc _) ⟨W3.heap.size,0,none⟩ 1 1 (by omega) rfl [.int .i64 ((x:Int)+(y:Int) - (k:Int)),.int .i64 0,.slice none 0 0,.int .i64 0,.int .i64 0,.int .i64 0,.int .i64 0,.bool false,.bool false,.int .i64 0,.int .i64 0,.int .i64 0,.bool false,.bool false,.int .i64 0,.int .i64 0,.int .i64 0,.bool false,.bool false,.int .i64 0,.int .i64 0,.int .i64 0,.bool false,.bool false,.slice none 0 0] rfl (cells_elist W3 [.int .i64 ((x:Int)+(y:Int) - (k:Int)),.int .i64 0,.slice none 0 0,.int .i64 0,.int .i64 0,.int .i64 0,.int .i64 0,.bool false,.bool false,.int .i64 0,.int .i64 0,.int .i64 0,.bool false,.bool false,.int .i64 0,.int .i64 0,.int .i64 0,.bool false,.bool false,.int .i64 0,.int .i64 0,.int .i64 0,.bool false,.bool false,.slice none 0 0] 181 _ rfl) (by intro u hu;simp only[List.mem_cons,List.not_mem_nil,or_false]at hu;rcases hu with rfl|rfl|rfl|rfl|rfl|rfl|rfl|rfl|rfl|rfl|rfl|rfl|rfl|rfl|rfl|rfl|rfl|rfl|rfl|rfl|rfl|rfl|rfl|rfl|rfl<;>rfl) (by have:=(HFL ()).2;omega) (by have:=(HFL ()).2;omega) ?_;intro a4 c4 w4 hb4 hd4 hk4;obtain⟨⟨u4,s4c⟩,s4f,s4l,y4c,y4l⟩:=HS4 () _ w4 hk4)|(at_builtin;refine wpList_append_rvS _ rfl (.tmp 38) (.tmp 41) 25 rfl 3 (.int .i64 0) 1 8 Tryz.underlying25 int_info rfl wa fl wz rfl lw ((HWR () _ w4 _ hk4).alloc _) ⟨w4.heap.size,0,none⟩ 1 1 (by omega) rfl [.int .i64 (z:Int)] rfl (cells_elist (w4.setCell ⟨sb,1,none⟩ (.slice a4 (fl+1) c4)) [.int .i64 (z:Int)] 3 _ (by simp)) (by intro u hu;simp at hu;rw[hu];rfl) (by have:=(HFL ()).2;omega) (by have:=(HFL ()).2;omega) ?_;intro a6 c6 w6 hb6 hd6 hk6))
     have hE:=ownE_yes k (HE ()) (HOW ())
     have etk:sdcell (mkSd k ⟨(x:Int),(y:Int),(z:Int)⟩)=[.int .i64 ((x:Int)+(y:Int) - (k:Int)),.int .i64 0,.slice none 0 0,.int .i64 0,.int .i64 0,.int .i64 0,.int .i64 0,.bool false,.bool false,.int .i64 0,.int .i64 0,.int .i64 0,.bool false,.bool false,.int .i64 0,.int .i64 0,.int .i64 0,.bool false,.bool false,.int .i64 0,.int .i64 0,.int .i64 0,.bool false,.bool false,.slice none 0 0]:=by
      show Value.int .i64 ((((x:Int)+(y:Int) - (k:Int)).toNat:Nat):Int)::En.new.cells Pl.new=_
      rw[Int.toNat_of_nonneg (HNN ()),cells_new]
     obtain⟨hfl0,hfl9⟩:=HFL ()
     subst hfl0
     have hN:=(HQ ()).1.next ⟨(x:Int),(y:Int),(z:Int)⟩ ((HK3 ()).1.alloc _) ((Keep.refl nil _).alloc _) (by rw[←(HLS ()).1,etk];exact hb4) hd4 hk4 (by rw[←(HLS ()).2];exact hb6) hd6 hk6
     refine⟨⟨i+1,a4,c4,a6,c6,by have:=HIL ();omega,by go_num,?_,by rw[hE];exact hN⟩,by have:=HIL ();simp[intOf];omega⟩
     rw[hE,List.length_append];rfl
  ·have HEI:Unit→i=es.length:=fun _=>by have:=(HQ ()).2;omega
   have hiI:¬((i:Int)<(es.length:Int)):=by omega
   have s0:wr.cell? ⟨sb,0,none⟩=some (.pointer none):=by rw[hns.sblk.cell];rfl
   have f0:wr.frozen? ⟨sb,0,none⟩=false:=hns.sblk.frozen 0
   have r0:wr.cell? ⟨rb,0,none⟩=some (.pointer none):=by rw[hns.rblk.cell];rfl
   have r1:wr.cell? ⟨rb,1,none⟩=some (.slice none 0 0):=by rw[hns.rblk.cell];rfl
   have g0:wr.frozen? ⟨rb,0,none⟩=false:=hns.rblk.frozen 0
   have g1:wr.frozen? ⟨rb,1,none⟩=false:=hns.rblk.frozen 1
   have hrl:=hns.rblk.lt
   have HNW:Unit→_:=fun _=>nodeNew_any (wts (ownE k (es.take i))) wa wz wr (by have h0:=hns.wrow;have e:(wts (ownE k (es.take i))).length=(ownE k (es.take i)).length:=(by simp[wts]);rw[e];exact h0) (by simp[wts];omega)
   have e1:(wts (ownE k (es.take i))).length=fl:=by rw[hfl];simp[wts]
   rw[e1]at HNW
   have hrs:¬rb=sb:=hns.fr.2.2
   clear hi hil hns hfl hol hel hk9 e1
   go_wp2_with fail
   refine Calls.mono (HNW ()) ?_
   rintro r w2 ⟨b,p,rfl,hnr,hk2,hnew⟩
   have s0':=(hk2.cell sb 0 hsl id).trans s0
   have s1':=(hk2.cell sb 1 hsl id).trans s1
   have f0':=(hk2.frozen sb 0 hsl id).trans f0
   have r0':=(hk2.cell rb 0 hrl id).trans r0
   have r1':=(hk2.cell rb 1 hrl id).trans r1
   have g0':=(hk2.frozen rb 0 hrl id).trans g0
   have g1':=(hk2.frozen rb 1 hrl id).trans g1
   have hsl2:sb<w2.heap.size:=Nat.lt_of_lt_of_le hsl hk2.size
   have hrl2:rb<w2.heap.size:=Nat.lt_of_lt_of_le hrl hk2.size
   have HR:Unit→NRep w2 b (Nod.new (wts (ownE k (es.take i)))) p∧Keep nil wr w2∧(∀g,NMine b p g→wr.heap.size≤g)∧sb<wr.heap.size∧rb<wr.heap.size∧¬rb=sb:=fun _=>⟨hnr,hk2,hnew,hsl,hrl,hrs⟩
   clear s0 s1 f0 f1 r0 r1 g0 g1 hsl hrl HNW hnr hk2 hnew hiI
   go_wp2
   obtain⟨W5,hW5⟩:∃W5,W5=(((w2.setCell ⟨sb,0,none⟩ (.pointer (some ⟨b,0,none⟩))).setCell ⟨rb,0,none⟩ (.pointer (some ⟨b,0,none⟩))).setCell ⟨rb,1,none⟩ (.slice a fl c)):=⟨_,rfl⟩
   have K5:Keep (fun g=>g=sb∨g=rb) w2 W5:=by
    rw[hW5]
    exact(((Keep.refl (fun g=>g=sb∨g=rb) w2).setCell (p:=⟨sb,0,none⟩) (fun _=>Or.inl rfl) _).setCell (p:=⟨rb,0,none⟩) (fun _=>Or.inr rfl) _).setCell (p:=⟨rb,1,none⟩) (fun _=>Or.inr rfl) _
   have B5:Blk W5 rb #[.pointer (some ⟨b,0,none⟩),.slice a fl c] 125:=by
    have h0:=((HQ ()).1.rblk.keep (HR ()).2.1 id)
    have h1:Blk (w2.setCell ⟨sb,0,none⟩ (.pointer (some ⟨b,0,none⟩))) rb #[.pointer none,.slice none 0 0] 125:=h0.keep ((Keep.refl (only sb) w2).setCell (p:=⟨sb,0,none⟩) (fun _=>rfl) _) (fun e=>(HR ()).2.2.2.2.2 e)
    have h2:=(h1.set 0 (.pointer (some ⟨b,0,none⟩))).set 1 (.slice a fl c)
    rw[←hW5]at h2
    exact h2
   rw[←hW5]
   have z0:W5.cell? ⟨rb,0,none⟩=some (.pointer (some ⟨b,0,none⟩)):=by rw[B5.cell];rfl
   have z1:W5.cell? ⟨rb,1,none⟩=some (.slice a fl c):=by rw[B5.cell];rfl
   clear s0' s1' f0' r0' r1' g0' g1' hsl2 hrl2 hW5 B5
   refine bodyPost_ret (v:=.agg #[.pointer (some ⟨b,0,none⟩),.slice a fl c]) (by simp[results,Tryz.results61,go_sem,z0,z1]) rfl ?_
   obtain⟨q1,q2,q3,q4,q5,q6⟩:=HR ()
   have hns:=(HQ ()).1
   have e0:ownE k (es.take i)=ownE k es:=by rw[HEI (),List.take_length]
   have e1:=(HFL ()).1
   rw[e0]at hns q1 e1
   refine⟨b,p,a,c,by rw[e1],q1.keep K5 (fun g hg e=>?_),?_,?_,fun g hg=>⟨Nat.le_trans hns.keep.size (q3 g hg),fun e=>?_⟩,fun g hg=>(hns.new g hg).1⟩
   ·have:=q3 g hg
    rcases e with e|e<;>omega
   ·exact(hns.row.keep q2 (fun _ _ e=>e)).keep K5 (fun g hg e=>by
     rcases e with e|e
     ·exact(hns.new g hg).2.1 e
     ·exact(hns.new g hg).2.2 e)
   ·exact(hns.keep.trans q2).trans' K5 (fun g hg e=>by
     have h1:=hns.fr
     rcases e with e|e<;>omega)
   ·have h1:=q3 g hg
    have h2:=hns.row.lt g e
    omega
theorem snoc_get{α:Type}{l:List α}{x y:α}{i:Nat}(h:(l++[x])[i]?=some y):(i<l.length∧l[i]?=some y)∨(i=l.length∧y=x):=by
 by_cases hi:i<l.length
 ·rw[List.getElem?_append_left hi]at h;exact Or.inl ⟨hi,h⟩
 ·rw[List.getElem?_append_right (by omega)]at h
  obtain⟨h1,h2⟩:=List.getElem?_eq_some_iff.1 h
  simp at h1 h2
  exact Or.inr ⟨by omega,h2.symm⟩
theorem RepL.new(w:World):RepL w En.new Pl.new where
 four:=rfl
 wrow:=RV.nil _ _ _
 orow:=RV.nil _ _ _
 gl:=rfl
 bufs:=fun i g f hg=>by simp[Pl.new]at hg
 wo:=fun k hk=>(inB_none k hk).elim
 gw:=fun k hk=>by simp[Pl.new]at hk
 gn:=List.nodup_nil
 wok:=fun m hm=>by simp[En.new]at hm
 most:=by simp[En.new]
 awt:=by simp[En.new]
 kn:=fun i m hm=>by
  match i,hm with
  |0,hm=>simp[En.new]at hm
  |1,hm=>simp[En.new]at hm
  |2,hm=>simp[En.new]at hm
  |3,hm=>simp[En.new]at hm
  |i+4,hm=>simp[En.new]at hm
 fok:=fun f hf=>by simp[En.new]at hf
def NwN(vb:Nat)(es:List Ed)(ea:Option Addr)(ec:Nat)(sps:List Sp)(pa:Option Addr)(pc:Nat):Nt:=⟨vb,87,es,ea,ec,sps,pa,pc,[],none,0,fun _=>False⟩
structure Nwk(w wr:World)(k vb:Nat)(es:List Ed)(ea:Option Addr)(ec:Nat)(sps:List Sp)(pa:Option Addr)(pc:Nat):Prop where
 keep:Keep nil w wr
 rep:NtR wr (NwN vb es ea ec sps pa pc)
 len:sps.length=k
 fresh:∀(i:Nat) (s:Sp),sps[i]?=some s→s.n=Nod.new (wts (ownE i es))∧s.ss=(ownE i es).map (mkSd i)
 new:∀g,(NwN vb es ea ec sps pa pc).Own g→w.heap.size≤g
theorem Nwk.start{w wr:World}{vb ec:Nat}{es:List Ed}{ea:Option Addr}(k:Keep nil w wr)(hv:w.heap.size≤vb)(hb:Blk wr vb #[.slice ea es.length ec,.slice none 0 0,.slice none 0 0] 87)(he:RV wr 30 3 ea es.length ec (ecells es))(hn:∀g,inB ea g→w.heap.size≤g∧g≠vb):Nwk w wr 0 vb es ea ec [] none 0 where
 keep:=k
 rep:=by
  refine⟨hb,he,RV.nil _ _ _,RV.nil _ _ _,fun x hx=>(by cases hx),List.Pairwise.nil,fun i s hs=>(by simp[NwN]at hs),fun i s hs=>(by simp[NwN]at hs),fun i s hs=>(by simp[NwN]at hs),fun g hg=>hg.elim,?_⟩
  have key:∀i g,(NwN vb es ea ec [] none 0).own i g→(i=.net∧g=vb)∨(i=.edges∧inB ea g):=by
   intro i g hg
   cases i with
   |net=>exact Or.inl ⟨rfl,hg⟩
   |edges=>exact Or.inr ⟨rfl,hg⟩
   |spots=>exact(inB_none g hg).elim
   |bag=>exact(inB_none g hg).elim
   |pks=>obtain⟨x,hx,_⟩:=hg;cases hx
   |way=>exact hg.elim
   |spot i a=>obtain⟨s,hs,_⟩:=hg;simp[NwN]at hs
  intro i j g hi hj
  rcases key i g hi with⟨rfl,e1⟩|⟨rfl,e1⟩
  ·rcases key j g hj with⟨rfl,e2⟩|⟨rfl,e2⟩
   ·rfl
   ·exact((hn g e2).2 e1).elim
  ·rcases key j g hj with⟨rfl,e2⟩|⟨rfl,e2⟩
   ·exact((hn g e1).2 e2).elim
   ·rfl
 len:=rfl
 fresh:=fun i s hs=>by simp at hs
 new:=by
  rintro g ⟨i,hw,hg⟩
  cases i with
  |net=>rw[show g=vb from hg];exact hv
  |edges=>exact(hn g hg).1
  |spots=>exact(inB_none g hg).elim
  |bag=>exact(inB_none g hg).elim
  |pks=>obtain⟨x,hx,_⟩:=hg;cases hx
  |way=>exact(hw rfl).elim
  |spot i a=>obtain⟨s,hs,_⟩:=hg;simp[NwN]at hs
theorem Nwk.next{w wr w1 w2 w4:World}{k vb ec pc pc':Nat}{es:List Ed}{ea pa pa':Option Addr}{sps:List Sp}(h:Nwk w wr k vb es ea ec sps pa pc){b:Nat}{p:Np}{a:Option Addr}{c:Nat}
 (hn:NRep w1 b (Nod.new (wts (ownE k es))) p) (hs:RV w1 181 25 a (ownE k es).length c (sdcells ((ownE k es).map (mkSd k)))) (k1:Keep nil wr w1) (n1:∀g,NMine b p g→wr.heap.size≤g∧¬inB a g) (n2:∀g,inB a g→wr.heap.size≤g)
 (k2:Keep nil w1 w2) (hp:RV w4 125 2 pa' (sps.length+1) pc' (spcells sps++[.pointer (some ⟨b,0,none⟩),.slice a (ownE k es).length c])) (hd:(pa'=pa∧pc'=pc)∨(pa'=some ⟨w2.heap.size,0,none⟩∧Keep nil w2 w4)) (k4:Keep (inB pa) w2 w4):
 Nwk w (w4.setCell ⟨vb,1,none⟩ (.slice pa' (sps.length+1) pc')) (k+1) vb es ea ec (sps++[⟨b,Nod.new (wts (ownE k es)),p,a,c,(ownE k es).map (mkSd k)⟩]) pa' pc':=by
 have hl:=h.len
 have hrep:=h.rep
 have hvl:vb<wr.heap.size:=hrep.blk.lt
 have s1:=k1.size
 have s2:=k2.size
 have s4:=k4.size
 have olt:∀i g,(NwN vb es ea ec sps pa pc).own i g→g<wr.heap.size:=hrep.lt
 have nsp:∀i g,i≠Pt.spots→(NwN vb es ea ec sps pa pc).own i g→¬inB pa g:=fun i g hi hg e=>hi (hrep.apart i .spots g hg e)
 have nvb:∀i g,i≠Pt.net→(NwN vb es ea ec sps pa pc).own i g→g≠vb:=fun i g hi hg e=>hi (hrep.apart i .net g hg e)
 have pal:∀g,inB pa g→g<wr.heap.size:=fun g hg=>olt .spots g hg
 have kk:Keep (inB pa) wr w4:=((k1.trans k2).mono (fun _ _ e=>e.elim)).trans k4
 obtain⟨w5,hw5⟩:∃w5,w5=w4.setCell ⟨vb,1,none⟩ (.slice pa' (sps.length+1) pc'):=⟨_,rfl⟩
 have k5:Keep (only vb) w4 w5:=by rw[hw5];exact(Keep.refl (only vb) w4).setCell (p:=⟨vb,1,none⟩) (fun _=>rfl) _
 rw[←hw5]
 have old:∀g,inB pa' g→inB pa g∨w2.heap.size≤g:=fun g hg=>by
  rcases hd with⟨e1,_⟩|⟨e1,_⟩
  ·rw[e1]at hg;exact Or.inl hg
  ·rw[e1]at hg;exact Or.inr (by rw[inB_some.1 hg];exact Nat.le_refl _)
 have pvb:∀g,inB pa' g→g≠vb:=fun g hg e=>by
  rcases old g hg with x|x
  ·exact nvb .spots g (by simp) x e
  ·omega
 have kA:Keep (fun g=>inB pa g∨g=vb) wr w5:=(kk.mono (fun i _ e=>Or.inl e)).trans' k5 (fun i _ e=>Or.inr e)
 have kB:Keep (fun g=>inB pa g∨g=vb) w1 w5:=(((k2.mono (fun _ _ e=>e.elim)).trans k4:Keep (inB pa) w1 w4).mono (fun i _ e=>Or.inl e)).trans' k5 (fun i _ e=>Or.inr e)
 have young:∀g,wr.heap.size≤g→¬(inB pa g∨g=vb):=fun g hg e=>by
  rcases e with e|e
  ·have:=pal g e;omega
  ·omega
 have far:∀i g,i≠Pt.spots→i≠Pt.net→(NwN vb es ea ec sps pa pc).own i g→¬(inB pa g∨g=vb):=fun i g h1 h2 hg e=>by
  rcases e with e|e
  ·exact nsp i g h1 hg e
  ·exact nvb i g h2 hg e
 have noE:∀(j:Nat) (d:Sd),((ownE k es).map (mkSd k))[j]?=some d→d.e=En.new∧d.p=Pl.new:=fun j d hd=>by
  rw[List.getElem?_map]at hd
  obtain⟨e,_,rfl⟩:=Option.map_eq_some_iff.1 hd
  exact⟨rfl,rfl⟩
 have noL:∀g,¬ELst Pl.new g:=fun g e=>by
  rcases e with e|e|e
  ·exact inB_none g e
  ·exact inB_none g e
  ·simp[Pl.new]at e
 have own0:∀i g,(NwN vb es ea ec (sps++[⟨b,Nod.new (wts (ownE k es)),p,a,c,(ownE k es).map (mkSd k)⟩]) pa' pc').own i g→(i≠.spots∧(∀q,i≠.spot sps.length q)∧(NwN vb es ea ec sps pa pc).own i g)∨(i=.spots∧inB pa' g)∨(i=.spot sps.length .node∧NMine b p g)∨(i=.spot sps.length .side∧inB a g):=by
  intro i g hg
  cases i with
  |net=>exact Or.inl ⟨by simp,by simp,hg⟩
  |edges=>exact Or.inl ⟨by simp,by simp,hg⟩
  |spots=>exact Or.inr (Or.inl ⟨rfl,hg⟩)
  |bag=>exact Or.inl ⟨by simp,by simp,hg⟩
  |pks=>exact Or.inl ⟨by simp,by simp,hg⟩
  |way=>exact hg.elim
  |spot i q=>
   obtain⟨s',hs',hg⟩:=hg
   rcases snoc_get hs' with⟨hi,h1⟩|⟨hi,h1⟩
   ·exact Or.inl ⟨by simp,fun q' e=>by cases e;omega,s',h1,hg⟩
   ·subst hi
    subst h1
    cases q with
    |node=>exact Or.inr (Or.inr (Or.inl ⟨rfl,hg⟩))
    |side=>exact Or.inr (Or.inr (Or.inr ⟨rfl,hg⟩))
    |ends j=>
     obtain⟨d,hd',hE⟩:=hg
     rw[(noE j d hd').2]at hE
     exact(noL g hE).elim
 refine⟨?_,?_,by simp[hl],?_,?_⟩
 ·exact h.keep.trans' kA (fun i hi e=>by
   rcases e with e|e
   ·have:=h.new i ⟨.spots,by simp,e⟩;omega
   ·have:=h.new vb ⟨.net,by simp,rfl⟩;omega)
 ·refine⟨?_,?_,?_,RV.nil _ _ _,fun x hx=>(by cases hx),List.Pairwise.nil,?_,?_,?_,fun g hg=>hg.elim,?_⟩
  ·have hb4:=hrep.blk.keep kk (nsp .net vb (by simp) rfl)
   have hb5:=hb4.set 1 (.slice pa' (sps.length+1) pc')
   rw[show (NwN vb es ea ec sps pa pc).nb=vb from rfl,←hw5]at hb5
   have e:(NwN vb es ea ec (sps++[⟨b,Nod.new (wts (ownE k es)),p,a,c,(ownE k es).map (mkSd k)⟩]) pa' pc').cells=((NwN vb es ea ec sps pa pc).cells).setIfInBounds 1 (.slice pa' (sps.length+1) pc'):=by simp[Nt.cells,NwN]
   rw[e]
   exact hb5
  ·exact hrep.erow.keep kA (fun g hg=>far .edges g (by simp) (by simp) hg)
  ·have h5:=hp.keep k5 (fun g hg e=>pvb g hg e)
   have e1:(NwN vb es ea ec (sps++[⟨b,Nod.new (wts (ownE k es)),p,a,c,(ownE k es).map (mkSd k)⟩]) pa' pc').sps.length=sps.length+1:=by simp[NwN]
   have e2:spcells (NwN vb es ea ec (sps++[⟨b,Nod.new (wts (ownE k es)),p,a,c,(ownE k es).map (mkSd k)⟩]) pa' pc').sps=spcells sps++[.pointer (some ⟨b,0,none⟩),.slice a (ownE k es).length c]:=by simp[NwN,spcells,spcell]
   rw[e1,e2]
   exact h5
  ·intro i s' hs'
   rcases snoc_get hs' with⟨hi,h1⟩|⟨hi,h1⟩
   ·exact(hrep.nods i s' h1).keep kA (fun g hg=>far (.spot i .node) g (by simp) (by simp) ⟨s',h1,hg⟩)
   ·subst h1
    exact hn.keep kB (fun g hg=>young g (n1 g hg).1)
  ·intro i s' hs'
   rcases snoc_get hs' with⟨hi,h1⟩|⟨hi,h1⟩
   ·exact(hrep.sides i s' h1).keep kA (fun g hg=>far (.spot i .side) g (by simp) (by simp) ⟨s',h1,hg⟩)
   ·subst h1
    have h5:=hs.keep kB (fun g hg=>young g (n2 g hg))
    simpa using h5
  ·intro i s' hs' j d hd'
   rcases snoc_get hs' with⟨hi,h1⟩|⟨hi,h1⟩
   ·exact(hrep.ends i s' h1 j d hd').keep kA (fun g hg=>far (.spot i (.ends j)) g (by simp) (by simp) ⟨s',h1,d,hd',hg⟩)
   ·subst h1
    obtain⟨q1,q2⟩:=noE j d hd'
    rw[q1,q2]
    exact RepL.new _
  ·intro i j g hi hj
   have nl:∀g,NMine b p g→g<w1.heap.size:=hn.lt
   have sl:∀g,inB a g→g<w1.heap.size:=hs.lt
   rcases own0 i g hi with⟨a1,a2,a3⟩|⟨rfl,a3⟩|⟨rfl,a3⟩|⟨rfl,a3⟩<;>rcases own0 j g hj with⟨b1,b2,b3⟩|⟨rfl,b3⟩|⟨rfl,b3⟩|⟨rfl,b3⟩
   ·exact hrep.apart i j g a3 b3
   ·rcases old g b3 with x|x
    ·exact(nsp i g a1 a3 x).elim
    ·have:=olt i g a3;omega
   ·have:=olt i g a3;have:=(n1 g b3).1;omega
   ·have:=olt i g a3;have:=n2 g b3;omega
   ·rcases old g a3 with x|x
    ·exact(nsp j g b1 b3 x).elim
    ·have:=olt j g b3;omega
   ·rfl
   ·have:=(n1 g b3).1;have:=nl g b3
    rcases old g a3 with x|x
    ·have:=pal g x;omega
    ·omega
   ·have:=n2 g b3;have:=sl g b3
    rcases old g a3 with x|x
    ·have:=pal g x;omega
    ·omega
   ·have:=olt j g b3;have:=(n1 g a3).1;omega
   ·have:=(n1 g a3).1;have:=nl g a3
    rcases old g b3 with x|x
    ·have:=pal g x;omega
    ·omega
   ·rfl
   ·exact((n1 g a3).2 b3).elim
   ·have:=olt j g b3;have:=n2 g a3;omega
   ·have:=n2 g a3;have:=sl g a3
    rcases old g b3 with x|x
    ·have:=pal g x;omega
    ·omega
   ·exact((n1 g b3).2 a3).elim
   ·rfl
 ·intro i s' hs'
  rcases snoc_get hs' with⟨hi,h1⟩|⟨hi,h1⟩
  ·exact h.fresh i s' h1
  ·subst h1
   rw[hi,hl]
   exact⟨rfl,rfl⟩
 ·rintro g ⟨i,hw,hg⟩
  have z:=h.keep.size
  rcases own0 i g hg with⟨a1,a2,a3⟩|⟨rfl,a3⟩|⟨rfl,a3⟩|⟨rfl,a3⟩
  ·exact h.new g ⟨i,hw,a3⟩
  ·rcases old g a3 with x|x
   ·exact h.new g ⟨.spots,by simp,x⟩
   ·omega
  ·have:=(n1 g a3).1;omega
  ·have:=n2 g a3;omega
theorem Nwk.abs{w wr:World}{k vb ec pc:Nat}{es:List Ed}{ea pa:Option Addr}{sps:List Sp}(h:Nwk w wr k vb es ea ec sps pa pc):(NwN vb es ea ec sps pa pc).abs=AN.fresh k es:=by
 unfold Nt.abs AN.fresh NwN
 simp only[List.map_nil,AN.mk.injEq,and_true,true_and]
 apply List.ext_getElem?
 intro i
 by_cases hi:i<k
 ·have hs:sps[i]?=some (sps[i]'(by rw[h.len];exact hi)):=List.getElem?_eq_getElem _
  obtain⟨f1,f2⟩:=h.fresh i _ hs
  rw[List.getElem?_map,List.getElem?_map,hs,List.getElem?_range hi]
  simp only[Option.map_some,Option.some.injEq]
  unfold Sp.abs freshS
  rw[f1,f2,List.map_map]
  rfl
 ·rw[List.getElem?_eq_none (by simp[h.len];omega),List.getElem?_eq_none (by simp;omega)]
theorem NtR.rebox{w w':World}{N:Nt}(h:NtR w N){nb:Nat}{ty:TypeId}(k:Keep nil w w')(hn:w.heap.size≤nb)(hb:Blk w' nb N.cells ty):NtR w' { N with nb:=nb,ty:=ty}:=by
 have h1:=h.keep k (fun _ _ e=>e)
 refine⟨hb,h1.erow,h1.prow,h1.brow,h1.pks,h1.pkn,h1.nods,h1.sides,h1.ends,h1.wayl,?_⟩
 refine apart_step (N:=N) (z:=w.heap.size) (fun i=>i=.net) h.apart h.lt ?_ ?_ ?_
 ·intro i hi g hg
  cases i with
  |net=>exact(hi rfl).elim
  |edges=>exact hg
  |spots=>exact hg
  |bag=>exact hg
  |pks=>exact hg
  |way=>exact hg
  |spot i a=>exact hg
 ·rintro i rfl g hg
  exact Or.inr (by rw[show g=nb from hg];exact hn)
 ·rintro i j g rfl rfl _ _;rfl
open Go.RowKit Go.Sort
instance:Inhabited Ed:=⟨⟨0,0,0⟩⟩
theorem ecells_size(l:List Ed):(ecells l).length=l.length * 3:=by
 induction l with
 |nil=>rfl
 |cons e t ih=>
  have:ecells (e::t)=e.cells++ecells t:=by simp[ecells]
  rw[this,List.length_append,ih]
  simp[Ed.cells];omega
theorem flat_ecells(l:List Ed):(flatK Ed.cells 3 l.toArray).toList=ecells l:=by
 apply List.ext_getElem?
 intro t
 by_cases h:t<l.length * 3
 ·have hk:t / 3<l.length:=by omega
  have hx:l[t / 3]?=some l[t / 3]:=List.getElem?_eq_getElem hk
  obtain⟨c0,c1,c2⟩:=ecells_get l (t / 3) _ hx
  have hs:t<(flatK Ed.cells 3 l.toArray).size:=by simpa using h
  have e1:(flatK Ed.cells 3 l.toArray).toList[t]?=some ((flatK Ed.cells 3 l.toArray)[t]!):=by
   rw[getElem!_pos _ t hs,Array.getElem?_toList,Array.getElem?_eq_getElem hs]
  have e2:l.toArray[t / 3]! =l[t / 3]:=by
   rw[getElem!_pos l.toArray (t / 3) (by simpa using hk)];simp
  rw[e1,get_flatK _ _ _ t (by simpa using h),e2]
  have h3:t % 3=0∨t % 3=1∨t % 3=2:=by omega
  rcases h3 with h3|h3|h3
  ·have:t=t / 3 * 3:=by omega
   rw[h3,show (ecells l)[t]?=(ecells l)[t / 3 * 3]? from by rw[←this],c0];rfl
  ·have:t=t / 3 * 3+1:=by omega
   rw[h3,show (ecells l)[t]?=(ecells l)[t / 3 * 3+1]? from by rw[←this],c1];rfl
  ·have:t=t / 3 * 3+2:=by omega
   rw[h3,show (ecells l)[t]?=(ecells l)[t / 3 * 3+2]? from by rw[←this],c2];rfl
 ·rw[List.getElem?_eq_none (by simp;omega),List.getElem?_eq_none (by rw[ecells_size];omega)]
theorem holds_edges{w:World}{g o c:Nat}{t:TypeId}{es:List Ed}(h:VBo w g o t 3 (ecells es) c):HoldsK Ed.cells 3 w g o es.toArray:=by
 intro j hj
 obtain⟨pre,sp,hb,_,_⟩:=id h
 have hs:(flatK Ed.cells 3 es.toArray)[j]?=some ((flatK Ed.cells 3 es.toArray)[j]!):=by
  rw[getElem!_pos _ j hj,Array.getElem?_eq_getElem hj]
 have h2:(ecells es)[j]?=some ((flatK Ed.cells 3 es.toArray)[j]!):=by
  rw[←flat_ecells,Array.getElem?_toList,hs]
 exact⟨h.cell j _ h2,hb.frozen _⟩
theorem put_row(pre vs vs' sp:List Value)(F:Array Value)(hF:F.toList=vs')(hl:vs'.length=vs.length):putCells id pre.length F (pre++vs++sp).toArray=(pre++vs'++sp).toArray:=by
 have hFs:F.size=vs.length:=by rw[←hl,←hF];simp
 unfold putCells
 apply Array.ext
 ·simp;omega
 ·intro k h1 h2
  simp only[Array.getElem_mapIdx,List.getElem_toArray]
  have hk:k<pre.length+vs.length+sp.length:=by simp at h1;omega
  by_cases ha:k<pre.length
  ·rw[if_neg (by omega),List.getElem_append_left (by simp;omega),List.getElem_append_left ha,List.getElem_append_left (by simp;omega),List.getElem_append_left ha]
  ·by_cases hb:k<pre.length+vs.length
   ·rw[if_pos ⟨by omega,by omega⟩]
    have hkF:k - pre.length<F.size:=by omega
    rw[getElem!_pos F _ hkF]
    rw[List.getElem_append_left (show k<(pre++vs').length by simp;omega),List.getElem_append_right (by omega)]
    subst hF
    simp
   ·rw[if_neg (by omega),List.getElem_append_right (by simp;omega),List.getElem_append_right (by simp;omega)]
    simp only[List.length_append,hl]
theorem sort_world{w:World}{g o c:Nat}{t:TypeId}{es es':List Ed}(h:VBo w g o t 3 (ecells es) c)(hl:es'.length=es.length)(n:Nat)(os:Array Obj):
 VBo (sortWorldK Ed.cells 3 w g o n es'.toArray os) g o t 3 (ecells es') c∧Keep (only g) w (sortWorldK Ed.cells 3 w g o n es'.toArray os):=by
 obtain⟨pre,sp,hb,ho,hc⟩:=h
 have hgl:=hb.lt
 have hsz:(putRow id (Sort.ahead w n) g o (flatK Ed.cells 3 es'.toArray)).heap.size=w.heap.size:=by rw[size_putRow];rfl
 refine⟨⟨pre,sp,?_,ho,?_⟩,?_⟩
 ·unfold Blk at hb⊢
  unfold sortWorldK grow putRowK
  simp only
  rw[Array.getElem?_append_left (by rw[hsz];exact hgl)]
  unfold putRow mapBlock
  simp only
  have hah:(Sort.ahead w n).heap=w.heap:=rfl
  rw[hah,Array.getElem?_modify,if_pos rfl,hb]
  simp only[Option.map_some,onCells]
  rw[←ho,put_row pre (ecells es) (ecells es') sp _ (flat_ecells es') (by rw[ecells_size,ecells_size,hl])]
 ·rw[ecells_size,hl];rw[ecells_size]at hc;exact hc
 ·refine⟨rfl,rfl,rfl,?_,?_⟩
  ·unfold sortWorldK grow putRowK
   simp only[Array.size_append,hsz]
   omega
  ·intro k hk hn
   unfold sortWorldK grow putRowK
   simp only
   rw[Array.getElem?_append_left (by rw[hsz];exact hk)]
   unfold putRow mapBlock
   simp only
   have hah:(Sort.ahead w n).heap=w.heap:=rfl
   rw[hah,Array.getElem?_modify,if_neg (fun e=>hn e.symm)]
def cfw(x y:Ed):Int:=Lib.compareInt x.wt y.wt
theorem ltw(x y:Ed):ltOf cfw x y=decide (x.wt<y.wt):=by
 unfold ltOf cfw Lib.compareInt
 by_cases h1:x.wt<y.wt
 ·simp[h1]
 ·by_cases h2:y.wt<x.wt<;>simp[h1,h2]
theorem swow:SWO (ltOf cfw) where
 irrefl x:=by rw[ltw];simp
 trans x y z h1 h2:=by rw[ltw]at *;simp at *;omega
 ntrans x y z h1 h2:=by rw[ltw]at *;simp at *;omega
def srt(es:List Ed):List Ed:=(pdq (ltOf cfw) es.toArray 0 es.toArray.size (Lib.bitLen es.toArray.size) true true).toList
theorem srt_arr(es:List Ed):(srt es).toArray=pdq (ltOf cfw) es.toArray 0 es.toArray.size (Lib.bitLen es.toArray.size) true true:=by unfold srt;simp
theorem srt_ok(es:List Ed):PermIn 0 es.toArray.size es.toArray (srt es).toArray∧SortedIn (ltOf cfw) 0 es.toArray.size (srt es).toArray:=by
 rw[srt_arr]
 exact pdq_sorts (ltOf cfw) swow es.toArray 0 es.toArray.size (Lib.bitLen es.toArray.size) true true (Nat.zero_le _) (Nat.le_refl _) (Or.inl rfl)
theorem srt_perm(es:List Ed):(srt es).Perm es:=by
 obtain⟨⟨h1,_,h2⟩,_⟩:=srt_ok es
 have e1:((srt es).toArray.extract 0 es.toArray.size).toList=srt es:=by rw[←h1];simp
 have e2:(es.toArray.extract 0 es.toArray.size).toList=es:=by simp
 rw[e1,e2]at h2
 exact h2
theorem srt_len(es:List Ed):(srt es).length=es.length:=(srt_perm es).length_eq
theorem srt_rise(es:List Ed):(srt es).Pairwise (fun e f=>e.wt≤f.wt):=by
 rw[List.pairwise_iff_getElem]
 intro i j hi hj hij
 have h:=(srt_ok es).2 i j (Nat.zero_le _) hij (by rw[srt_len]at hj;simpa using hj)
 rw[ltw,getElem!_pos (srt es).toArray j (by simpa using hj),getElem!_pos (srt es).toArray i (by simpa using hi)]at h
 simp at h
 exact h
theorem chk0_parts{n:Int}{es:List Ed}(h:Chk n es 0):¬BadSize n es∧¬BadEdge n es∧¬BadW es:=by
 have h1:¬BadSize n es:=fun e=>by have:=h.1 e;omega
 have h2:¬BadEdge n es:=fun e=>by have:=(h.2 h1).1 e;omega
 exact⟨h1,h2,fun e=>by have:=((h.2 h1).2 h2).1 e;omega⟩
theorem srt_ses{n:Nat}{es:List Ed}(h:Chk (n:Int) es 0):SEs n (srt es)∧1≤n∧n≤10:=by
 obtain⟨h1,h2,h3⟩:=chk0_parts h
 unfold BadSize at h1
 refine⟨⟨by rw[srt_len];omega,fun e he=>?_,srt_rise es⟩,by omega,by omega⟩
 have hm:e∈es:=(srt_perm es).mem_iff.1 he
 have hs:¬Stray (n:Int) e:=fun x=>h2 ⟨e,hm,x⟩
 have hw:¬Heavy e:=fun x=>h3 (Or.inl ⟨e,hm,x⟩)
 unfold Stray at hs
 unfold Heavy at hw
 obtain⟨a,b,c⟩:=e
 simp only at hs hw
 refine⟨a.toNat,b.toNat,c.toNat,?_,by omega,by omega,by omega⟩
 rw[Int.toNat_of_nonneg (by omega),Int.toNat_of_nonneg (by omega),Int.toNat_of_nonneg (by omega)]
open Go.Shelf
def sortE_ren:Go.Shelf.Ren:=⟨fun|6=>58|15=>105|14=>104|28=>157|29=>158|20=>149|21=>150|22=>151|23=>152|24=>153|25=>154|26=>155|27=>156|46=>187|47=>188|48=>189|49=>190|50=>191|57=>221|n=>n,fun|22=>26|24=>30|25=>121|3=>3|39=>179|0=>0|53=>249|55=>251|4=>4|46=>242|45=>241|50=>246|5=>5|9=>9|66=>295|70=>299|76=>335|77=>336|n=>n,fun|n=>n⟩
theorem sortE:Go.Proofs.SlLaysF0.n6 Tryz.prog sortE_ren:= {
 mixed:=by kernel_rfl
 f6:=⟨Tryz.f58.name,by decide,Tryz.func58.trans (congrArg some (by kernel_rfl))⟩
 f14:=⟨Tryz.f104.name,by decide,Tryz.func104.trans (congrArg some (by kernel_rfl))⟩
 f15:=Tryz.func105.trans (congrArg some (by kernel_rfl))
 f20:=⟨Tryz.f149.name,by decide,Tryz.func149.trans (congrArg some (by kernel_rfl))⟩
 f21:=⟨Tryz.f150.name,by decide,Tryz.func150.trans (congrArg some (by kernel_rfl))⟩
 f22:=⟨Tryz.f151.name,by decide,Tryz.func151.trans (congrArg some (by kernel_rfl))⟩
 f23:=⟨Tryz.f152.name,by decide,Tryz.func152.trans (congrArg some (by kernel_rfl))⟩
 f24:=⟨Tryz.f153.name,by decide,Tryz.func153.trans (congrArg some (by kernel_rfl))⟩
 f25:=⟨Tryz.f154.name,by decide,Tryz.func154.trans (congrArg some (by kernel_rfl))⟩
 f26:=⟨Tryz.f155.name,by decide,Tryz.func155.trans (congrArg some (by kernel_rfl))⟩
 f27:=⟨Tryz.f156.name,by decide,Tryz.func156.trans (congrArg some (by kernel_rfl))⟩
 f28:=Tryz.func157.trans (congrArg some (by kernel_rfl))
 f29:=Tryz.func158.trans (congrArg some (by kernel_rfl))
 f46:=⟨Tryz.f187.name,by decide,Tryz.func187.trans (congrArg some (by kernel_rfl))⟩
 f47:=Tryz.func188.trans (congrArg some (by kernel_rfl))
 f48:=Tryz.func189.trans (congrArg some (by kernel_rfl))
 f49:=⟨Tryz.f190.name,by decide,Tryz.func190.trans (congrArg some (by kernel_rfl))⟩
 f50:=⟨Tryz.f191.name,by decide,Tryz.func191.trans (congrArg some (by kernel_rfl))⟩
 f57:=⟨Tryz.f221.name,by decide,Tryz.func221.trans (congrArg some (by kernel_rfl))⟩
 t0:=Tryz.underlying0
 a0:=Tryz.isAgg0
 z0:=Tryz.sizeOf0
 v0:=Tryz.zeroValue0
 t3:=Tryz.underlying3
 a3:=Tryz.isAgg3
 z3:=Tryz.sizeOf3
 v3:=Tryz.zeroValue3
 t4:=Tryz.underlying4
 a4:=Tryz.isAgg4
 z4:=Tryz.sizeOf4
 v4:=Tryz.zeroValue4
 t5:=Tryz.underlying5
 a5:=Tryz.isAgg5
 z5:=Tryz.sizeOf5
 v5:=Tryz.zeroValue5
 t9:=Tryz.underlying9
 a9:=Tryz.isAgg9
 z9:=Tryz.sizeOf9
 v9:=Tryz.zeroValue9
 t22:=Tryz.underlying26
 a22:=Tryz.isAgg26
 z22:=Tryz.sizeOf26
 v22:=Tryz.zeroValue26
 t25:=Tryz.underlying121
 a25:=Tryz.isAgg121
 z25:=Tryz.sizeOf121
 v25:=Tryz.zeroValue121
 t39:=Tryz.underlying179
 a39:=Tryz.isAgg179
 z39:=Tryz.sizeOf179
 v39:=Tryz.zeroValue179
 t45:=Tryz.underlying241
 a45:=Tryz.isAgg241
 z45:=Tryz.sizeOf241
 v45:=Tryz.zeroValue241
 t46:=Tryz.underlying242
 a46:=Tryz.isAgg242
 z46:=Tryz.sizeOf242
 v46:=Tryz.zeroValue242
 t50:=Tryz.underlying246
 a50:=Tryz.isAgg246
 z50:=Tryz.sizeOf246
 v50:=Tryz.zeroValue246
 t53:=Tryz.underlying249
 a53:=Tryz.isAgg249
 z53:=Tryz.sizeOf249
 v53:=Tryz.zeroValue249
 t55:=Tryz.underlying251
 a55:=Tryz.isAgg251
 z55:=Tryz.sizeOf251
 v55:=Tryz.zeroValue251
 t66:=Tryz.underlying295
 a66:=Tryz.isAgg295
 z66:=Tryz.sizeOf295
 v66:=Tryz.zeroValue295
 t70:=Tryz.underlying299
 a70:=Tryz.isAgg299
 z70:=Tryz.sizeOf299
 v70:=Tryz.zeroValue299
 t76:=Tryz.underlying335
 a76:=Tryz.isAgg335
 z76:=Tryz.sizeOf335
 v76:=Tryz.zeroValue335
 t77:=Tryz.underlying336
 a77:=Tryz.isAgg336
 z77:=Tryz.sizeOf336
 v77:=Tryz.zeroValue336}
end Go.Proofs.YtlfijfodklhplaaGreat
