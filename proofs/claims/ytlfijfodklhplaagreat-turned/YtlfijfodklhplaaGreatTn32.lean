import Derived.Test.YtlfijfodklhplaaGreatTn29
import Derived.Test.YtlfijfodklhplaaGreatTn31
set_option maxRecDepth 100000
set_option maxHeartbeats 4000000
set_option linter.unusedVariables false
set_option linter.unusedSimpArgs false
namespace Go.Proofs.YtlfijfodklhplaaGreat
open Go.RowKit
theorem spot_info:(Tryz.prog.info? 125).map (fun i=>(i.zero,i.size,i.bytes))=some (some (.agg #[.pointer none,.slice none 0 0]),2,32):=by kernel_rfl
theorem meshNew_any(n:Nat)(es:List Ed)(sa:Option Addr)(cp:Nat)(w:World)(hsl:ESl w sa es)(hcp:es.length≤cp)(hnl:(sa=none∧cp=0)∨es≠[])(hck:Chk (n:Int) es 0):
 Calls Tryz.prog 30 #[.int .i64 (n:Int),.slice sa es.length cp] w fun r w'=>∃vb ea ec sps pa pc,r=.returned (.tuple #[.agg #[.slice ea (srt es).length ec,.slice pa sps.length pc,.slice none 0 0],.int .i64 0])∧Nwk w w' n vb (srt es) ea ec sps pa pc:=by
 have H:Unit→ESl w sa es∧Chk (n:Int) es 0∧((sa=none∧cp=0)∨es≠[]):=fun _=>⟨hsl,hck,hnl⟩
 have HC:Unit→∀w1,Keep nil w w1→Calls Tryz.prog 29 #[.int .i64 (n:Int),.slice sa es.length cp] w1 fun r w'=>r=.returned (.int .i64 0)∧Keep nil w1 w':=fun _ w1 k1=>by
  refine(graphCheck_any n sa es cp w1 (hsl.keep k1) hcp).mono ?_
  rintro r w' ⟨z,rfl,hz,hk⟩
  rw[Chk.uniq hz hck]
  exact⟨rfl,hk⟩
 have HCL:Unit→∀w1,Keep nil w w1→Calls Tryz.prog 57 #[.slice sa es.length cp] w1 fun r w'=>∃a' c',r=.returned (.slice a' es.length c')∧RV w' 30 3 a' es.length c' (ecells es)∧Keep nil w1 w'∧∀i,inB a' i→w1.heap.size≤i:=fun _ w1 k1=>by
  have hsm:(es.length:Int)<1000:=by
   have:=(chk0_parts hck).1
   unfold BadSize at this
   omega
  rcases hnl with⟨h1,h2⟩|h1
  ·have he:es=[]:=by
    rcases hsl with h|⟨bb,bo,h,_⟩
    ·exact h
    ·rw[h1]at h;cases h
   subst h1
   subst h2
   subst he
   refine(cloneE_nil w1).mono ?_
   rintro r w' ⟨rfl,rfl⟩
   exact⟨none,0,rfl,RV.nil _ _ _,Keep.refl nil _,fun i hi=>(inB_none i hi).elim⟩
  ·have h0:0<es.length:=List.length_pos_iff.2 h1
   rcases hsl.keep k1 with h|⟨bb,bo,h,h3,h4⟩
   ·exact(h1 h).elim
   ·rw[h]
    exact cloneE_some bb bo cp es w1 h4 h3 h0 hsm
 have HSO:Unit→∀(w1:World) (a:Option Addr) (c:Nat),RV w1 30 3 a es.length c (ecells es)→Calls Tryz.prog 58 #[.slice a es.length c,.func (.func 59) #[] #[]] w1 fun r w'=>r=.returned (.tuple #[])∧RV w' 30 3 a es.length c (ecells (srt es))∧Keep (inB a) w1 w':=fun _ w1 a c hr=>by
  have hsm:(es.length:Int)<1000:=by
   have:=(chk0_parts hck).1
   unfold BadSize at this
   omega
  by_cases h0:0<es.length
  ·obtain⟨g,o,rfl,hv⟩:=rv_pos hr h0
   refine(sortE_some g o c es w1 hv hsm c).mono ?_
   rintro r w' ⟨rfl,h1,h2⟩
   exact⟨rfl,⟨by rw[ecells_len,srt_len],hr.2.1,Or.inr ⟨g,o,rfl,h1⟩⟩,h2.mono (fun i _ e=>by rw[show i=g from e];exact inB_self _ _)⟩
  ·have he:es=[]:=List.eq_nil_of_length_eq_zero (by omega)
   have hs:srt es=[]:=List.eq_nil_of_length_eq_zero (by rw[srt_len];omega)
   rw[hs]
   rw[he]at hr⊢
   refine(sortE_nil a c _ w1).mono ?_
   rintro r w' ⟨rfl,rfl⟩
   exact⟨rfl,hr,Keep.refl _ _⟩
 obtain⟨h1,h2,h3⟩:=srt_ses hck
 obtain⟨es2,hes2⟩:∃es2,es2=srt es:=⟨_,rfl⟩
 have hl2:es.length=es2.length:=by rw[hes2,srt_len]
 rw[←hes2]at h1 HSO
 rw[hl2]at HC HCL HSO⊢
 rw[←hes2]
 have HE:Unit→SEs n es2∧1≤n∧n≤10:=fun _=>⟨h1,h2,h3⟩
 clear hsl hcp hck hnl h1 h2 h3 hes2 hl2 H
 go_enter Tryz.func30,Tryz.ntmps30
 go_wp2_with fail
 obtain⟨W1,hW1⟩:∃W1,W1=w.alloc (.cells #[.slice none 0 0,.slice none 0 0,.slice none 0 0] 87):=⟨_,rfl⟩
 obtain⟨rb,hrb⟩:∃rb,rb=w.heap.size:=⟨_,rfl⟩
 have K1:Unit→Keep nil w W1∧rb=w.heap.size∧Blk W1 rb #[.slice none 0 0,.slice none 0 0,.slice none 0 0] 87:=fun _=>⟨by rw[hW1];exact(Keep.refl nil w).alloc _,hrb,by rw[hW1,hrb];exact Blk.new _ _ _⟩
 rw[←hW1,←hrb]
 clear hW1 hrb
 refine Calls.mono (HC () W1 (K1 ()).1) ?_
 rintro r w2 ⟨rfl,k2⟩
 have K2:Unit→Keep nil W1 w2:=fun _=>k2
 clear k2 HC
 go_wp2_with fail
 refine Calls.mono (HCL () w2 ((K1 ()).1.trans (K2 ()))) ?_
 rintro r w3 ⟨ea,ec,rfl,hr3,k3,n3⟩
 have K3:Unit→RV w3 30 3 ea es2.length ec (ecells es)∧Keep nil w2 w3∧∀i,inB ea i→w2.heap.size≤i:=fun _=>⟨hr3,k3,n3⟩
 clear hr3 k3 n3 HCL
 go_wp2_with fail
 obtain⟨W4,hW4⟩:∃W4,W4=w3.alloc (.cells #[.slice ea es2.length ec,.slice none 0 0,.slice none 0 0] 87):=⟨_,rfl⟩
 obtain⟨vb,hvb⟩:∃vb,vb=w3.heap.size:=⟨_,rfl⟩
 have K4:Unit→Keep nil w3 W4∧vb=w3.heap.size∧Blk W4 vb #[.slice ea es2.length ec,.slice none 0 0,.slice none 0 0] 87:=fun _=>⟨by rw[hW4];exact(Keep.refl nil w3).alloc _,hvb,by rw[hW4,hvb];exact Blk.new _ _ _⟩
 rw[←hW4,←hvb]
 clear hW4 hvb
 refine Calls.mono (HSO () W4 ea ec ((K3 ()).1.keep (K4 ()).1 (fun _ _ e=>e))) ?_
 rintro r w5 ⟨rfl,hr5,k5⟩
 have H5:Unit→Nwk W1 w5 0 vb es2 ea ec [] none 0:=fun _=>by
  obtain⟨a1,a2,a3⟩:=K3 ()
  obtain⟨b1,b2,b3⟩:=K4 ()
  have c1:=(K2 ()).size
  have c2:=a2.size
  have nv:¬inB ea vb:=fun e=>by have:=a1.lt vb e;omega
  have kk:Keep nil W1 w5:=(((K2 ()).trans a2).trans b1).trans' k5 (fun i hi e=>by have:=a3 i e;omega)
  refine Nwk.start kk (by omega) (b3.keep k5 nv) hr5 (fun g hg=>⟨by have:=a3 g hg;omega,fun e=>nv (by rw[←e];exact hg)⟩)
 clear hr5 k5 HSO K3 K4 K2
 go_wp2_with fail
 go_loopw [23] (fun v wr=>∃(k:Nat) (sps:List Sp) (pa:Option Addr) (pc:Nat),k≤n∧v=.int .i64 (k:Int)∧Nwk W1 wr k vb es2 ea ec sps pa pc) (fun v _=>n - (intOf v).toNat)
 case atStart=>exact⟨0,[],none,0,Nat.zero_le _,rfl,H5 ()⟩
 case round=>
  obtain⟨k,sps,pa,pc,hk,rfl,hw⟩:=hrel
  have HQ:Unit→Nwk W1 wr k vb es2 ea ec sps pa pc∧k≤n:=fun _=>⟨hw,hk⟩
  have hsl:sps.length=k:=hw.len
  have c0:wr.cell? ⟨vb,0,none⟩=some (.slice ea es2.length ec):=by
   have:=hw.rep.blk.cell 0
   simpa [NwN,Nt.cells]using this
  have c1:wr.cell? ⟨vb,1,none⟩=some (.slice pa k pc):=by
   have:=hw.rep.blk.cell 1
   simpa [NwN,Nt.cells,hsl]using this
  have c2:wr.cell? ⟨vb,2,none⟩=some (.slice none 0 0):=by
   have:=hw.rep.blk.cell 2
   simpa [NwN,Nt.cells]using this
  have z1:wr.frozen? ⟨vb,1,none⟩=false:=hw.rep.blk.frozen 1
  have hvl:vb<wr.heap.size:=hw.rep.blk.lt
  have hkn:(k:Int)≤10:=by have:=HE ();omega
  clear hw
  by_cases hlt:k<n
  ·have HLT:Unit→k<n:=fun _=>hlt
   have hltI:(k:Int)<(n:Int):=by omega
   have HNS:Unit→∀w1,Keep nil wr w1→_:=fun _ w1 k1=>newSpot_any k es2 ea ec w1 (((HQ ()).1.rep.keep k1 (fun _ _ e=>e)).erow) (by have:=(HE ()).1.few;omega) (by omega) (fun e he=>by
    obtain⟨x,y,z,rfl,h1,h2,h3⟩:=(HE ()).1.nat e he
    have:=HE ()
    exact⟨x,y,z,rfl,by omega,by omega,by omega⟩)
   have HRW:Unit→∀w1,Keep nil wr w1→RV w1 125 2 pa k pc (spcells sps):=fun _ w1 k1=>by
    have:=((HQ ()).1.rep.keep k1 (fun _ _ e=>e)).prow
    rw[←hsl]
    exact this
   have HYA:Unit→¬inB pa vb:=fun _ e=>by
    have:=(HQ ()).1.rep.apart .net .spots vb rfl e
    cases this
   obtain⟨ls,hls⟩:∃ls,ls=spcells sps:=⟨_,rfl⟩
   rw[←hls]at HRW
   have HLS:Unit→ls=spcells sps∧sps.length=k:=fun _=>⟨hls,hsl⟩
   obtain⟨sl,hsl2⟩:∃sl,sl=(ownE k es2).length:=⟨_,rfl⟩
   have HSL:Unit→sl=(ownE k es2).length:=fun _=>hsl2
   rw[←hsl2]at HNS
   clear hlt hk hls hsl hsl2
   go_wp2_with fail
   go_region_law (first
    |(refine step_append_rvS rfl (.tmp 27) (.tmp 32) 83 rfl 125 (.agg #[.pointer none,.slice none 0 0]) 2 32 Tryz.underlying83 spot_info rfl pa k pc (by simp[Act.eval,Act.put]) ls ((HRW () w3 (((Keep.refl nil wr).drew).trans hk3)).alloc _) ⟨w3.heap.size,0,none⟩ 1 1 (by omega) rfl [.pointer (some ⟨b,0,none⟩),.slice a sl c] rfl (cells_elist w3 [.pointer (some ⟨b,0,none⟩),.slice a sl c] 125 _ rfl) (by intro u hu;simp at hu;rcases hu with rfl|rfl<;>rfl) (by omega) (by omega) ?_;intro a' c' w4 hb4 hd4 hk4;have g0:=((((Keep.refl nil w3).alloc _).mono (fun _ _ e=>e.elim)).trans hk4).cell vb 1 (Nat.lt_of_lt_of_le hvl hk3.size) (HYA ());have g1:=((((Keep.refl nil w3).alloc _).mono (fun _ _ e=>e.elim)).trans hk4).frozen vb 1 (Nat.lt_of_lt_of_le hvl hk3.size) (HYA ());rw[d0]at g0;rw[d1]at g1)
    |(go_simp;go_at_call 61;refine(HNS () _ ((Keep.refl nil wr).drew)).mono ?_;rintro r w3 ⟨b,p,a,c,rfl,q1,q2,hk3,q4,q5⟩;have d0:=(hk3.cell vb 1 hvl (fun e=>e)).trans c1;have d1:=(hk3.frozen vb 1 hvl (fun e=>e)).trans z1;have hv3:vb<w3.heap.size:=Nat.lt_of_lt_of_le hvl hk3.size))
   all_goals
    have HN:Unit→Nwk W1 (w4.setCell ⟨vb,1,none⟩ (.slice a' (k+1) c')) (k+1) vb es2 ea ec (sps++[⟨b,Nod.new (wts (ownE k es2)),p,a,c,(ownE k es2).map (mkSd k)⟩]) a' c':=fun _=>by
     obtain⟨l1,l2⟩:=HLS ()
     have l3:=HSL ()
     subst l1
     subst l3
     have h1:=(HQ ()).1.next (w1:=w3) q1 q2 (((Keep.refl nil wr).drew).trans hk3) q4 q5 ((Keep.refl nil w3).alloc (.cells #[.pointer (some ⟨b,0,none⟩),.slice a (ownE k es2).length c] 125)) (by rw[l2];exact hb4) hd4 hk4
     rw[l2]at h1
     exact h1
    clear HNS HRW q1 q2 hk3 q4 q5 d0 d1 hv3 hb4 hd4 hk4 g0 g1
    go_wp2
    exact⟨⟨k+1,_,a',c',by have:=HLT ();omega,by go_num,HN ()⟩,by have:=HLT ();simp[intOf];omega⟩
  ·have HLT:Unit→k=n:=fun _=>by omega
   have hltI:¬((k:Int)<(n:Int)):=by omega
   have HKN:Unit→(k:Int)≤10:=fun _=>hkn
   have hB0:Blk wr rb #[.slice none 0 0,.slice none 0 0,.slice none 0 0] 87:=(K1 ()).2.2.keep (HQ ()).1.keep id
   have r0:wr.cell? ⟨rb,0,none⟩=some (.slice none 0 0):=by rw[hB0.cell];rfl
   have r1:wr.cell? ⟨rb,1,none⟩=some (.slice none 0 0):=by rw[hB0.cell];rfl
   have r2:wr.cell? ⟨rb,2,none⟩=some (.slice none 0 0):=by rw[hB0.cell];rfl
   have y0:wr.frozen? ⟨rb,0,none⟩=false:=hB0.frozen 0
   have y1:wr.frozen? ⟨rb,1,none⟩=false:=hB0.frozen 1
   have y2:wr.frozen? ⟨rb,2,none⟩=false:=hB0.frozen 2
   have hrl:=hB0.lt
   have HB0:Unit→Blk wr rb #[.slice none 0 0,.slice none 0 0,.slice none 0 0] 87∧sps.length=k:=fun _=>⟨hB0,hsl⟩
   clear hlt hk hB0 hkn
   go_wp2
   obtain⟨W9,hW9⟩:∃W9,W9=(((wr.setCell ⟨rb,0,none⟩ (.slice ea es2.length ec)).setCell ⟨rb,1,none⟩ (.slice pa k pc)).setCell ⟨rb,2,none⟩ (.slice none 0 0)):=⟨_,rfl⟩
   have K9:Keep (only rb) wr W9:=by
    rw[hW9]
    exact(((Keep.refl (only rb) wr).setCell (p:=⟨rb,0,none⟩) (fun _=>rfl) _).setCell (p:=⟨rb,1,none⟩) (fun _=>rfl) _).setCell (p:=⟨rb,2,none⟩) (fun _=>rfl) _
   have B9:Blk W9 rb #[.slice ea es2.length ec,.slice pa k pc,.slice none 0 0] 87:=by
    have h2:=(((HB0 ()).1.set 0 (.slice ea es2.length ec)).set 1 (.slice pa k pc)).set 2 (.slice none 0 0)
    rw[←hW9]at h2
    exact h2
   rw[←hW9]
   have z0:W9.cell? ⟨rb,0,none⟩=some (.slice ea es2.length ec):=by rw[B9.cell];rfl
   have z1:W9.cell? ⟨rb,1,none⟩=some (.slice pa k pc):=by rw[B9.cell];rfl
   have z2:W9.cell? ⟨rb,2,none⟩=some (.slice none 0 0):=by rw[B9.cell];rfl
   clear r0 r1 r2 y0 y1 y2 hrl hW9 B9 c0 c1 c2
   refine bodyPost_ret (v:=.tuple #[.agg #[.slice ea es2.length ec,.slice pa k pc,.slice none 0 0],.int .i64 0]) (by simp[results,Tryz.results30,go_sem,z0,z1,z2]) rfl ?_
   have hq:=(HQ ()).1
   have e1:=(HB0 ()).2
   have e2:=HLT ()
   obtain⟨p1,p2,p3⟩:=K1 ()
   have hne:∀g,(NwN vb es2 ea ec sps pa pc).Own g→¬only rb g:=fun g hg e=>by
    have:=hq.new g hg
    have:=p3.lt
    rw[show g=rb from e]at *
    omega
   refine⟨vb,ea,ec,sps,pa,pc,by rw[e1],?_⟩
   subst e2
   exact⟨(p1.trans hq.keep).trans' K9 (fun g hg e=>by rw[show g=rb from e]at hg;omega),hq.rep.keep K9 hne,hq.len,hq.fresh,fun g hg=>Nat.le_trans p1.size (hq.new g hg)⟩
end Go.Proofs.YtlfijfodklhplaaGreat
