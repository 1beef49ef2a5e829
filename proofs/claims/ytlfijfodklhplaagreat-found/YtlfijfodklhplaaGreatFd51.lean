import Derived.Test.YtlfijfodklhplaaGreatFd49
import Derived.Test.YtlfijfodklhplaaGreatFd50
import Derived.Test.YtlfijfodklhplaaGreatFd33
import Derived.Test.YtlfijfodklhplaaGreatFd34
import Derived.Deep.DeepCutAuto
import Derived.Deep.CutBlock
set_option maxRecDepth 100000
set_option maxHeartbeats 4000000
set_option linter.unusedVariables false
set_option linter.unusedSimpArgs false
namespace Go.Proofs.YtlfijfodklhplaaGreat
open Go.RowKit
structure Fw(w wx:World)(N:Nt)(A:AN)(B:Nat)(es:List Ed)(a1:Option Addr)(c1:Nat):Prop where
 keep:Keep nil w wx
 x:NtOk wx N B
 xa:N.abs=A
 new:∀k,N.Own k→w.heap.size≤k
 row:RV wx 30 3 a1 es.length c1 (ecells es)
 far:∀g,inB a1 g→¬N.Own g
theorem Fw.keepN{w wx w1:World}{N:Nt}{A:AN}{B:Nat}{es:List Ed}{a1:Option Addr}{c1:Nat}(h:Fw w wx N A B es a1 c1)(k:Keep nil wx w1):Fw w w1 N A B es a1 c1:=
 ⟨h.keep.trans k,h.x.keepN k,h.xa,h.new,h.row.keep k (fun _ _ e=>e),h.far⟩
theorem Fw.next{w wx w1:World}{N N':Nt}{A:AN}{B B':Nat}{es:List Ed}{a1:Option Addr}{c1:Nat}(h:Fw w wx N A B es a1 c1)(a:NtOk w1 N' B')(t:NtTo wx w1 N N'):Fw w w1 N' N'.abs B' es a1 c1:=by
 refine⟨h.keep.trans' t.keep (fun i hi e=>by have:=h.new i e;omega),a,rfl,fun k e=>?_,h.row.keep t.keep h.far,fun g hg e=>?_⟩
 ·rcases t.mine k e with x|x
  ·exact h.new k x
  ·have:=h.keep.size;omega
 ·rcases t.mine g e with x|x
  ·exact h.far g hg x
  ·have:=h.row.lt g hg;omega
structure Ovs(w5 wx:World)(A:AN)(k:Nat)(oa:Option Addr)(oc:Nat):Prop where
 keep:Keep nil w5 wx
 row:RV wx 3 1 oa (ovl A k).length oc (icells (ovl A k))
 new:∀g,inB oa g→w5.heap.size≤g
theorem Ovs.zero(w5:World)(A:AN):Ovs w5 w5 A 0 none 0:=
 ⟨Keep.refl _ _,⟨rfl,Nat.le_refl _,Or.inl ⟨rfl,rfl,rfl⟩⟩,fun g e=>by obtain⟨o,e⟩:=e;cases e⟩
theorem nd_at{N:Nt}{A:AN}(h:N.abs=A){k:Nat}{s:Sp}(hs:N.sps[k]?=some s):(Ghs.lsOf A).nodes k=s.n:=by
 have h1:=abs_spot hs
 rw[h]at h1
 exact Ghs.nodes_at h1
theorem Ovs.no{w5 wx w1:World}{A:AN}{k:Nat}{oa:Option Addr}{oc:Nat}(h:Ovs w5 wx A k oa oc)(hk:Keep nil wx w1)(ho:((Ghs.lsOf A).nodes k).over=false):Ovs w5 w1 A (k+1) oa oc∧(ovl A (k+1)).length=(ovl A k).length:=by
 have e:ovl A (k+1)=ovl A k:=by rw[ovl_succ];simp[ho]
 exact⟨⟨h.keep.trans hk,by rw[e];exact h.row.keep hk (fun _ _ e=>e),h.new⟩,by rw[e]⟩
theorem Ovs.yes{w5 wx w1:World}{A:AN}{k:Nat}{oa oa':Option Addr}{oc oc':Nat}(h:Ovs w5 wx A k oa oc)(hk:Keep (inB oa) wx w1)(hr:RV w1 3 1 oa' ((ovl A k).length+1) oc' (icells (ovl A k)++[.int .i64 (k:Int)]))(hn:∀g,inB oa' g→inB oa g∨wx.heap.size≤g)(ho:((Ghs.lsOf A).nodes k).over=true):Ovs w5 w1 A (k+1) oa' oc'∧(ovl A (k+1)).length=(ovl A k).length+1:=by
 have e:ovl A (k+1)=ovl A k++[k]:=by rw[ovl_succ];simp[ho]
 refine⟨⟨h.keep.trans' hk (fun i hi e=>by have:=h.new i e;omega),?_,fun g hg=>?_⟩,by rw[e];simp⟩
 ·rw[e,show icells (ovl A k++[k])=icells (ovl A k)++[.int .i64 (k:Int)]from by simp[icells],List.length_append]
  exact hr
 ·rcases hn g hg with x|x
  ·exact h.new g x
  ·have:=h.keep.size;omega
theorem ovl_len(A:AN):∀k,(ovl A k).length≤k
 |0=>Nat.le_refl _
 |k+1=>by
  have:=ovl_len A k
  rw[ovl_succ,List.length_append]
  split<;>simp<;>omega
theorem found_walk(nodes:Int)(raw:List Int)(ra:Option Addr)(rc:Nat)(l:List Stp)(sa:Option Addr)(sc:Nat)(woken:Int)(w:World)(hnb:-9223372036854775808≤nodes∧nodes≤9223372036854775807)(hraw:Raws w ra raw)(hrl:(raw.length:Int)<35184372088832)(hst:Stps w sa l)(hwk:-9223372036854775808≤woken∧woken≤9223372036854775807):
 Calls Tryz.prog 8 #[.int .i64 nodes,.slice ra raw.length rc,.slice sa l.length sc,.int .i64 woken] w fun r w'=>r=.returned (.bool true)∧Keep nil w w':=by
 have HO:Unit→∀w1,Keep nil w w1→_:=fun _ w1 k1=>opened_far nodes raw ra rc w1 hnb (hraw.keep k1) hrl
 have HST:Unit→∀w1,Keep nil w w1→Stps w1 sa l:=fun _ w1 k1=>hst.keep k1
 have HLG:Unit→∀(a:Option Addr) (c:Nat) (w1:World),RV w1 30 3 a (ges nodes raw).length c (ecells (ges nodes raw))→Calls Tryz.prog 18 #[.int .i64 (gn nodes:Int),.slice a (ges nodes raw).length c] w1 fun r w'=>∃a c,r=.returned (.slice a (Ghs.gT nodes raw).length c)∧Tre w1 w' ((Ghs.gT nodes raw).map Ghs.ed3) a c:=fun _ a c w1 hr=>by
  have hg:=gn_in nodes
  rw[Ghs.ges_M,List.length_map]at hr⊢
  have h1:=klight_any (gn nodes) (Ghs.gM nodes raw) a c w1 hr hg.1 hg.2 (by rw[←(Ghs.gL_perm nodes raw).length_eq];exact Ghs.gL_len nodes raw) (fun e he=>by
   have h2:=(Ghs.gL_simple nodes raw).ok e ((Ghs.gL_perm nodes raw).mem_iff.2 he)
   exact⟨h2.1,h2.2.1,h2.2.2.2.1,h2.2.2.2.2⟩)
  rw[Ghs.gT_loops]at h1
  exact h1
 have HPK:Unit→∀w1,Calls Tryz.prog 12 #[.int .i64 woken,.int .i64 (gn nodes:Int)] w1 fun e w2=>e=.returned (.int .i64 (pk woken (gn nodes:Int):Int))∧w1=w2:=fun _ w1=>by
  have hg:=gn_in nodes
  exact pick_fun woken (gn nodes:Int) hwk.1 hwk.2 (by omega) (by omega) w1
 obtain⟨nn,hnn⟩:∃nn,nn=gn nodes:=⟨_,rfl⟩
 obtain⟨A0,hA0⟩:∃A0,A0=Ghs.A0 nodes raw:=⟨_,rfl⟩
 obtain⟨F,hF⟩:∃F,F=(Ghs.gT nodes raw).map Ghs.ed3:=⟨_,rfl⟩
 obtain⟨es,hes⟩:∃es,es=ges nodes raw:=⟨_,rfl⟩
 obtain⟨kw,hkw⟩:∃kw,kw=pk woken (nn:Int):=⟨_,rfl⟩
 have hFl:(Ghs.gT nodes raw).length=F.length:=by rw[hF,List.length_map]
 have HKW:Unit→kw<nn:=fun _=>by
  have h1:=pk_lt woken (nn:Int) (by have:=gn_in nodes;omega)
  rw[hkw];omega
 have HSD:Unit→∀i,i≤l.length→Ghs.V.Std nodes raw (Ghs.Sat A0 l i):=fun _ i h=>by rw[hA0];exact Ghs.V.Std.sat nodes raw l i h
 have HFN:Unit→∀i,i≤l.length→∃lv,Fnd nn F (Ghs.V.stl nn 400 ((Ghs.Sat A0 l i).wake kw)) lv:=fun _ i h=>by
  have h1:=(HSD () i h).wake (u:=kw) (by rw[←hnn];exact HKW ())
  rw[hnn,hF]
  exact found_fin h1.1 (by rw[←hnn];exact HKW ()) (awk_woken kw _)
 have HNN:Unit→1≤nn∧nn≤8∧F.length≤100:=fun _=>by
  refine⟨by rw[hnn];exact(gn_in nodes).1,by rw[hnn];exact(gn_in nodes).2,?_⟩
  rw[←hFl]
  have h3:=Ghs.krs_len (gn_in nodes).1 (L:=Ghs.gL nodes raw) (fun e he=>⟨((Ghs.gL_simple nodes raw).ok e he).1,((Ghs.gL_simple nodes raw).ok e he).2.1⟩)
  have h4:=(gn_in nodes).2
  have e:(Ghs.gT nodes raw).length=(Ghs.krs (Ghs.gL nodes raw)).2.length:=rfl
  omega
 have HLEN:Unit→∀i,i≤l.length→(Ghs.Sat A0 l i).sps.length=nn:=fun _ i h=>by rw[hnn];exact(HSD () i h).len
 have e1:AN.fresh (gn nodes) (srt (ges nodes raw))=Ghs.Sat A0 l 0:=by rw[hA0];unfold Ghs.Sat Ghs.A0;simp
 rw[e1,←hnn,←hes]at HO
 rw[←hnn,←hes,hFl,←hF]at HLG
 rw[←hnn,←hkw]at HPK
 clear hraw hst hrl hnb hA0 hnn hF hes hFl e1 hwk hkw
 have hn1:(0:Int)<(nn:Int):=by have:=HNN ();omega
 have hn8:(nn:Int)≤8:=by have:=HNN ();omega
 go_enter Tryz.func8,Tryz.ntmps8
 go_wp2_with fail
 refine Calls.mono (HO () w (Keep.refl nil w)) ?_
 rintro r w1 ⟨N,a1,c1,rfl,hN,hNa,k1,hNn,ht,hfar⟩
 have H1:Unit→Fw w w1 N (Ghs.Sat A0 l 0) (4 * 0) es a1 c1:=fun _=>⟨k1,hN,hNa,hNn,ht.row,hfar⟩
 obtain⟨xb,hxb⟩:∃xb,xb=N.nb:=⟨_,rfl⟩
 rw[←hxb]
 have HXB:Unit→N.nb=xb:=fun _=>hxb.symm
 clear hN hNa k1 hNn hxb ht HO hfar
 go_upto_block 0 with fail
 go_cut [] (fun wx=>∃(i:Nat) (N:Nt),Fw w wx N (Ghs.Sat A0 l i) (4 * i) es a1 c1∧N.nb=xb∧i≤150∧i≤l.length)
 case first=>
  go_wp2_with fail
  go_loopw [12] (fun v wr=>∃(i:Nat) (N:Nt),i≤l.length∧(i:Int)≤150∧v=.int .i64 (i:Int)∧Fw w wr N (Ghs.Sat A0 l i) (4 * i) es a1 c1∧N.nb=xb) (fun v _=>150 - (intOf v).toNat)
  case atStart=>exact⟨0,N,Nat.zero_le _,by omega,rfl,H1 (),HXB ()⟩
  case round=>
   clear H1 HXB
   obtain⟨i,N,hi,hi1,rfl,ht,hxb⟩:=hrel
   have HQ:Unit→Fw w wr N (Ghs.Sat A0 l i) (4 * i) es a1 c1∧N.nb=xb∧i≤l.length∧N.sps.length=nn:=fun _=>⟨ht,hxb,hi,by rw[abs_sps ht.xa];exact HLEN () i hi⟩
   clear ht hxb
   by_cases hc:i<l.length∧i<150
   ·obtain⟨s,hs⟩:∃s,l[i]?=some s:=⟨_,List.getElem?_eq_getElem hc.1⟩
    have HI:Unit→l[i]?=some s∧i<l.length∧i<150:=fun _=>⟨hs,hc⟩
    obtain⟨hsok,g,q,hga,hgl,f0,f1,f2⟩:=HST () w (Keep.refl nil w) i s hs
    have HE:Unit→∀w',Keep nil w w'→w'.cell? ⟨g,q+i * 3,none⟩=some (.int .i64 s.kind)∧w'.cell? ⟨g,q+i * 3+1,none⟩=some (.int .i64 s.a)∧w'.cell? ⟨g,q+i * 3+2,none⟩=some (.int .i64 s.b)∧g<w'.heap.size:=fun _ w' k=>⟨(k.cell g _ hgl id).trans f0,(k.cell g _ hgl id).trans f1,(k.cell g _ hgl id).trans f2,Nat.lt_of_lt_of_le hgl k.size⟩
    have HOK:Unit→s.ok:=fun _=>hsok
    have hiI:(i:Int)<(l.length:Int):=by omega
    have hi9:(i:Int)<150:=by omega
    rw[hga]
    clear hs hsok hgl f0 f1 f2 hga hc hi hi1
    obtain⟨sk,s1,s2⟩:=s
    simp only at HE
    obtain⟨e0,e1,e2,hgw⟩:=HE () wr (HQ ()).1.keep
    go_wp2_with fail
    refine Calls.mono (by have:=does_any N ⟨sk,s1,s2⟩ (4 * i) wr (HQ ()).1.x (HOK ()) (by have:=HI ();omega);rw[(HQ ()).2.1,(HQ ()).2.2.2]at this;exact this) ?_
    rintro r w2 ⟨rfl,N1,hok,hab,hto,hwy⟩
    have H2:Unit→Fw w w2 N1 (Ghs.Sat A0 l (i+1)) (4 * (i+1)) es a1 c1∧N1.nb=xb:=fun _=>by
     have h1:=(HQ ()).1.next hok hto
     rw[hab,(HQ ()).1.xa,←Ghs.Sat_succ A0 (HI ()).1]at h1
     exact⟨h1,by rw[hto.nb];exact(HQ ()).2.1⟩
    clear hok hab hto hwy e0 e1 e2 hgw
    go_wp2
    exact⟨⟨i+1,N1,by have:=HI ();omega,by have:=HI ();omega,by go_num,(H2 ()).1,(H2 ()).2⟩,by have:=HI ();simp[intOf];omega⟩
   ·by_cases h:i<l.length
    ·have hiI:(i:Int)<(l.length:Int):=by omega
     have hi9:¬((i:Int)<150):=by omega
     have hi8:i≤150:=by omega
     clear hi hi1 hc h
     go_wp2
     go_meet
     case rel=>exact⟨i,N,(HQ ()).1,(HQ ()).2.1,hi8,(HQ ()).2.2.1⟩
    ·have hiI:¬((i:Int)<(l.length:Int)):=by omega
     have hi8:i≤150:=by omega
     clear hi hi1 hc h
     go_wp2
     go_meet
     case rel=>exact⟨i,N,(HQ ()).1,(HQ ()).2.1,hi8,(HQ ()).2.2.1⟩
 case rest=>
  obtain⟨i,N,ht,hxb,hi,hil⟩:=hcut
  obtain⟨lv,hfn⟩:=HFN () i hil
  have hsd:=HSD () i hil
  have hsl:N.sps.length=nn:=by rw[abs_sps ht.xa];exact HLEN () i hil
  obtain⟨A1,hA1⟩:∃A1,A1=Ghs.Sat A0 l i:=⟨_,rfl⟩
  rw[←hA1]at ht hfn hsd
  have HT:Unit→Fw w wc N A1 (4 * i) es a1 c1∧N.nb=xb∧N.sps.length=nn∧i≤150∧Ghs.V.Std nodes raw A1:=fun _=>⟨ht,hxb,hsl,hi,hsd⟩
  have HF:Unit→Fnd nn F (Ghs.V.stl nn 400 (A1.wake kw)) lv:=fun _=>hfn
  have HW:Unit→∀w0,Keep nil wc w0→Calls Tryz.prog 15 #[.pointer (some ⟨xb,0,none⟩),.int .i64 (kw:Int)] w0 fun r w'=>∃v,r=.returned v∧v=.int .i64 0∧∃N',Fw w w' N' (A1.wake kw) 90 es a1 c1∧N'.nb=xb∧N'.sps.length=nn∧Ghs.V.AI (Ghs.topL (Ghs.gL_simple nodes raw)) N'.abs:=fun _ w0 k0=>by
   obtain⟨ht,hxb,hsl,hi,hsd⟩:=HT ()
   have ht:=ht.keepN k0
   obtain⟨s,hs⟩:∃s,N.sps[kw]?=some s:=⟨_,List.getElem?_eq_getElem (by rw[hsl];exact HKW ())⟩
   have h1:=awake (R:=fun v w'=>v=.int .i64 0∧∃N',Fw w w' N' (A1.wake kw) 90 es a1 c1∧N'.nb=xb∧N'.sps.length=nn∧Ghs.V.AI (Ghs.topL (Ghs.gL_simple nodes raw)) N'.abs) N.nb (kw:Int) w0 ((mwake_any N kw s (4 * i) w0 ht.x.rep hs ht.x.ok ht.x.st).mono (by
    rintro r w' ⟨rfl,N',b1,b2,b3,b4,b5,b6⟩
    have hai:Ghs.V.AI (Ghs.topL (Ghs.gL_simple nodes raw)) N'.abs:=by
     rw[b2,ht.xa]
     exact(hsd.wake (u:=kw) (by rw[←hsd.len,←abs_sps ht.xa,hsl];exact HKW ())).1.ai
    have h2:=ht.next (low_ok (Ghs.gL_dg nodes raw) ⟨b1,b5,b6,es_to ht.x.es b3,by rw[b3.len];exact ht.x.some_⟩ hai) b3
    rw[b2,ht.xa]at h2
    exact⟨_,rfl,rfl,N',h2,by rw[b3.nb];exact hxb,by rw[b3.len];exact hsl,hai⟩))
   rw[hxb]at h1
   exact h1
  clear ht hxb hsl hi hil hA1 hfn hsd
  go_wp2_with (go_at_call 12;refine(HPK () _).mono ?_;rintro r w0 ⟨rfl,rfl⟩)
  refine Calls.mono (HW () wc (Keep.refl nil wc)) ?_
  rintro r w1 ⟨v,rfl,rfl,N1,ht,hxb,hsl,hai⟩
  have H1:Unit→Fw w w1 N1 (A1.wake kw) 90 es a1 c1∧N1.nb=xb∧N1.sps.length=nn∧Ghs.V.AI (Ghs.topL (Ghs.gL_simple nodes raw)) N1.abs:=fun _=>⟨ht,hxb,hsl,hai⟩
  clear ht hxb hsl hai HW HPK
  go_wp2_with fail
  refine Calls.mono (by have:=settle_any (Ghs.V.g_small nodes raw) (Ghs.gL_dg nodes raw) N1 w1 (H1 ()).1.x (H1 ()).2.2.2;rw[(H1 ()).2.1,(H1 ()).2.2.1]at this;exact this) ?_
  rintro r w2 ⟨rfl,N2,hs2,hab⟩
  obtain⟨A2,hA2⟩:∃A2,A2=Ghs.V.stl nn 400 (A1.wake kw):=⟨_,rfl⟩
  have H2:Unit→Fw w w2 N2 A2 90 es a1 c1∧N2.nb=xb∧N2.sps.length=nn:=fun _=>by
   have h1:=(H1 ()).1.next hs2.ok hs2.tn
   rw[hab,(H1 ()).1.xa,←hA2]at h1
   exact⟨h1,by rw[hs2.tn.nb];exact(H1 ()).2.1,by rw[hs2.tn.len];exact(H1 ()).2.2.1⟩
  rw[←hA2]at HF
  clear hs2 hab hA2 H1
  go_wp2_with fail
  refine Calls.mono (HLG () a1 c1 w2 (H2 ()).1.row) ?_
  rintro r w3 ⟨ba,bc,rfl,t3⟩
  have H3:Unit→Tre w2 w3 F ba bc:=fun _=>t3
  clear t3 HLG
  have HT1:Unit→Calls Tryz.prog 17 #[.pointer (some ⟨xb,0,none⟩)] w3 fun r w'=>∃v,r=.returned v∧∃a c,v=.slice a F.length c∧Tre w3 w' F a c:=fun _=>by
   have ht:=(H2 ()).1.keepN (H3 ()).keep
   have htr:N2.abs.tree=F:=by rw[ht.xa];exact(HF ()).tree
   have h1:=atree (R:=fun v w'=>∃a c,v=.slice a F.length c∧Tre w3 w' F a c) N2.nb w3 ((mtree_any N2 _ w3 ht.x.rep ht.x.ok ht.x.es).mono (by
    rintro r w' ⟨a,c,rfl,h⟩
    rw[htr]at h
    exact⟨_,rfl,a,c,by rw[htr],h⟩))
   rw[(H2 ()).2.1]at h1
   exact h1
  go_wp2_with fail
  refine Calls.mono (HT1 ()) ?_
  rintro r w4 ⟨v5,rfl,ta,tc,rfl,t5⟩
  have H4:Unit→Tre w3 w4 F ta tc:=fun _=>t5
  clear t5 HT1
  go_wp2_with fail
  refine Calls.mono (same_yes F ta ba tc bc w4 (H4 ()).row ((H3 ()).row.keep (H4 ()).keep (fun _ _ e=>e)) (by have:=HNN ();omega)) ?_
  rintro r w5 ⟨rfl,k5⟩
  have H5:Unit→Fw w w5 N2 A2 90 es a1 c1∧N2.nb=xb∧N2.sps.length=nn∧RV w5 30 3 ba F.length bc (ecells F):=fun _=>⟨(((H2 ()).1.keepN (H3 ()).keep).keepN (H4 ()).keep).keepN k5,(H2 ()).2.1,(H2 ()).2.2,((H3 ()).row.keep (H4 ()).keep (fun _ _ e=>e)).keep k5 (fun _ _ e=>e)⟩
  clear k5 H2 H3 H4 HT
  go_wp2_with fail
  go_loopw [17,18,19] (fun u v z wx=>∃(k:Nat) (oa:Option Addr) (oc:Nat) (lw:Int),k≤nn∧z=.int .i64 (k:Int)∧u=.slice oa (ovl A2 k).length oc∧v=.int .i64 lw∧((k=0∧lw=-1)∨(0<k∧lw=(lv:Int)))∧Ovs w5 wx A2 k oa oc) (fun _ _ z _=>nn - (intOf z).toNat)
  case atStart=>exact⟨0,none,0,-1,Nat.zero_le _,rfl,rfl,rfl,Or.inl ⟨rfl,rfl⟩,Ovs.zero _ _⟩
  case round=>
   obtain⟨k,oa,oc,lw,hk,rfl,rfl,rfl,hlw,ho⟩:=hrel
   obtain⟨on,hon⟩:∃on,on=(ovl A2 k).length:=⟨_,rfl⟩
   have HO:Unit→Ovs w5 wr A2 k oa oc∧on=(ovl A2 k).length∧on≤8:=fun _=>⟨ho,hon,by have:=ovl_len A2 k;have:=HNN ();omega⟩
   rw[←hon]
   clear hon
   by_cases hkl:k<nn
   ·skip
    obtain⟨s,hs⟩:∃s,N2.sps[k]?=some s:=⟨_,List.getElem?_eq_getElem (by rw[(H5 ()).2.2.1];exact hkl)⟩
    have ht:=(H5 ()).1.keepN ho.keep
    have hnode:=nd_at ht.xa hs
    have HL1:Unit→_:=fun _=>alook_any N2 k s 90 wr ((H5 ()).1.keepN (HO ()).1.keep).x.rep hs ((H5 ()).1.keepN (HO ()).1.keep).x.ok
    obtain⟨nd,hnd⟩:∃nd,nd=s.n:=⟨_,rfl⟩
    have HND:Unit→(Ghs.lsOf A2).nodes k=nd:=fun _=>by rw[hnd];exact hnode
    rw[←hnd]at HL1
    rw[(H5 ()).2.1]at HL1
    have hkI:(k:Int)<(nn:Int):=by omega
    have HKL:Unit→k<nn:=fun _=>hkl
    have HS:Unit→nd.state=2∧nd.level=lv:=fun _=>by
     rw[←HND ()]
     exact⟨(HF ()).st k (HKL ()),(HF ()).lv k (HKL ())⟩
    clear hk hkl ht hs hnode hnd ho s
    go_wp2_with fail
    refine Calls.mono (HL1 ()) ?_
    rintro r w7 ⟨ea,ec,rfl,r1,k7,n7⟩
    have H7:Unit→Keep nil wr w7:=fun _=>k7
    clear r1 k7 n7 HL1
    obtain⟨e2,e3,e4,e5,hq⟩:∃(e2:Nat) (e3:Bool) (e4 e5:Nat),(∀a c,lookv nd a c=.agg #[.int .i64 2,.int .i64 (lv:Int),.int .i64 (e2:Int),.bool e3,.int .i64 (e4:Int),.slice a e5 c])∧e3=nd.over:=⟨nd.name,nd.over,nd.off.length,nd.edges.length,(fun _ _=>by unfold lookv;rw[(HS ()).1,(HS ()).2];rfl),rfl⟩
    rw[hq.1]
    have HOV:Unit→((Ghs.lsOf A2).nodes k).over=e3:=fun _=>by rw[HND ()];exact hq.2.symm
    clear hq HS HND
    go_upto_region 21 with fail
    obtain⟨W8,hW8⟩:∃W8,W8=w7.alloc (.cells #[.int .i64 2,.int .i64 (lv:Int),.int .i64 (e2:Int),.bool e3,.int .i64 (e4:Int),.slice ea e5 ec] 50):=⟨_,rfl⟩
    obtain⟨ab,hab⟩:∃ab,ab=w7.heap.size:=⟨_,rfl⟩
    have k8:Keep nil w7 W8:=by rw[hW8];exact(Keep.refl nil w7).alloc _
    have hb8:Blk W8 ab #[.int .i64 2,.int .i64 (lv:Int),.int .i64 (e2:Int),.bool e3,.int .i64 (e4:Int),.slice ea e5 ec] 50:=by rw[hW8,hab];exact Blk.new _ _ _
    have H8:Unit→Keep nil wr W8∧wr.heap.size≤ab:=fun _=>⟨(H7 ()).trans k8,by rw[hab];exact(H7 ()).size⟩
    rw[←hW8,←hab]
    have a0:W8.cell? ⟨ab,0,none⟩=some (.int .i64 2):=by rw[hb8.cell];rfl
    have a1':W8.cell? ⟨ab,1,none⟩=some (.int .i64 (lv:Int)):=by rw[hb8.cell];rfl
    have a3:W8.cell? ⟨ab,3,none⟩=some (.bool e3):=by rw[hb8.cell];rfl
    have hal:=hb8.lt
    clear hW8 hab k8 hb8 H7
    go_cut [98] (fun v wx=>v=.bool false∧Keep nil W8 wx)
    case first=>
     rcases hlw with⟨h1,h2⟩|⟨h1,h2⟩
     ·subst h2
      go_wp2_with fail
      go_meet
      case rel=>exact⟨rfl,by repeat (first|exact Keep.refl _ _|apply Keep.drew)⟩
     ·subst h2
      have hd5:decide ((lv:Int)<0)=false:=decide_eq_false (by omega)
      have hd6:decide ((0:Int)≤(lv:Int))=true:=decide_eq_true (by omega)
      go_wp2_with fail
      go_meet
      case rel=>exact⟨rfl,by repeat (first|exact Keep.refl _ _|apply Keep.drew)⟩
    case rest=>
     obtain⟨rfl,hk9⟩:=hcut
     have a1':=(hk9.cell ab _ hal id).trans a1'
     have a3:=(hk9.cell ab _ hal id).trans a3
     have hal:ab<wc.heap.size:=Nat.lt_of_lt_of_le hal hk9.size
     have H9:Unit→Keep nil wr wc:=fun _=>(H8 ()).1.trans hk9
     clear hk9 a0 hlw H8
     cases e3 with
     |false=>
      go_wp2_with fail
      have h1:=(HO ()).1.no (H9 ()) (HOV ())
      refine⟨⟨k+1,oa,oc,_,by have:=HKL ();omega,by go_num,by rw[h1.2,(HO ()).2.1],rfl,Or.inr ⟨by omega,rfl⟩,h1.1⟩,by have:=HKL ();simp[intOf];omega⟩
     |true=>
      have HRW:Unit→RV wc 3 1 oa on oc (icells (ovl A2 k)):=fun _=>by rw[(HO ()).2.1];exact(HO ()).1.row.keep (H9 ()) (fun _ _ e=>e)
      generalize hls:icells (ovl A2 k)=ls at HRW
      go_wp2_with (at_builtin;refine wpList_append_rvS _ rfl (.tmp 103) (.tmp 105) 25 rfl 3 (.int .i64 0) 1 8 Tryz.underlying25 int_info rfl oa on oc rfl ls ((HRW ()).alloc _) ⟨wc.heap.size,0,none⟩ 1 1 (by omega) rfl [.int .i64 (k:Int)] rfl (cells_elist wc [.int .i64 (k:Int)] 3 _ (by simp)) (by simp[Value.oneCell']) (by have:=HO ();omega) (by have:=HO ();omega) ?_;intro a' c' w4 hb4 hd4 hk4)
      have k24:Keep (inB oa) wr w4:=((((H9 ()).alloc _).mono (fun _ _ e=>e.elim)).trans hk4)
      rw[←hls]at hb4
      have h1:=(HO ()).1.yes k24 (by rw[←(HO ()).2.1];exact hb4) (fun g hg=>by
       rcases hd4 with⟨e,_⟩|⟨e,_⟩
       ·rw[e]at hg;exact Or.inl hg
       ·rw[e]at hg
        have h7:=(H9 ()).size
        have:=inB_some.1 hg
        simp only[World.size_alloc]at this
        exact Or.inr (by omega)) (HOV ())
      refine⟨⟨k+1,a',c',_,by have:=HKL ();omega,by go_num,by rw[h1.2,(HO ()).2.1],rfl,Or.inr ⟨by omega,rfl⟩,h1.1⟩,by have:=HKL ();simp[intOf];omega⟩
   ·skip
    have hke:k=nn:=by omega
    subst hke
    have hlv:lw=(lv:Int):=by
     rcases hlw with⟨h1,_⟩|⟨_,h2⟩
     ·omega
     ·exact h2
    subst hlv
    have hkI:¬((k:Int)<(k:Int)):=by omega
    clear hk hkl hlw ho
    rcases (HF ()).ov with⟨hn,hov⟩|⟨h2,hl1,hl3,va,vb,hov,ix,ex,hix,hex⟩
    ·have hon:on=1:=by rw[(HO ()).2.1,hov];rfl
     subst hon
     have HK:Unit→Keep nil w wr:=fun _=>(H5 ()).1.keep.trans (HO ()).1.keep
     have hnI:(k:Int)=1:=by omega
     clear hov hn
     rw[hnI]
     go_wp2
     go_ret
     exact⟨rfl,HK ()⟩
    ·have hon:on=2:=by rw[(HO ()).2.1,hov];rfl
     subst hon
     have hnI:¬((k:Int)=1):=by omega
     have hnB:((k:Int)==1)=false:=beq_eq_false_iff_ne.2 hnI
     have hd1:decide ((lv:Int)<1)=false:=decide_eq_false (by omega)
     have hd2:decide ((3:Int)<(lv:Int))=false:=decide_eq_false (by omega)
     have hd3:decide (lv<1)=false:=decide_eq_false (by omega)
     have hd4:decide (3<lv)=false:=decide_eq_false (by omega)
     have hrw:=(HO ()).1.row
     rw[hov]at hrw
     obtain⟨g,o,hga,hvb⟩:=rv_pos hrw (by simp)
     have HV:Unit→∀wx,Keep nil wr wx→wx.cell? ⟨g,o,none⟩=some (.int .i64 (va:Int))∧wx.cell? ⟨g,o+1,none⟩=some (.int .i64 (vb:Int))∧g<wx.heap.size:=fun _ wx kx=>by
      have c0:=hvb.cell 0 _ (icells_get [va,vb] 0 va rfl)
      have c1:=hvb.cell 1 _ (icells_get [va,vb] 1 vb rfl)
      exact⟨(kx.cell g _ hvb.lt id).trans c0,(kx.cell g _ hvb.lt id).trans c1,Nat.lt_of_lt_of_le hvb.lt kx.size⟩
     have HX:Unit→F[ix]?=some ex∧((ex.a=(va:Int)∧ex.b=(vb:Int))∨(ex.a=(vb:Int)∧ex.b=(va:Int))):=fun _=>⟨hix,hex⟩
     rw[hga]
     clear hov hrw hvb hga hix hex h2 hl1 hl3
     go_wp2_with fail
     obtain⟨W9,hW9⟩:∃W9,W9=wr:=⟨_,rfl⟩
     subst hW9
     have HNX:Unit→ix<F.length:=fun _=>(List.getElem?_eq_some_iff.1 (HX ()).1).1
     go_loopw [22] (fun v wx=>∃j:Nat,j≤ix∧v=.int .i64 (j:Int)∧Keep nil W9 wx) (fun v _=>ix+1 - (intOf v).toNat)
     case atStart=>exact⟨0,Nat.zero_le _,rfl,by repeat (first|exact Keep.refl _ _|apply Keep.drew)⟩
     case round=>
      obtain⟨j,hj,rfl,hkw⟩:=hrel
      have HJ:Unit→Keep nil W9 wr∧j≤ix:=fun _=>⟨hkw,hj⟩
      obtain⟨ej,hej⟩:∃ej,F[j]?=some ej:=⟨_,List.getElem?_eq_getElem (by have:=HNX ();omega)⟩
      obtain⟨c0,c1,hgl⟩:=HV () wr hkw
      obtain⟨g',q',hga',hgl',d0,d1,d2⟩:=edge_at ((H5 ()).2.2.2.keep ((HO ()).1.keep.trans hkw) (fun _ _ e=>e)) hej (by have:=HNX ();omega)
      have hjI:(j:Int)<(F.length:Int):=by have:=HNX ();omega
      have hj9:(j:Int)<1000:=by have:=HNX ();have:=HNN ();omega
      have HE:Unit→F[j]?=some ej:=fun _=>hej
      rw[hga']
      obtain⟨x,y,z⟩:=ej
      simp only at d0 d1 d2
      clear hj hkw hej hga' d2
      go_upto_region 33 with fail
      obtain⟨b1,hb1⟩:∃b1,((x:Int)==(va:Int))=b1:=⟨_,rfl⟩
      obtain⟨b2,hb2⟩:∃b2,((y:Int)==(vb:Int))=b2:=⟨_,rfl⟩
      obtain⟨b3,hb3⟩:∃b3,((x:Int)==(vb:Int))=b3:=⟨_,rfl⟩
      obtain⟨b4,hb4⟩:∃b4,((y:Int)==(va:Int))=b4:=⟨_,rfl⟩
      have HBB:Unit→((x:Int)==(va:Int))=b1∧((y:Int)==(vb:Int))=b2∧((x:Int)==(vb:Int))=b3∧((y:Int)==(va:Int))=b4:=fun _=>⟨hb1,hb2,hb3,hb4⟩
      go_cut [170] (fun v wx=>v=.bool ((b1&&b2)||(b3&&b4))∧Keep nil wr wx)
      case first=>
       have HKN:Unit→∀n,Keep nil wr (wr.drewN n):=fun _ n=>(Keep.refl nil wr).drewN n
       clear HBB HE HJ HX HV HO HF H5 HNN HNX
       cases b1
       ·cases b3
        ·go_quiet (fail)
         go_wp2_with fail
         go_meet
         case rel=>exact⟨rfl,HKN () _⟩
        ·cases b4
         ·go_quiet (fail)
          go_wp2_with fail
          go_meet
          case rel=>exact⟨rfl,HKN () _⟩
         ·go_quiet (fail)
          go_wp2_with fail
          go_meet
          case rel=>exact⟨rfl,HKN () _⟩
       ·cases b2
        ·cases b3
         ·go_quiet (fail)
          go_wp2_with fail
          go_meet
          case rel=>exact⟨rfl,HKN () _⟩
         ·cases b4
          ·go_quiet (fail)
           go_wp2_with fail
           go_meet
           case rel=>exact⟨rfl,HKN () _⟩
          ·go_quiet (fail)
           go_wp2_with fail
           go_meet
           case rel=>exact⟨rfl,HKN () _⟩
        ·go_quiet (fail)
         go_wp2_with fail
         go_meet
         case rel=>exact⟨rfl,HKN () _⟩
      case rest=>
       obtain⟨rfl,hkx⟩:=hcut
       have HKX:Unit→Keep nil W9 wc:=fun _=>(HJ ()).1.trans hkx
       have HNE:Unit→((b1&&b2)||(b3&&b4))=false→j<ix:=fun _ hb=>by
        obtain⟨r1,r2,r3,r4⟩:=HBB ()
        by_cases e:j=ix
        ·exfalso
         have h1:=HE ()
         rw[e,(HX ()).1]at h1
         cases h1
         rcases (HX ()).2 with⟨q1,q2⟩|⟨q1,q2⟩
         ·simp only at q1 q2
          rw[q1,beq_self_eq_true]at r1
          rw[q2,beq_self_eq_true]at r2
          rw[←r1,←r2]at hb
          simp at hb
         ·simp only at q1 q2
          rw[q1,beq_self_eq_true]at r3
          rw[q2,beq_self_eq_true]at r4
          rw[←r3,←r4]at hb
          simp at hb
        ·have:=(HJ ()).2;omega
       clear hkx hb1 hb2 hb3 hb4 c0 c1 d0 d1 hgl hgl' HBB
       generalize ((b1&&b2)||(b3&&b4))=bs at *
       cases bs with
       |true=>
        have HK:Unit→Keep nil w wc:=fun _=>((H5 ()).1.keep.trans (HO ()).1.keep).trans (HKX ())
        go_wp2
        go_ret
        exact⟨rfl,HK ()⟩
       |false=>
        go_wp2
        refine⟨⟨j+1,by have:=HNE () rfl;omega,by go_num,HKX ()⟩,by have:=HNE () rfl;simp[intOf];omega⟩
end Go.Proofs.YtlfijfodklhplaaGreat
