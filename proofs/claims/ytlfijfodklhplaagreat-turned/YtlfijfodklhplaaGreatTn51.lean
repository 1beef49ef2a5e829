import Derived.Test.YtlfijfodklhplaaGreatTn50
import Derived.Test.YtlfijfodklhplaaGreatTn28
import Derived.Test.YtlfijfodklhplaaGreatTn33
import Derived.Deep.DeepCutAuto
import Derived.Deep.CutBlock
set_option maxRecDepth 100000
set_option maxHeartbeats 4000000
set_option linter.unusedVariables false
set_option linter.unusedSimpArgs false
namespace Go.Proofs.YtlfijfodklhplaaGreat
open Go.RowKit
structure Tns(w wx:World)(al tl:List Ed)(a2 a3:Option Addr)(c2 c3:Nat):Prop where
 keep:Keep nil w wx
 row:RV wx 30 3 a2 al.length c2 (ecells al)
 trow:RV wx 30 3 a3 tl.length c3 (ecells tl)
 tnew:∀g,inB a3 g→w.heap.size≤g
 nil0:tl=[]→a3=none∧c3=0
theorem Tns.keepN{w wx w1:World}{al tl:List Ed}{a2 a3:Option Addr}{c2 c3:Nat}(h:Tns w wx al tl a2 a3 c2 c3)(k:Keep nil wx w1):Tns w w1 al tl a2 a3 c2 c3:=
 ⟨h.keep.trans k,h.row.keep k (fun _ _ e=>e),h.trow.keep k (fun _ _ e=>e),h.tnew,h.nil0⟩
theorem Tns.next{w wx w4 w6:World}{al tl:List Ed}{a2 a3 a':Option Addr}{c2 c3 c':Nat}(h:Tns w wx al tl a2 a3 c2 c3)(hlt:∀g,inB a2 g→g<w.heap.size)(x:Ed)(k4:Keep nil wx w4)(hb:RV w6 30 3 a' (tl.length+1) c' (ecells tl++[.int .i64 x.a,.int .i64 x.b,.int .i64 x.wt]))(hd:∀g,inB a' g→inB a3 g∨w4.heap.size≤g)(hk:Keep (inB a3) w4 w6):Tns w w6 al (tl++[x]) a2 a' c2 c':=by
 have hn:=h.keepN k4
 refine⟨hn.keep.trans' hk (fun i hi e=>by have:=h.tnew i e;omega),hn.row.keep hk (fun g hg e=>by have:=hlt g hg;have:=h.tnew g e;omega),?_,fun g hg=>?_,fun e=>by simp at e⟩
 ·have e1:ecells (tl++[x])=ecells tl++[.int .i64 x.a,.int .i64 x.b,.int .i64 x.wt]:=by simp[ecells,Ed.cells]
  rw[e1,List.length_append]
  exact hb
 ·rcases hd g hg with e|e
  ·exact h.tnew g e
  ·have:=hn.keep.size;omega
theorem rv_esl{w:World}{a:Option Addr}{c:Nat}{es:List Ed}(hr:RV w 30 3 a es.length c (ecells es)):ESl w a es∧es.length≤c:=by
 refine⟨?_,hr.2.1⟩
 by_cases hl:0<es.length
 ·obtain⟨g,o,h1,h2⟩:=rv_pos hr hl
  exact Or.inr ⟨g,o,h1,h2.lt,fun j u hu=>h2.cell j u hu⟩
 ·exact Or.inl (List.eq_nil_of_length_eq_zero (by omega))
structure Tnf(w wx:World)(N:Nt)(A:AN)(B:Nat)(es:List Ed)(a1:Option Addr)(c1:Nat):Prop where
 keep:Keep nil w wx
 x:NtOk wx N B
 xa:N.abs=A
 new:∀k,N.Own k→w.heap.size≤k
 row:RV wx 30 3 a1 es.length c1 (ecells es)
 far:∀g,inB a1 g→¬N.Own g
theorem Tnf.keepN{w wx w1:World}{N:Nt}{A:AN}{B:Nat}{es:List Ed}{a1:Option Addr}{c1:Nat}(h:Tnf w wx N A B es a1 c1)(k:Keep nil wx w1):Tnf w w1 N A B es a1 c1:=
 ⟨h.keep.trans k,h.x.keepN k,h.xa,h.new,h.row.keep k (fun _ _ e=>e),h.far⟩
theorem Tnf.next{w wx w1:World}{N N':Nt}{A:AN}{B B':Nat}{es:List Ed}{a1:Option Addr}{c1:Nat}(h:Tnf w wx N A B es a1 c1)(a:NtOk w1 N' B')(t:NtTo wx w1 N N'):Tnf w w1 N' N'.abs B' es a1 c1:=by
 refine⟨h.keep.trans' t.keep (fun i hi e=>by have:=h.new i e;omega),a,rfl,fun k e=>?_,h.row.keep t.keep h.far,fun g hg e=>?_⟩
 ·rcases t.mine k e with x|x
  ·exact h.new k x
  ·have:=h.keep.size;omega
 ·rcases t.mine g e with x|x
  ·exact h.far g hg x
  ·have:=h.row.lt g hg;omega
theorem abs_nn{N:Nt}{A:AN}(h:N.abs=A):N.sps.length=A.sps.length:=by rw[←h];simp[Nt.abs]
def tfl(b:Int)(i:Nat):Bool:=(wrap64 ((i:Int)+wrap64 (b.tdiv 16))).tmod 2==0
theorem turned_walk(nodes:Int)(raw:List Int)(ra:Option Addr)(rc:Nat)(odd:List Int)(oa:Option Addr)(oc:Nat)(bye:Int)(w:World)(hnb:-9223372036854775808≤nodes∧nodes≤9223372036854775807)(hraw:Raws w ra raw)(hrl:(raw.length:Int)<35184372088832)(hodd:Raws w oa odd)(hby:-9223372036854775808≤bye∧bye≤9223372036854775807):
 Calls Tryz.prog 5 #[.int .i64 nodes,.slice ra raw.length rc,.slice oa odd.length oc,.int .i64 bye] w fun r w'=>r=.returned (.bool true)∧Keep nil w w':=by
 have HG:Unit→_:=fun _=>graph_any nodes raw ra rc w hnb hraw hrl
 have HD:Unit→∀w1,Keep nil w w1→Raws w1 oa odd:=fun _ w1 k1=>hodd.keep k1
 have HGE:Unit→Chk (gn nodes:Int) (ges nodes raw) 0∧(ges nodes raw).length≤24:=fun _=>⟨ges_chk nodes raw,by have:=Ghs.gL_len nodes raw;rw[(Ghs.gL_perm nodes raw).length_eq]at this;rw[Ghs.ges_M,List.length_map];exact this⟩
 obtain⟨nn,hnn⟩:∃nn,nn=gn nodes:=⟨_,rfl⟩
 obtain⟨es,hes⟩:∃es,es=ges nodes raw:=⟨_,rfl⟩
 have HNN:Unit→1≤nn∧nn≤8:=fun _=>by rw[hnn];exact gn_in nodes
 rw[←hnn,←hes]at HG HGE
 have HBY:Unit→-9223372036854775808≤bye∧bye≤9223372036854775807:=fun _=>hby
 clear hraw hrl hnb hnn hes hodd hby
 have hn1:(0:Int)<(nn:Int):=by have:=HNN ();omega
 have hn8:(nn:Int)≤8:=by have:=HNN ();omega
 go_enter Tryz.func5,Tryz.ntmps5
 go_wp2_with fail
 refine Calls.mono (HG ()) ?_
 rintro r w1 ⟨a1,c1,rfl,ht,h0⟩
 have H1:Unit→Tre w w1 es a1 c1∧(es=[]→a1=none∧c1=0):=fun _=>⟨ht,h0⟩
 clear ht h0 HG
 go_upto_region 3 with fail
 go_cut [10,11] (fun u v wx=>u=.slice a1 es.length c1∧∃a2 c2,v=.slice a2 es.length c2∧Tre w1 wx es a2 c2)
 case first=>
  by_cases he:es=[]
  ·have HE:Unit→es=[]:=fun _=>he
   obtain⟨e1,e2⟩:=(H1 ()).2 he
   have e3:es.length=0:=by rw[he];rfl
   rw[e3,e1,e2]
   clear e1 e2 e3 he
   go_wp2_with fail
   go_meet
   case rel=>
    have he:=HE ()
    obtain⟨e1,e2⟩:=(H1 ()).2 he
    subst he
    rw[e1,e2]
    exact⟨rfl,none,0,rfl,Keep.refl _ _,RV.nil _ _ _,fun g e=>(inB_none g e).elim⟩
  ·obtain⟨g,o,hga,hvb⟩:=rv_pos (H1 ()).1.row (List.length_pos_iff.2 he)
   have HV:Unit→VBo w1 g o 30 3 (ecells es) c1∧0<es.length∧es.length≤24:=fun _=>⟨hvb,List.length_pos_iff.2 he,(HGE ()).2⟩
   have HGA:Unit→a1=some ⟨g,o,none⟩:=fun _=>hga
   rw[hga]
   obtain⟨ln,hln⟩:∃ln,ln=es.length:=⟨_,rfl⟩
   have HLN:Unit→ln=es.length:=fun _=>hln
   obtain⟨ls,hls⟩:∃ls,ls=ecells es:=⟨_,rfl⟩
   have HLS:Unit→ls=ecells es:=fun _=>hls
   rw[←hln]
   clear hga hvb he hln hls
   go_wp2_with (at_builtin;refine wpList_append_rvS _ rfl (.tmp 28) (.tmp 29) 26 rfl 30 (.agg #[.int .i64 0,.int .i64 0,.int .i64 0]) 3 24 Tryz.underlying26 edge_info rfl none 0 0 rfl [] (RV.nil _ _ _) ⟨g,o,none⟩ ln c1 (by have:=HV ();have:=HLN ();omega) rfl ls (by rw[HLS (),HLN ()];exact ecells_len es) (fun j u hu=>by rw[Addr.add_lit];rw[HLS ()]at hu;exact(HV ()).1.cell j u hu) (by rw[HLS ()];exact ecells_one es) (by have:=HV ();have:=HLN ();omega) (by have:=HV ();have:=HLN ();omega) ?_;intro a' c' w4 hb4 hd4 hk4)
   go_meet
   case rel=>
    rw[HLS (),HLN (),List.nil_append,Nat.zero_add]at hb4
    refine⟨by rw[HGA (),HLN ()],a',c',by rw[HLN ()],hk4.mono (fun i _ e=>inB_none i e),hb4,fun i hi=>?_⟩
    rcases hd4 with⟨e,_⟩|⟨e,_⟩
    ·rw[e]at hi;exact(inB_none i hi).elim
    ·rw[e]at hi;have:=inB_some.1 hi;omega
 case rest=>
  obtain⟨rfl,a2,c2,rfl,t2⟩:=hcut
  obtain⟨W2,hW2⟩:∃W2,W2=wc:=⟨_,rfl⟩
  subst hW2
  have H2:Unit→Tre w W2 es a2 c2∧RV W2 30 3 a1 es.length c1 (ecells es)∧(∀g,inB a1 g→¬inB a2 g):=fun _=>⟨⟨(H1 ()).1.keep.trans t2.keep,t2.row,fun g hg=>Nat.le_trans (H1 ()).1.keep.size (t2.new g hg)⟩,(H1 ()).1.row.keep t2.keep (fun _ _ e=>e),fun g hg e=>by have:=(H1 ()).1.row.lt g hg;have:=t2.new g e;omega⟩
  clear t2
  go_upto_if 33 with fail
  go_cut [2,11] (fun _ v wx=>∃al a3 c3,v=.slice a3 al.length c3∧Tre w wx al a3 c3∧al.length≤25∧RV wx 30 3 a1 es.length c1 (ecells es))
  case first=>
   by_cases ho:3≤odd.length
   ·have hoI:(3:Int)≤(odd.length:Int):=by omega
    obtain⟨x,hx⟩:∃x,odd[0]?=some x:=⟨_,List.getElem?_eq_getElem (by omega)⟩
    obtain⟨y,hy⟩:∃y,odd[1]?=some y:=⟨_,List.getElem?_eq_getElem (by omega)⟩
    obtain⟨z,hz⟩:∃z,odd[2]?=some z:=⟨_,List.getElem?_eq_getElem (by omega)⟩
    obtain⟨_,bb,bo,h1,h2,h3⟩:=HD () W2 (H2 ()).1.keep 0 x hx
    obtain⟨_,bb',bo',h1',h2',h3'⟩:=HD () W2 (H2 ()).1.keep 1 y hy
    obtain⟨_,bb'',bo'',h1'',h2'',h3''⟩:=HD () W2 (H2 ()).1.keep 2 z hz
    rw[h1]at h1' h1''
    cases h1'
    cases h1''
    obtain⟨ol,hol⟩:∃ol,ol=odd.length:=⟨_,rfl⟩
    rw[←hol]at hoI
    rw[←hol]
    rw[h1]
    have HLN:Unit→es.length≤24:=fun _=>(HGE ()).2
    obtain⟨ls,hls⟩:∃ls,ls=ecells es:=⟨_,rfl⟩
    have HLS:Unit→ls=ecells es:=fun _=>hls
    have HR:Unit→RV W2.drew 30 3 a2 es.length c2 ls:=fun _=>by rw[HLS ()];exact(H2 ()).1.row.keep ((Keep.refl nil W2).drew) (fun _ _ e=>e)
    have hb2:(2:Int)<(ol:Int):=by omega
    have hb1:(1:Int)<(ol:Int):=by omega
    have hb0:(0:Int)<(ol:Int):=by omega
    have hb00:0<ol:=by omega
    rw[Nat.add_zero]at h3
    clear h1 h2' h2'' hx hy hz ho hls hol
    go_wp2_with fail
    go_region_law (refine step_append_rvS rfl (.tmp 34) (.tmp 45) 26 rfl 30 (.agg #[.int .i64 0,.int .i64 0,.int .i64 0]) 3 24 Tryz.underlying26 edge_info rfl a2 es.length c2 (by simp[Act.eval,Act.put]) ls ((HR ()).alloc _) ⟨W2.heap.size,0,none⟩ 1 1 (by omega) rfl [.int .i64 x,.int .i64 y,.int .i64 z] rfl (cells_elist W2.drew [.int .i64 x,.int .i64 y,.int .i64 z] 30 _ rfl) (by intro u hu;simp at hu;rcases hu with rfl|rfl|rfl<;>rfl) (by have:=HLN ();omega) (by have:=HLN ();omega) ?_;intro a' c' w4 hb4 hd4 hk4)
    all_goals
     go_wp2_with fail
     go_meet
     case rel=>
      rw[HLS ()]at hb4
      have kk:Keep (inB a2) W2 w4:=((((Keep.refl nil W2).drew).alloc _).mono (fun _ _ e=>e.elim)).trans hk4
      have hn:=(H2 ()).1.next ⟨x,y,z⟩ (k4:=(Keep.refl nil W2).drew) hb4 hd4 ((((Keep.refl nil W2.drew).alloc _).mono (fun _ _ e=>e.elim)).trans hk4)
      exact⟨es++[⟨x,y,z⟩],a',c',by simp,hn,by have:=HLN ();simp;omega,(H2 ()).2.1.keep kk (H2 ()).2.2⟩
   ·have hoI:¬((3:Int)≤(odd.length:Int)):=by omega
    clear ho
    go_wp2_with fail
    go_meet
    case rel=>exact⟨es,a2,c2,rfl,(H2 ()).1,by have:=(HGE ()).2;omega,(H2 ()).2.1⟩
  case rest=>
   obtain⟨al,a3,c3,rfl,t3,hal,r3⟩:=hcut
   obtain⟨W3,hW3⟩:∃W3,W3=wc:=⟨_,rfl⟩
   subst hW3
   have H3:Unit→Tre w W3 al a3 c3∧al.length≤25∧RV W3 30 3 a1 es.length c1 (ecells es):=fun _=>⟨t3,hal,r3⟩
   clear t3 hal r3 H2 HD
   go_wp2_with fail
   obtain⟨p,hp⟩:∃p,p=pk bye (al.length:Int):=⟨_,rfl⟩
   have HP:Unit→0<al.length→p<al.length∧∀w1,Calls Tryz.prog 12 #[.int .i64 bye,.int .i64 (al.length:Int)] w1 fun e w2=>e=.returned (.int .i64 (p:Int))∧w1=w2:=fun _ h=>by
    have h9:=(H3 ()).2.1
    have h1:=pk_lt bye (al.length:Int) (by omega)
    refine⟨by rw[hp];omega,fun w1=>?_⟩
    rw[hp]
    exact pick_fun bye (al.length:Int) (HBY ()).1 (HBY ()).2 (by omega) (by omega) w1
   clear hp
   go_loopw [12,13] (fun u v wx=>∃(k:Nat) (a4:Option Addr) (c4:Nat),k≤al.length∧v=.int .i64 (k:Int)∧u=.slice a4 k c4∧Tns W3 wx al (tnl (tfl bye) p al k) a3 a4 c3 c4) (fun _ v _=>al.length - (intOf v).toNat)
   case atStart=>exact⟨0,none,0,Nat.zero_le _,rfl,rfl,Keep.refl _ _,(H3 ()).1.row,RV.nil _ _ _,fun g e=>(inB_none g e).elim,fun _=>⟨rfl,rfl⟩⟩
   case round=>
    obtain⟨k,a4,c4,hk,rfl,rfl,t4⟩:=hrel
    have H4:Unit→Tns W3 wr al (tnl (tfl bye) p al k) a3 a4 c3 c4∧k≤al.length:=fun _=>⟨t4,hk⟩
    by_cases hkl:k<al.length
    ·skip
     have HKL:Unit→k<al.length:=fun _=>hkl
     have hkI:(k:Int)<(al.length:Int):=by omega
     have hl25:(al.length:Int)≤25:=by have:=(H3 ()).2.1;omega
     obtain⟨e,he⟩:∃e,al[(k+p) % al.length]?=some e:=⟨_,List.getElem?_eq_getElem (Nat.mod_lt _ (by omega))⟩
     obtain⟨g,o,hga,hgl,e0,e1,e2⟩:=edge_at t4.row he (Nat.mod_lt _ (by omega))
     have HE:Unit→al[(k+p) % al.length]?=some e:=fun _=>he
     have hpl:=(HP () (by omega)).1
     have hix:=Int.emod_lt_of_pos ((k:Int)+(p:Int)) (show (0:Int)<(al.length:Int)by omega)
     have hix0:=Int.emod_nonneg ((k:Int)+(p:Int)) (show (al.length:Int)≠0 by omega)
     have hixn:=Nat.mod_lt (k+p) (show 0<al.length by omega)
     have HGA:Unit→a3=some ⟨g,o,none⟩:=fun _=>hga
     rw[hga]
     obtain⟨x,y,z⟩:=e
     simp only at e0 e1 e2
     clear hk hkl t4 he hga
     go_upto_if 70 with (go_at_call 12;refine((HP () (by have:=HKL ();omega)).2 _).mono ?_;rintro r w0 ⟨rfl,rfl⟩)
     obtain⟨W5,hW5⟩:∃W5,W5=wr.alloc (.cells #[.int .i64 x,.int .i64 y,.int .i64 z] 30):=⟨_,rfl⟩
     obtain⟨eb,heb⟩:∃eb,eb=wr.heap.size:=⟨_,rfl⟩
     have k5:Keep nil wr W5:=by rw[hW5];exact(Keep.refl nil wr).alloc _
     have hb5:Blk W5 eb #[.int .i64 x,.int .i64 y,.int .i64 z] 30:=by rw[hW5,heb];exact Blk.new _ _ _
     have H5:Unit→Keep nil wr W5∧eb=wr.heap.size∧Blk W5 eb #[.int .i64 x,.int .i64 y,.int .i64 z] 30:=fun _=>⟨k5,heb,hb5⟩
     rw[←hW5,←heb]
     obtain⟨fl,hfl⟩:∃fl,fl=((wrap64 ((k:Int)+wrap64 (bye.tdiv 16))).tmod 2==0):=⟨_,rfl⟩
     rw[←hfl]
     have HFL:Unit→tfl bye k=fl:=fun _=>hfl.symm
     clear hW5 heb k5 hfl e0 e1 e2 hgl hix hix0 hixn
     go_cut [] (fun wx=>Keep nil wr wx∧∃e':Ed,e'=tne (tfl bye) p al k∧Blk wx eb #[.int .i64 e'.a,.int .i64 e'.b,.int .i64 e'.wt] 30)
     case first=>
      have c0:=hb5.cell 0
      have c1':=hb5.cell 1
      have c2':=hb5.cell 2
      simp at c0 c1' c2'
      have f0:=hb5.frozen 0
      have f1:=hb5.frozen 1
      have f2:=hb5.frozen 2
      have hbl:=hb5.lt
      clear hb5
      have HT:Unit→tne (tfl bye) p al k=if fl then flp ⟨x,y,z⟩else ⟨x,y,z⟩:=fun _=>by
       unfold tne
       rw[HFL (),List.getD_eq_getElem?_getD,HE ()]
       rfl
      cases fl with
      |true=>
       go_wp2_with fail
       go_meet
       case rel=>
        obtain⟨q1,q2,q3⟩:=H5 ()
        have ks:=(((Keep.refl (only eb) W5).setCell (p:=⟨eb,0,none⟩) (fun _=>rfl) (.int .i64 y)).setCell (p:=⟨eb,1,none⟩) (fun _=>rfl) (.int .i64 x)).setCell (p:=⟨eb,2,none⟩) (fun _=>rfl) (.int .i64 z)
        refine⟨q1.trans' ks (fun i hi e=>by have e:i=eb:=e;omega),⟨y,x,z⟩,by rw[HT ()];rfl,?_⟩
        exact((q3.set 0 (.int .i64 y)).set 1 (.int .i64 x)).set 2 (.int .i64 z)
      |false=>
       go_wp2_with fail
       go_meet
       case rel=>
        obtain⟨q1,q2,q3⟩:=H5 ()
        exact⟨q1,⟨x,y,z⟩,by rw[HT ()];rfl,q3⟩
     case rest=>
      obtain⟨k6,e',he',hb6⟩:=hcut
      obtain⟨W6,hW6⟩:∃W6,W6=wc:=⟨_,rfl⟩
      subst hW6
      obtain⟨x',y',z'⟩:=e'
      simp only at hb6
      have H6:Unit→Keep nil wr W6∧(⟨x',y',z'⟩:Ed)=tne (tfl bye) p al k:=fun _=>⟨k6,he'⟩
      have c0:=hb6.cell 0
      have c1':=hb6.cell 1
      have c2':=hb6.cell 2
      simp at c0 c1' c2'
      have hbl:=hb6.lt
      obtain⟨ls,hls⟩:∃ls,ls=ecells (tnl (tfl bye) p al k):=⟨_,rfl⟩
      have HLS:Unit→ls=ecells (tnl (tfl bye) p al k):=fun _=>hls
      have HR:Unit→RV W6 30 3 a4 k c4 ls:=fun _=>by
       have h1:=(H4 ()).1.trow.keep (H6 ()).1 (fun _ _ e=>e)
       rw[tnl_len]at h1
       rw[HLS ()];exact h1
      clear k6 he' hb6 hls hb5
      go_wp2_with (at_builtin;refine wpList_append_rvS _ rfl (.tmp 78) (.tmp 80) 26 rfl 30 (.agg #[.int .i64 0,.int .i64 0,.int .i64 0]) 3 24 Tryz.underlying26 edge_info rfl a4 k c4 rfl ls ((HR ()).alloc _) ⟨W6.heap.size,0,none⟩ 1 1 (by omega) rfl [.int .i64 x',.int .i64 y',.int .i64 z'] rfl (cells_elist W6 [.int .i64 x',.int .i64 y',.int .i64 z'] 30 _ rfl) (by intro u hu;simp at hu;rcases hu with rfl|rfl|rfl<;>rfl) (by have:=HKL ();have:=H3 ();omega) (by have:=HKL ();have:=H3 ();omega) ?_;intro a' c' w7 hb7 hd7 hk7)
      have hN:=(H4 ()).1.next (fun g hg=>(H3 ()).1.row.lt g hg) ⟨x',y',z'⟩ (H6 ()).1 (w6:=w7) (a':=a') (c':=c') (by rw[tnl_len,←HLS ()];exact hb7) (fun g hg=>by
       rcases hd7 with⟨e,_⟩|⟨e,_⟩
       ·rw[e]at hg;exact Or.inl hg
       ·rw[e]at hg
        have:=inB_some.1 hg
        simp only[World.size_alloc]at this
        exact Or.inr (by omega)) ((((Keep.refl nil W6).alloc _).mono (fun _ _ e=>e.elim)).trans hk7)
      rw[(H6 ()).2,←tnl_succ]at hN
      rw[HGA ()]at hN
      refine⟨⟨k+1,a',c',by have:=HKL ();omega,by go_num,rfl,hN⟩,by have:=HKL ();simp[intOf];omega⟩
    ·skip
     have hke:k=al.length:=by omega
     subst hke
     have hkI:¬((al.length:Int)<(al.length:Int)):=by omega
     obtain⟨tl,htl⟩:∃tl,tl=tnl (tfl bye) p al al.length:=⟨_,rfl⟩
     have htn:tl.length=al.length:=by rw[htl,tnl_len]
     have HA:Unit→Alk al tl:=fun _=>by rw[htl];exact tnl_alk _ _ _ (fun h=>(HP () (by omega)).1)
     rw[←htl]at t4
     have h5:Tns W3 wr al tl a3 a4 c3 c4:=t4
     obtain⟨ln,hln⟩:∃ln,ln=al.length:=⟨_,rfl⟩
     have HT:Unit→Keep nil w wr∧RV wr 30 3 a3 ln c3 (ecells al)∧RV wr 30 3 a4 ln c4 (ecells tl)∧RV wr 30 3 a1 es.length c1 (ecells es)∧(tl=[]→a4=none∧c4=0)∧tl.length=ln∧al.length=ln∧ln≤25:=fun _=>⟨(H3 ()).1.keep.trans h5.keep,by rw[hln];exact h5.row,by rw[hln,←htn];exact h5.trow,(H3 ()).2.2.keep h5.keep (fun _ _ e=>e),h5.nil0,by rw[hln];exact htn,hln.symm,by rw[hln];exact(H3 ()).2.1⟩
     have HC1:Unit→∀w1,Keep nil wr w1→Calls Tryz.prog 13 #[.int .i64 (nn:Int),.slice a3 ln c3] w1 fun r w'=>∃z:Int,r=.returned (.int .i64 z)∧Chk (nn:Int) al z∧Keep nil w1 w':=fun _ w1 k1=>by
      have hr:=(HT ()).2.1.keep k1 (fun _ _ e=>e)
      rw[←(HT ()).2.2.2.2.2.2.1]at hr⊢
      exact arborCheck_any (nn:Int) a3 al c3 w1 (rv_esl hr).1 (rv_esl hr).2
     have HC2:Unit→∀w1 z,Keep nil wr w1→Chk (nn:Int) al z→Calls Tryz.prog 13 #[.int .i64 (nn:Int),.slice a4 ln c4] w1 fun r w'=>r=.returned (.int .i64 z)∧Keep nil w1 w':=fun _ w1 z k1 hz=>by
      have hr:=(HT ()).2.2.1.keep k1 (fun _ _ e=>e)
      rw[←(HT ()).2.2.2.2.2.1]at hr⊢
      refine(arborCheck_any (nn:Int) a4 tl c4 w1 (rv_esl hr).1 (rv_esl hr).2).mono ?_
      rintro r w' ⟨z',rfl,hz',k⟩
      rw[Chk.uniq hz' (chk_alk (HA ()) hz)]
      exact⟨rfl,k⟩
     have HC3:Unit→∀w1,Keep nil wr w1→Calls Tryz.prog 13 #[.int .i64 (nn:Int),.slice a1 es.length c1] w1 fun r w'=>r=.returned (.int .i64 0)∧Keep nil w1 w':=fun _ w1 k1=>by
      have hr:=(HT ()).2.2.2.1.keep k1 (fun _ _ e=>e)
      refine(arborCheck_any (nn:Int) a1 es c1 w1 (rv_esl hr).1 (rv_esl hr).2).mono ?_
      rintro r w' ⟨z',rfl,hz',k⟩
      rw[Chk.uniq hz' (HGE ()).1]
      exact⟨rfl,k⟩
     have hkI:¬((ln:Int)<(ln:Int)):=by omega
     rw[←hln]
     clear hk hkl t4 h5 htl htn hln H4 H3 HP H1
     go_wp2_with fail
     refine Calls.mono (HC1 () wr (Keep.refl nil _)) ?_
     rintro r w5 ⟨z,rfl,hz,k5⟩
     have H5:Unit→Keep nil wr w5∧Chk (nn:Int) al z:=fun _=>⟨k5,hz⟩
     clear k5 hz HC1
     go_wp2_with fail
     refine Calls.mono (HC2 () w5 z (H5 ()).1 (H5 ()).2) ?_
     rintro r w6 ⟨rfl,k6⟩
     have H6:Unit→Keep nil wr w6:=fun _=>(H5 ()).1.trans k6
     clear k6 HC2
     go_wp2_with fail
     refine Calls.mono (HC3 () w6 (H6 ())) ?_
     rintro r w7 ⟨rfl,k7⟩
     have H7:Unit→Keep nil wr w7:=fun _=>(H6 ()).trans k7
     clear k7 HC3
     by_cases hz:z=0
     ·skip
      subst hz
      have HCK:Unit→Chk (nn:Int) tl 0:=fun _=>chk_alk (HA ()) (H5 ()).2
      have HR7:Unit→RV w7 30 3 a4 tl.length c4 (ecells tl):=fun _=>by
       have hr:=(HT ()).2.2.1.keep (H7 ()) (fun _ _ e=>e)
       rw[←(HT ()).2.2.2.2.2.1]at hr
       exact hr
      have HNW:Unit→Calls Tryz.prog 14 #[.int .i64 (nn:Int),.slice a4 ln c4] w7 fun r w'=>∃N:Nt,r=.returned (.tuple #[.pointer (some ⟨N.nb,0,none⟩),.int .i64 0])∧Tnf w w' N (AN.fresh nn (srt tl)) 0 tl a4 c4:=fun _=>by
       have h1:=arborNew_any nn tl a4 c4 w7 (rv_esl (HR7 ())).1 (rv_esl (HR7 ())).2 (by
        by_cases e:tl=[]
        ·exact Or.inl ((HT ()).2.2.2.2.1 e)
        ·exact Or.inr e) (HCK ())
       rw[(HT ()).2.2.2.2.2.1]at h1
       refine h1.mono ?_
       rintro r w' ⟨N,rfl,q1,q2,q3,q4⟩
       refine⟨N,rfl,((HT ()).1.trans (H7 ())).trans q3,q1,q2,fun k e=>?_,(HR7 ()).keep q3 (fun _ _ e=>e),fun g hg e=>?_⟩
       ·have:=q4 k e
        have:=((HT ()).1.trans (H7 ())).size
        omega
       ·have:=q4 g e
        have:=(HR7 ()).lt g hg
        omega
      go_wp2_with fail
      refine Calls.mono (HNW ()) ?_
      rintro r w8 ⟨N,rfl,t8⟩
      obtain⟨xb,hxb⟩:∃xb,xb=N.nb:=⟨_,rfl⟩
      rw[←hxb]
      have H8:Unit→Tnf w w8 N (AN.fresh nn (srt tl)) 0 tl a4 c4∧xb=N.nb:=fun _=>⟨t8,hxb⟩
      have HL:Unit→tl.length≤25:=fun _=>by rw[(HT ()).2.2.2.2.2.1];exact(HT ()).2.2.2.2.2.2.2
      have HW:Unit→Calls Tryz.prog 15 #[.pointer (some ⟨xb,0,none⟩),.int .i64 0] w8 fun r w'=>∃v,r=.returned v∧v=.int .i64 0∧∃N',Tnf w w' N' ((AN.fresh nn (srt tl)).wake 0) 90 tl a4 c4∧N'.nb=xb∧N'.sps.length=nn∧Ghs.V.AI (Ghs.topL (eL_simple (HCK ()))) N'.abs:=fun _=>by
       obtain⟨ht,hxb⟩:=H8 ()
       have hsl:N.sps.length=nn:=by rw[abs_nn ht.xa];exact(new_ai (HCK ())).2
       obtain⟨s,hs⟩:∃s,N.sps[0]?=some s:=⟨_,List.getElem?_eq_getElem (by rw[hsl];exact(HNN ()).1)⟩
       have h1:=awake (R:=fun v w'=>v=.int .i64 0∧∃N',Tnf w w' N' ((AN.fresh nn (srt tl)).wake 0) 90 tl a4 c4∧N'.nb=xb∧N'.sps.length=nn∧Ghs.V.AI (Ghs.topL (eL_simple (HCK ()))) N'.abs) N.nb ((0:Nat):Int) w8 ((mwake_any N 0 s 0 w8 ht.x.rep hs ht.x.ok ht.x.st).mono (by
        rintro r w' ⟨rfl,N',b1,b2,b3,b4,b5,b6⟩
        have hai:Ghs.V.AI (Ghs.topL (eL_simple (HCK ()))) N'.abs:=by
         rw[b2,ht.xa]
         exact(new_tree (HCK ()) (HNN ()).2 (HL ())).1
        have h2:=ht.next (low_ok (eL_dg (HCK ()) (HL ())) ⟨b1,b5,b6,es_to ht.x.es b3,by rw[b3.len];exact ht.x.some_⟩ hai) b3
        rw[b2,ht.xa]at h2
        exact⟨_,rfl,rfl,N',h2,by rw[b3.nb];exact hxb.symm,by rw[b3.len];exact hsl,hai⟩))
       rw[←hxb]at h1
       exact h1
      clear t8 hxb HNW HR7
      go_wp2_with fail
      refine Calls.mono (HW ()) ?_
      rintro r w9 ⟨v,rfl,rfl,N1,t9,hxb,hsl,hai⟩
      have H9:Unit→Tnf w w9 N1 ((AN.fresh nn (srt tl)).wake 0) 90 tl a4 c4∧N1.nb=xb∧N1.sps.length=nn∧Ghs.V.AI (Ghs.topL (eL_simple (HCK ()))) N1.abs:=fun _=>⟨t9,hxb,hsl,hai⟩
      clear t9 hxb hsl hai HW H8
      go_wp2_with fail
      refine Calls.mono (by have:=settle_any (eL_small (HCK ()) (HNN ()).2 (HL ())) (eL_dg (HCK ()) (HL ())) N1 w9 (H9 ()).1.x (H9 ()).2.2.2;rw[(H9 ()).2.1,(H9 ()).2.2.1]at this;exact this) ?_
      rintro r w10 ⟨rfl,N2,hs2,hab⟩
      obtain⟨A2,hA2⟩:∃A2,A2=Ghs.V.stl nn 400 ((AN.fresh nn (srt tl)).wake 0):=⟨_,rfl⟩
      obtain⟨F,hF⟩:∃F,F=((Ghs.krs (eL tl)).2).map Ghs.ed3:=⟨_,rfl⟩
      have H10:Unit→Tnf w w10 N2 A2 90 tl a4 c4∧N2.nb=xb∧A2.tree=F:=fun _=>by
       have h1:=(H9 ()).1.next hs2.ok hs2.tn
       rw[hab,(H9 ()).1.xa,←hA2]at h1
       exact⟨h1,by rw[hs2.tn.nb];exact(H9 ()).2.1,by rw[hA2,hF];exact(new_tree (HCK ()) (HNN ()).2 (HL ())).2⟩
      have HF:Unit→F.length≤7∧F=((Ghs.krs (eL tl)).2).map Ghs.ed3:=fun _=>by
       refine⟨?_,hF⟩
       have h3:=Ghs.krs_len (HNN ()).1 (L:=eL tl) (fun e he=>⟨((eL_simple (HCK ())).ok e he).1,((eL_simple (HCK ())).ok e he).2.1⟩)
       have h4:=(HNN ()).2
       rw[hF,List.length_map]
       omega
      have HT1:Unit→Calls Tryz.prog 17 #[.pointer (some ⟨xb,0,none⟩)] w10 fun r w'=>∃v,r=.returned v∧∃a c,v=.slice a F.length c∧Tre w10 w' F a c:=fun _=>by
       have ht:=(H10 ()).1
       have htr:N2.abs.tree=F:=by rw[ht.xa];exact(H10 ()).2.2
       have h1:=atree (R:=fun v w'=>∃a c,v=.slice a F.length c∧Tre w10 w' F a c) N2.nb w10 ((mtree_any N2 _ w10 ht.x.rep ht.x.ok ht.x.es).mono (by
        rintro r w' ⟨a,c,rfl,h⟩
        rw[htr]at h
        exact⟨_,rfl,a,c,by rw[htr],h⟩))
       rw[(H10 ()).2.1]at h1
       exact h1
      clear hs2 hab hA2 hF H9
      go_wp2_with fail
      refine Calls.mono (HT1 ()) ?_
      rintro r w11 ⟨v5,rfl,ta,tc,rfl,t5⟩
      have H11:Unit→Tre w10 w11 F ta tc:=fun _=>t5
      clear t5 HT1
      have HLG:Unit→Calls Tryz.prog 18 #[.int .i64 (nn:Int),.slice a4 ln c4] w11 fun r w'=>∃a c,r=.returned (.slice a F.length c)∧Tre w11 w' F a c:=fun _=>by
       have hr:=((H10 ()).1.keepN (H11 ()).keep).row
       have e1:((tl.map Ghs.e3).map Ghs.ed3)=tl:=eM_ed (HCK ())
       have h1:=klight_more nn (tl.map Ghs.e3) a4 c4 w11 (by rw[e1,List.length_map];exact hr) (HNN ()).1 (HNN ()).2 (by rw[List.length_map];exact HL ()) (fun e he=>by
        obtain⟨f,hf,rfl⟩:=List.mem_map.1 he
        have h2:=ed_ok (HCK ()) hf
        exact⟨h2.1,h2.2.1,h2.2.2.2.1,h2.2.2.2.2.1⟩)
       rw[eT_loops (HCK ()),List.length_map,(HT ()).2.2.2.2.2.1,←(HF ()).2]at h1
       have e2:((Ghs.krs (eL tl)).2).length=F.length:=by rw[(HF ()).2,List.length_map]
       rw[e2]at h1
       exact h1
      go_wp2_with fail
      refine Calls.mono (HLG ()) ?_
      rintro r w12 ⟨ba,bc,rfl,t6⟩
      have H12:Unit→Tre w11 w12 F ba bc:=fun _=>t6
      clear t6 HLG
      go_wp2_with fail
      refine Calls.mono (same_yes F ta ba tc bc w12 ((H11 ()).row.keep (H12 ()).keep (fun _ _ e=>e)) (H12 ()).row (by have:=(HF ()).1;omega)) ?_
      rintro r w13 ⟨rfl,k13⟩
      have HK:Unit→Keep nil w w13:=fun _=>((((H10 ()).1.keep.trans (H11 ()).keep).trans (H12 ()).keep)).trans k13
      clear k13
      go_wp2
      go_ret
      exact⟨rfl,HK ()⟩
     ·skip
      have HNW:Unit→Calls Tryz.prog 14 #[.int .i64 (nn:Int),.slice a4 ln c4] w7 fun r w'=>r=.returned (.tuple #[.pointer none,.int .i64 z])∧Keep nil w7 w':=fun _=>by
       have hr:=(HT ()).2.2.1.keep (H7 ()) (fun _ _ e=>e)
       rw[←(HT ()).2.2.2.2.2.1]at hr⊢
       exact arborNew_no (nn:Int) tl a4 c4 w7 (rv_esl hr).1 (rv_esl hr).2 z (chk_alk (HA ()) (H5 ()).2) hz
      have hzB:(z==0)=false:=beq_eq_false_iff_ne.2 hz
      have hzN:(z != 0)=true:=by simp[hz]
      go_wp2_with fail
      refine Calls.mono (HNW ()) ?_
      rintro r w8 ⟨rfl,k8⟩
      have HK:Unit→Keep nil w w8:=fun _=>((HT ()).1.trans (H7 ())).trans k8
      clear k8 HNW
      go_wp2
      go_ret
      exact⟨rfl,HK ()⟩
end Go.Proofs.YtlfijfodklhplaaGreat
