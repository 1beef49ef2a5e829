import Derived.Test.YtlfijfodklhplaaGreatTn27
import Derived.Test.YtlfijfodklhplaaGreatTn23
import Derived.Deep.DeepCutAuto
import Derived.Deep.CutBlock
set_option maxRecDepth 100000
set_option maxHeartbeats 4000000
set_option linter.unusedVariables false
set_option linter.unusedSimpArgs false
namespace Go.Proofs.YtlfijfodklhplaaGreat
open Go.RowKit
def Raws(W:World)(ra:Option Addr)(raw:List Int):Prop:=∀(i:Nat) (c:Int),raw[i]?=some c→(-9223372036854775808≤c∧c≤9223372036854775807)∧∃bb bo,ra=some ⟨bb,bo,none⟩∧bb<W.heap.size∧W.cell? ⟨bb,bo+i,none⟩=some (.int .i64 c)
theorem Raws.keep{W W':World}{ra:Option Addr}{raw:List Int}(h:Raws W ra raw)(k:Keep nil W W'):Raws W' ra raw:=fun i c hi=>by
 obtain⟨h1,bb,bo,h2,h3,h4⟩:=h i c hi
 exact⟨h1,bb,bo,h2,Nat.lt_of_lt_of_le h3 k.size,(k.cell bb _ h3 id).trans h4⟩
theorem gcode_lt(raw:List Int)(i:Nat)(h:(raw.length:Int)<35184372088832)(hi:i≤raw.length+8):(gcode raw i:Int)<4611686018427387904:=by
 unfold gcode
 split
 ·have:=pk_lt (by assumption) 1099511627776 (by omega)
  omega
 ·omega
theorem nat_beq(m n:Nat):((m:Int)==(n:Int))=decide (m=n):=by
 by_cases e:m=n
 ·subst e;simp
 ·have:¬((m:Int)=(n:Int)):=by omega
  simp[e,this]
theorem same_bits(x y z ta tb tw:Nat):((((ta:Int)==(x:Int))&&((tb:Int)==(y:Int)))||(((ta:Int)==(y:Int))&&((tb:Int)==(x:Int))))=decide (Te.same ⟨x,y,z⟩ ⟨ta,tb,tw⟩):=by
 rw[nat_beq,nat_beq,nat_beq,nat_beq]
 rw[Bool.eq_iff_iff]
 simp only[Bool.or_eq_true,Bool.and_eq_true,decide_eq_true_eq]
 exact Iff.rfl
def cellN(wx:World)(eb:Nat):Nat:=match wx.cell? ⟨eb,2,none⟩with
 |some v=>(intOf v).toNat
 |none=>0
theorem cellN_of{wx:World}{eb:Nat}{x y:Value}{z:Nat}{t:TypeId}(h:Blk wx eb #[x,y,.int .i64 (z:Int)] t):cellN wx eb=z:=by
 unfold cellN
 rw[h.cell]
 simp[intOf]
def frm(u:Value)(n:Nat):Nat:=match u with
 | .bool true=>0
 |_=>1+n
theorem gls_full(n:Nat)(raw:List Int)(i:Nat)(h:¬(gls n raw i).length<24)(j:Nat)(hj:i≤j):gls n raw j=gls n raw i:=by
 induction j with
 |zero=>rw[show i=0 by omega]
 |succ j ih=>
  by_cases e:i=j+1
  ·rw[e]
  ·have h1:=ih (by omega)
   rw[gls,h1,if_neg h]
theorem far_step{f0 v:Nat}(h1:1≤f0)(h2:f0≤1000)(h3:1≤v)(h4:v≤1000)(h:v≠f0):(f0+1000 - (1+v % 1000)) % 1000<(f0+1000 - v) % 1000:=by omega
theorem graph_any(nodes:Int)(raw:List Int)(ra:Option Addr)(rc:Nat)(w:World)(hnb:-9223372036854775808≤nodes∧nodes≤9223372036854775807)(hraw:Raws w ra raw)(hrl:(raw.length:Int)<35184372088832):
 Calls Tryz.prog 11 #[.int .i64 nodes,.slice ra raw.length rc] w fun r w'=>∃a c,r=.returned (.tuple #[.int .i64 (gn nodes:Int),.slice a (ges nodes raw).length c])∧Tre w w' (ges nodes raw) a c∧(ges nodes raw=[]→a=none∧c=0):=by
 have HP:Unit→∀w1,_:=fun _ w1=>pick_fun nodes 8 hnb.1 hnb.2 (by omega) (by omega) w1
 have HR:Unit→Raws w ra raw∧(raw.length:Int)<35184372088832:=fun _=>⟨hraw,hrl⟩
 obtain⟨nn,hnn⟩:∃nn,nn=gn nodes:=⟨_,rfl⟩
 have HN:Unit→nn=gn nodes∧1≤nn∧nn≤8:=fun _=>⟨hnn,by rw[hnn];exact(gn_in nodes).1,by rw[hnn];exact(gn_in nodes).2⟩
 have hw1:IntKind.i64.wrap (1+(pk nodes 8:Int))=(nn:Int):=by
  have:=pk_lt nodes 8 (by omega)
  rw[IntKind.wrap_i64,hnn];unfold gn;omega
 obtain⟨pn,hpn⟩:∃pn,pn=pk nodes 8:=⟨_,rfl⟩
 rw[←hpn]at hw1 HP
 obtain⟨R,hR⟩:∃R,R=raw.length:=⟨_,rfl⟩
 have HRR:Unit→R=raw.length:=fun _=>hR
 obtain⟨Tt,hT⟩:∃Tt:Nat,Tt=R+nn - 1:=⟨_,rfl⟩
 have HTT:Unit→Tt=R+nn - 1:=fun _=>hT
 have hw2:IntKind.i64.wrap ((R:Int)+(nn:Int))=(R:Int)+(nn:Int):=by have:=HN ();rw[IntKind.wrap_i64];omega
 have hw3:IntKind.i64.wrap ((R:Int)+(nn:Int) - 1)=(Tt:Int):=by have:=HN ();rw[IntKind.wrap_i64];omega
 rw[←hR,←hnn]
 clear hraw hrl hnb hnn hpn hR hT
 go_enter Tryz.func11,Tryz.ntmps11
 go_wp2_with (go_at_call 12;refine(HP () _).mono ?_;rintro r w1 ⟨rfl,rfl⟩)
 clear HP hw1
 go_loopw [7,8] (fun u v wr=>∃(i:Nat) (a:Option Addr) (c:Nat),i≤Tt∧v=.int .i64 (i:Int)∧u=.slice a (gls nn raw i).length c∧Tre w wr ((gls nn raw i).map Te.ed) a c∧(gls nn raw i=[]→a=none∧c=0)) (fun _ v _=>Tt - (intOf v).toNat)
 case atStart=>exact⟨0,none,0,Nat.zero_le _,rfl,rfl,⟨by repeat (first|exact Keep.refl _ _|apply Keep.drew|apply Keep.alloc),RV.nil _ _ _,fun g hg=>(inB_none g hg).elim⟩,fun _=>⟨rfl,rfl⟩⟩
 case round=>
  obtain⟨i,a,c,hi,rfl,rfl,ht,h0⟩:=hrel
  have HQ:Unit→Tre w wr ((gls nn raw i).map Te.ed) a c∧i≤Tt∧(gls nn raw i=[]→a=none∧c=0):=fun _=>⟨ht,hi,h0⟩
  obtain⟨ln,hln⟩:∃ln,ln=(gls nn raw i).length:=⟨_,rfl⟩
  have HL:Unit→ln=(gls nn raw i).length:=fun _=>hln
  rw[←hln]
  clear ht hln h0
  by_cases hgo:i<Tt∧ln<24
  ·have hiT:(i:Int)<(Tt:Int):=by omega
   have hl24:(ln:Int)<24:=by omega
   have HG:Unit→i<Tt∧ln<24:=fun _=>hgo
   have hiT':(i:Int)<(R:Int)+(nn:Int) - 1:=by have:=HTT ();have:=HN ();omega
   clear hgo hi
   obtain⟨c0,hc0⟩:∃c0:Nat,c0=7 * i+3:=⟨_,rfl⟩
   have hbi:(i:Int)≤35184372088848:=by have:=HTT ();have:=HN ();have:=HR ();have:=HRR ();omega
   have hw4:IntKind.i64.wrap (7 * (i:Int))=7 * (i:Int):=by rw[IntKind.wrap_i64];omega
   have hw5:IntKind.i64.wrap (7 * (i:Int)+3)=(c0:Int):=by rw[IntKind.wrap_i64];omega
   have hw6:IntKind.i64.wrap ((i:Int)+1)=(i:Int)+1:=by rw[IntKind.wrap_i64];omega
   have HC0:Unit→c0=7 * i+3∧(i:Int)≤35184372088848:=fun _=>⟨hc0,hbi⟩
   clear hc0 hbi
   go_upto_if 38 with fail
   go_cut [9] (fun v wx=>v=.int .i64 (gcode raw i:Int)∧wx=wr)
   case first=>
    clear hw2 hw3 hw4 hw5 hw6
    by_cases hiR:i<R
    ·have hir:raw[i]?=some (raw[i]'(by rw[←HRR ()];exact hiR)):=List.getElem?_eq_getElem _
     obtain⟨x,hx⟩:∃x,raw[i]?=some x:=⟨_,hir⟩
     obtain⟨hxb,bb,bo,hra,hbl,hcell⟩:=((HR ()).1.keep (HQ ()).1.keep) i x hx
     have HX:Unit→raw[i]?=some x:=fun _=>hx
     have HPX:Unit→∀w1,_:=fun _ w1=>pick_fun x 1099511627776 hxb.1 hxb.2 (by omega) (by omega) w1
     obtain⟨px,hpx⟩:∃px,px=pk x 1099511627776:=⟨_,rfl⟩
     have hgc:gcode raw i=px:=by rw[hpx];unfold gcode;rw[hx]
     rw[←hpx]at HPX
     have hiR':(i:Int)<(R:Int):=by omega
     subst hra
     clear hir hx hxb hpx hiR
     go_wp2_with (go_at_call 12;refine(HPX () _).mono ?_;rintro r w1 ⟨rfl,rfl⟩)
     go_meet
     case rel=>exact⟨by rw[hgc],rfl⟩
    ·have hgc:gcode raw i=c0:=by
      unfold gcode
      rw[List.getElem?_eq_none (by rw[←HRR ()];omega)]
      exact(HC0 ()).1.symm
     have hiR':¬((i:Int)<(R:Int)):=by omega
     clear hiR
     go_wp2
     go_meet
     case rel=>exact⟨by rw[hgc],rfl⟩
   case rest=>
    obtain⟨rfl,hwx⟩:=hcut
    rw[hwx]
    clear hwx
    obtain⟨cc,hcc⟩:∃cc,cc=gcode raw i:=⟨_,rfl⟩
    rw[←hcc]
    obtain⟨q,hq⟩:∃q,q=cc / 64:=⟨_,rfl⟩
    obtain⟨m,hm⟩:∃m,m=q % 1000:=⟨_,rfl⟩
    have hcb:(cc:Int)<4611686018427387904:=by rw[hcc];exact gcode_lt raw i (HR ()).2 (by have:=HTT ();have:=HG ();have:=HN ();have:=HRR ();omega)
    have hd1:(cc:Int).tdiv 64=(q:Int):=by rw[hq,Int.tdiv_eq_ediv_of_nonneg (by omega)];omega
    have hd2:IntKind.i64.wrap (q:Int)=(q:Int):=by rw[IntKind.wrap_i64];omega
    have hd3:(q:Int).tmod 1000=(m:Int):=by rw[hm,Int.tmod_eq_emod_of_nonneg (by omega)];omega
    have hd4:IntKind.i64.wrap (m:Int)=(m:Int):=by rw[IntKind.wrap_i64];omega
    have hd5:IntKind.i64.wrap (1+(m:Int))=1+(m:Int):=by rw[IntKind.wrap_i64];omega
    have HCC:Unit→cc=gcode raw i∧m=cc / 64 % 1000∧(cc:Int)<4611686018427387904:=fun _=>⟨hcc,by rw[hm,hq],hcb⟩
    clear hcc hq hm hcb hw2 hw3 hw4 hw5
    go_upto_if 54 with fail
    obtain⟨W1,hW1⟩:∃W1,W1=wr.alloc (.cells #[.int .i64 ((i:Int)+1),.int .i64 0,.int .i64 (1+(m:Int))] 30):=⟨_,rfl⟩
    obtain⟨eb,heb⟩:∃eb,eb=wr.heap.size:=⟨_,rfl⟩
    have hB1:Blk W1 eb #[.int .i64 ((i:Int)+1),.int .i64 0,.int .i64 (1+(m:Int))] 30:=by rw[hW1,heb];exact Blk.new _ _ _
    have HK1:Unit→Keep nil wr W1∧eb=wr.heap.size∧Blk W1 eb #[.int .i64 ((i:Int)+1),.int .i64 0,.int .i64 (1+(m:Int))] 30:=fun _=>⟨by rw[hW1];exact(Keep.refl nil wr).alloc _,heb,hB1⟩
    have b0':W1.cell? ⟨eb,0,none⟩=some (.int .i64 ((i:Int)+1)):=by rw[hB1.cell];rfl
    have b1':W1.cell? ⟨eb,1,none⟩=some (.int .i64 0):=by rw[hB1.cell];rfl
    have z0:W1.frozen? ⟨eb,0,none⟩=false:=hB1.frozen 0
    have z1:W1.frozen? ⟨eb,1,none⟩=false:=hB1.frozen 1
    have hebl':eb<W1.heap.size:=hB1.lt
    rw[←hW1,←heb]
    clear hW1 heb hB1 hd1 hd2 hd3 hd4 hd5 hiT hiT' hl24
    go_cut [] (fun wx=>∃x y z:Nat,gte nn i (gcode raw i)=⟨x,y,z⟩∧Blk wx eb #[.int .i64 (x:Int),.int .i64 (y:Int),.int .i64 (z:Int)] 30∧Keep nil wr wx)
    case first=>
     have HS:Unit→∀(j:Nat) (v:Value) (wx:World),Keep nil wr wx→Keep nil wr (wx.setCell ⟨eb,j,none⟩ v):=fun _ j v wx k=>k.setCell (p:=⟨eb,j,none⟩) (fun e=>by have:=(HK1 ()).2.1;simp only at e;omega) v
     by_cases hin:i+1<nn
     ·obtain⟨y,hy⟩:∃y,y=cc % (i+1):=⟨_,rfl⟩
      have hin':(i:Int)+1<(nn:Int):=by omega
      have hi0:¬((i:Int)+1=0):=by omega
      have hm1:(cc:Int).tmod ((i:Int)+1)=(y:Int):=by rw[hy,Int.tmod_eq_emod_of_nonneg (by omega),Int.natCast_emod,Int.natCast_add];rfl
      have hm2:IntKind.i64.wrap (y:Int)=(y:Int):=by
       have:y<i+1:=by rw[hy];exact Nat.mod_lt _ (by omega)
       have:=HN ()
       rw[IntKind.wrap_i64];omega
      have HY:Unit→y=cc % (i+1)∧i+1<nn:=fun _=>⟨hy,hin⟩
      clear hy hin
      go_wp2
      go_meet
      case rel=>
       refine⟨i+1,y,1+m,?_,?_,HS () _ _ _ (HK1 ()).1⟩
       ·unfold gte
        rw[if_pos (HY ()).2,(HCC ()).2.1,(HY ()).1,(HCC ()).1]
       ·have:=(HK1 ()).2.2.set 1 (.int .i64 (y:Int))
        simpa using this
     ·obtain⟨x,hx⟩:∃x,x=cc % nn:=⟨_,rfl⟩
      obtain⟨e8,he8⟩:∃e8,e8=cc / 8:=⟨_,rfl⟩
      obtain⟨y,hy⟩:∃y,y=e8 % nn:=⟨_,rfl⟩
      have hn0:0<nn:=by have:=HN ();omega
      have hin':¬((i:Int)+1<(nn:Int)):=by omega
      have hi0:¬((nn:Int)=0):=by omega
      have hm1:(cc:Int).tmod (nn:Int)=(x:Int):=by rw[hx,Int.tmod_eq_emod_of_nonneg (by omega),Int.natCast_emod]
      have hm2:IntKind.i64.wrap (x:Int)=(x:Int):=by
       have:x<nn:=by rw[hx];exact Nat.mod_lt _ hn0
       have:=HN ()
       rw[IntKind.wrap_i64];omega
      have hm3:(cc:Int).tdiv 8=(e8:Int):=by rw[he8,Int.tdiv_eq_ediv_of_nonneg (by omega)];omega
      have hm4:IntKind.i64.wrap (e8:Int)=(e8:Int):=by have:=HCC ();rw[IntKind.wrap_i64];omega
      have hm5:(e8:Int).tmod (nn:Int)=(y:Int):=by rw[hy,Int.tmod_eq_emod_of_nonneg (by omega),Int.natCast_emod]
      have hm6:IntKind.i64.wrap (y:Int)=(y:Int):=by
       have:y<nn:=by rw[hy];exact Nat.mod_lt _ hn0
       have:=HN ()
       rw[IntKind.wrap_i64];omega
      have HY:Unit→y=cc / 8 % nn∧x=cc % nn∧¬i+1<nn:=fun _=>⟨by rw[hy,he8],hx,hin⟩
      clear hy hin hx he8 hn0
      go_wp2
      go_meet
      case rel=>
       refine⟨x,y,1+m,?_,?_,HS () _ _ _ (HS () _ _ _ (HK1 ()).1)⟩
       ·unfold gte
        rw[if_neg (HY ()).2.2,(HCC ()).2.1,(HY ()).1,(HY ()).2.1,(HCC ()).1]
       ·have:=((HK1 ()).2.2.set 0 (.int .i64 (x:Int))).set 1 (.int .i64 (y:Int))
        simpa using this
    case rest=>
     obtain⟨x,y,z,hgt,hB,hK⟩:=hcut
     obtain⟨W2,hW2⟩:∃W2,W2=wc:=⟨_,rfl⟩
     subst hW2
     have HB:Unit→Blk W2 eb #[.int .i64 (x:Int),.int .i64 (y:Int),.int .i64 (z:Int)] 30∧Keep nil wr W2∧gte nn i (gcode raw i)=⟨x,y,z⟩:=fun _=>⟨hB,hK,hgt⟩
     have b0:W2.cell? ⟨eb,0,none⟩=some (.int .i64 (x:Int)):=by rw[hB.cell];rfl
     have b1:W2.cell? ⟨eb,1,none⟩=some (.int .i64 (y:Int)):=by rw[hB.cell];rfl
     have hebl:eb<W2.heap.size:=hB.lt
     clear hgt hB hK z0 z1 b0' b1' hebl'
     obtain⟨l,hl⟩:∃l,l=gls nn raw i:=⟨_,rfl⟩
     have HLL:Unit→ln=l.length∧RV W2 30 3 a ln c (ecells (l.map Te.ed))∧(ln:Int)<24∧l=gls nn raw i:=fun _=>by
      have h1:=HL ()
      have h2:=(HQ ()).1.row.keep (HB ()).2.1 (fun _ _ e=>e)
      rw[List.length_map,←h1,←hl]at h2
      exact⟨by rw[hl];exact h1,h2,by have:=HG ();omega,hl⟩
     clear hl
     go_upto_block 2 with fail
     go_cut [11] (fun v wx=>v=.bool (decide (gok l ⟨x,y,z⟩))∧Keep nil W2 wx)
     case first=>
      go_wp2_with fail
      go_loopw [11,12] (fun u v wx=>∃k:Nat,k≤ln∧v=.int .i64 (k:Int)∧u=.bool (decide (x≠y∧∀t∈l.take k,¬Te.same ⟨x,y,z⟩ t))∧Keep nil W2 wx) (fun _ v _=>ln - (intOf v).toNat)
      case atStart=>
       refine⟨0,Nat.zero_le _,rfl,?_,Keep.refl nil _⟩
       by_cases e:x=y
       ·subst e;simp
       ·have:¬((x:Int)=(y:Int)):=by omega
        simp[e,this]
      case round=>
       obtain⟨k,hk,rfl,rfl,hkw⟩:=hrel
       have HK:Unit→Keep nil W2 wr∧k≤ln:=fun _=>⟨hkw,hk⟩
       have b0:=(hkw.cell eb 0 hebl id).trans b0
       have b1:=(hkw.cell eb 1 hebl id).trans b1
       have hebl:eb<wr.heap.size:=Nat.lt_of_lt_of_le hebl hkw.size
       obtain⟨ok,hok⟩:∃ok:Bool,ok=decide (x≠y∧∀t∈l.take k,¬Te.same ⟨x,y,z⟩ t):=⟨_,rfl⟩
       have HOK:Unit→ok=decide (x≠y∧∀t∈l.take k,¬Te.same ⟨x,y,z⟩ t):=fun _=>hok
       rw[←hok]
       clear hok
       by_cases hkl:k<ln
       ·obtain⟨t,ht⟩:∃t,l[k]?=some t:=⟨_,List.getElem?_eq_getElem (by rw[←(HLL ()).1];exact hkl)⟩
        have HT:Unit→l[k]?=some t∧k<ln:=fun _=>⟨ht,hkl⟩
        have hmt:(l.map Te.ed)[k]?=some t.ed:=by rw[List.getElem?_map,ht];rfl
        obtain⟨g,q,hga,hgl,e0,e1,e2⟩:=edge_at ((HLL ()).2.1.keep hkw (fun _ _ e=>e)) hmt hkl
        obtain⟨ta,tb,tw⟩:=t
        simp only[Te.ed]at e0 e1 e2
        have hkI:(k:Int)<(ln:Int):=by omega
        have hk9:(k:Int)<24:=by have:=(HLL ()).2.2.1;omega
        subst hga
        clear hk hkl hkw ht hmt e2
        go_upto_region 18 with fail
        obtain⟨b1,hb1⟩:∃b1,((ta:Int)==(x:Int))=b1:=⟨_,rfl⟩
        obtain⟨b2,hb2⟩:∃b2,((tb:Int)==(y:Int))=b2:=⟨_,rfl⟩
        obtain⟨b3,hb3⟩:∃b3,((ta:Int)==(y:Int))=b3:=⟨_,rfl⟩
        obtain⟨b4,hb4⟩:∃b4,((tb:Int)==(x:Int))=b4:=⟨_,rfl⟩
        have HBB:Unit→((ta:Int)==(x:Int))=b1∧((tb:Int)==(y:Int))=b2∧((ta:Int)==(y:Int))=b3∧((tb:Int)==(x:Int))=b4:=fun _=>⟨hb1,hb2,hb3,hb4⟩
        go_cut [117] (fun v wx=>v=.bool ((b1&&b2)||(b3&&b4))∧Keep nil wr wx)
        case first=>
         have HKN:Unit→∀n,Keep nil wr (wr.drewN n):=fun _ n=>(Keep.refl nil wr).drewN n
         clear HBB HOK HK HT HLL HB HQ HG HCC HC0 HL HR HN HRR HTT
         cases b1
         ·cases b3
          ·go_quiet (fail)
           go_wp2_with fail
           go_meet
           case rel=>exact⟨rfl,HKN () _⟩
          ·cases b4
           ·go_quiet (fail)
            go_wp2_with fail
            go_meet
            case rel=>exact⟨rfl,HKN () _⟩
           ·go_quiet (fail)
            go_wp2_with fail
            go_meet
            case rel=>exact⟨rfl,HKN () _⟩
         ·cases b2
          ·cases b3
           ·go_quiet (fail)
            go_wp2_with fail
            go_meet
            case rel=>exact⟨rfl,HKN () _⟩
           ·cases b4
            ·go_quiet (fail)
             go_wp2_with fail
             go_meet
             case rel=>exact⟨rfl,HKN () _⟩
            ·go_quiet (fail)
             go_wp2_with fail
             go_meet
             case rel=>exact⟨rfl,HKN () _⟩
          ·go_quiet (fail)
           go_wp2_with fail
           go_meet
           case rel=>exact⟨rfl,HKN () _⟩
        case rest=>
         obtain⟨rfl,hkx⟩:=hcut
         have HKX:Unit→Keep nil wr wc:=fun _=>hkx
         clear hkx hb1 hb2 hb3 hb4 e0 e1 b0 hebl
         have HSM:Unit→((b1&&b2)||(b3&&b4))=decide (Te.same ⟨x,y,z⟩ ⟨ta,tb,tw⟩):=fun _=>by
          obtain⟨r1,r2,r3,r4⟩:=HBB ()
          rw[←r1,←r2,←r3,←r4]
          exact same_bits x y z ta tb tw
         have HTK:Unit→l.take (k+1)=l.take k++[⟨ta,tb,tw⟩]:=fun _=>take_succ_get (HT ()).1
         generalize ((b1&&b2)||(b3&&b4))=bs at *
         clear HBB
         cases bs with
         |true=>
          go_wp2
          refine⟨⟨k+1,by have:=HT ();omega,by go_num,?_,(HK ()).1.trans (HKX ())⟩,by have:=HT ();simp[intOf];omega⟩
          have h1:=HSM ()
          have h2:Te.same ⟨x,y,z⟩ ⟨ta,tb,tw⟩:=by simpa using h1.symm
          rw[HTK ()]
          simp[h2]
         |false=>
          go_wp2
          refine⟨⟨k+1,by have:=HT ();omega,by go_num,?_,(HK ()).1.trans (HKX ())⟩,by have:=HT ();simp[intOf];omega⟩
          have h1:=HSM ()
          have h2:¬Te.same ⟨x,y,z⟩ ⟨ta,tb,tw⟩:=by simpa using h1.symm
          rw[HTK (),HOK ()]
          congr 1
          rw[Bool.eq_iff_iff]
          simp only[decide_eq_true_eq,List.mem_append,List.mem_singleton]
          constructor
          ·rintro⟨q1,q2⟩
           refine⟨q1,fun t ht=>?_⟩
           rcases ht with ht|ht
           ·exact q2 t ht
           ·rw[ht];exact h2
          ·rintro⟨q1,q2⟩
           exact⟨q1,fun t ht=>q2 t (Or.inl ht)⟩
       ·have HKE:Unit→k=ln:=fun _=>by omega
        have hkI:¬((k:Int)<(ln:Int)):=by omega
        clear hk hkl hkw
        go_wp2
        go_meet
        case rel=>
         refine⟨?_,(HK ()).1⟩
         rw[HOK (),HKE (),(HLL ()).1,List.take_length]
         rfl
     case rest=>
      obtain⟨rfl,hk3⟩:=hcut
      obtain⟨W3,hW3⟩:∃W3,W3=wc:=⟨_,rfl⟩
      subst hW3
      have H3:Unit→Keep nil wr W3∧Blk W3 eb #[.int .i64 (x:Int),.int .i64 (y:Int),.int .i64 (z:Int)] 30∧RV W3 30 3 a ln c (ecells (l.map Te.ed))∧1≤z∧z≤1000∧eb=wr.heap.size:=fun _=>by
       have h1:=gte_in (HN ()).2.1 i (gcode raw i)
       rw[(HB ()).2.2]at h1
       exact⟨(HB ()).2.1.trans hk3,(HB ()).1.keep hk3 id,(HLL ()).2.1.keep hk3 (fun _ _ e=>e),h1.2.2.1,h1.2.2.2,(HK1 ()).2.1⟩
      clear hk3 b0 b1 hebl
      by_cases hgk:gok l ⟨x,y,z⟩
      ·rw[decide_eq_true hgk]
       have HGK:Unit→gok l ⟨x,y,z⟩:=fun _=>hgk
       clear hgk
       go_upto_block 4 with fail
       go_cut [] (fun wx=>Blk wx eb #[.int .i64 (x:Int),.int .i64 (y:Int),.int .i64 (frw l z 24:Int)] 30∧Keep nil wr wx)
       case first=>
        obtain⟨j0,hj0,hf0⟩:=free_ex l z (by have:=HLL ();omega)
        obtain⟨f0,hf⟩:∃f0,f0=cnd z j0:=⟨_,rfl⟩
        have HF:Unit→¬taken l f0∧f0=cnd z j0∧j0≤l.length:=fun _=>⟨by rw[hf];exact hf0,hf,hj0⟩
        clear hj0 hf0 hf
        obtain⟨B0,hB0⟩:∃B0,B0=wr:=⟨_,rfl⟩
        subst hB0
        go_wp2_with fail
        go_loopw [13] (fun u wx=>∃(j:Nat) (fb:Bool),u=.bool fb∧(∀q,q<j→taken l (cnd z q))∧(fb=true→¬taken l (cnd z j))∧Blk wx eb #[.int .i64 (x:Int),.int .i64 (y:Int),.int .i64 (cnd z j:Int)] 30∧Keep nil B0 wx) (fun u wx=>frm u ((f0+1000 - cellN wx eb) % 1000))
        case atStart=>exact⟨0,false,rfl,(fun q hq=>by omega),(fun h=>by cases h),by have:=H3 ();rw[cnd_zero this.2.2.2.1 this.2.2.2.2.1];exact this.2.1,(H3 ()).1⟩
        case round=>
         obtain⟨j,fb,rfl,hjt,hfb,hbk,hkw⟩:=hrel
         have HJ:Unit→(∀q,q<j→taken l (cnd z q))∧(fb=true→¬taken l (cnd z j))∧Blk wr eb #[.int .i64 (x:Int),.int .i64 (y:Int),.int .i64 (cnd z j:Int)] 30∧Keep nil B0 wr:=fun _=>⟨hjt,hfb,hbk,hkw⟩
         clear hjt hfb hkw
         cases fb with
         |true=>
          clear hbk
          go_wp2
          go_meet
          case rel=>
           obtain⟨p1,p2,p3,p4⟩:=HJ ()
           have hjl:j≤24:=by
            have h1:=HF ()
            have h2:=HLL ()
            by_cases h:j≤j0
            ·omega
            ·exact(h1.1 (by rw[h1.2.1];exact p1 j0 (by omega))).elim
           rw[frw_at l 24 z (H3 ()).2.2.2.1 (H3 ()).2.2.2.2.1 j hjl p1 (p2 (by simp))]
           exact⟨p3,p4⟩
         |false=>
          obtain⟨wv,hwv⟩:∃wv,wv=cnd z j:=⟨_,rfl⟩
          rw[←hwv]at hbk
          have HW:Unit→wv=cnd z j∧1≤wv∧wv≤1000:=fun _=>⟨hwv,by rw[hwv];exact cnd_in z j⟩
          have d2:wr.cell? ⟨eb,2,none⟩=some (.int .i64 (wv:Int)):=by rw[hbk.cell];rfl
          have y2:wr.frozen? ⟨eb,2,none⟩=false:=hbk.frozen 2
          have hel:=hbk.lt
          clear hbk hwv
          go_upto_block 6 with fail
          obtain⟨R3,hR3⟩:∃R3,R3=wr:=⟨_,rfl⟩
          subst hR3
          have HR3:Unit→RV R3 30 3 a ln c (ecells (l.map Te.ed)):=fun _=>by
           have h1:=(HQ ()).1.row.keep (HJ ()).2.2.2 (fun _ _ e=>e)
           have h2:=HLL ()
           rw[List.length_map,←h2.2.2.2,←h2.1]at h1
           exact h1
          go_cut [13] (fun u wx=>u=.bool (decide (¬taken l wv))∧Keep nil R3 wx)
          case first=>
           go_wp2_with fail
           go_loopw [13,14] (fun u v wx=>∃k:Nat,k≤ln∧v=.int .i64 (k:Int)∧u=.bool (decide (¬taken (l.take k) wv))∧Keep nil R3 wx) (fun _ v _=>ln - (intOf v).toNat)
           case atStart=>exact⟨0,Nat.zero_le _,rfl,by simp[taken],Keep.refl nil _⟩
           case round=>
            obtain⟨k,hk,rfl,rfl,hkw⟩:=hrel
            have HK:Unit→Keep nil R3 wr∧k≤ln:=fun _=>⟨hkw,hk⟩
            have d2:=(hkw.cell eb 2 hel id).trans d2
            have hel:eb<wr.heap.size:=Nat.lt_of_lt_of_le hel hkw.size
            obtain⟨ok,hok⟩:∃ok:Bool,ok=decide (¬taken (l.take k) wv):=⟨_,rfl⟩
            have HOK:Unit→ok=decide (¬taken (l.take k) wv):=fun _=>hok
            rw[←hok]
            clear hok
            by_cases hkl:k<ln
            ·obtain⟨t,ht⟩:∃t,l[k]?=some t:=⟨_,List.getElem?_eq_getElem (by rw[←(HLL ()).1];exact hkl)⟩
             have HT:Unit→l[k]?=some t∧k<ln:=fun _=>⟨ht,hkl⟩
             have HTK:Unit→l.take (k+1)=l.take k++[t]:=fun _=>take_succ_get ht
             have hmt:(l.map Te.ed)[k]?=some t.ed:=by rw[List.getElem?_map,ht];rfl
             obtain⟨g,q,hga,hgl,e0,e1,e2⟩:=edge_at ((HR3 ()).keep hkw (fun _ _ e=>e)) hmt hkl
             obtain⟨ta,tb,tw⟩:=t
             simp only[Te.ed]at e0 e1 e2
             have hkI:(k:Int)<(ln:Int):=by omega
             have hk9:(k:Int)<24:=by have:=(HLL ()).2.2.1;omega
             subst hga
             clear hk hkl hkw ht hmt e0 e1
             by_cases htw:tw=wv
             ·have hb:((tw:Int)==(wv:Int))=true:=by rw[nat_beq];simpa using htw
              have HTW:Unit→tw=wv:=fun _=>htw
              clear htw
              go_wp2_with fail
              go_quiet (fail)
              go_wp2
              refine⟨⟨k+1,by have:=HT ();omega,by go_num,?_,(HK ()).1.drewN _⟩,by have:=HT ();simp[intOf];omega⟩
              rw[HTK (),HTW ()]
              have h1:taken (l.take k++[⟨ta,tb,wv⟩]) wv:=⟨_,List.mem_append_right _ (List.mem_singleton.2 rfl),rfl⟩
              rw[decide_eq_false (by simpa using h1)]
             ·have hb:((tw:Int)==(wv:Int))=false:=by rw[nat_beq];simpa using htw
              have HTW:Unit→¬tw=wv:=fun _=>htw
              clear htw
              go_wp2_with fail
              go_quiet (fail)
              go_wp2
              refine⟨⟨k+1,by have:=HT ();omega,by go_num,?_,(HK ()).1.drewN _⟩,by have:=HT ();simp[intOf];omega⟩
              rw[HTK (),HOK ()]
              have h1:taken (l.take k++[⟨ta,tb,tw⟩]) wv↔taken (l.take k) wv:=by
               constructor
               ·rintro⟨u,hu,e⟩
                rcases List.mem_append.1 hu with hu|hu
                ·exact⟨u,hu,e⟩
                ·rw[List.mem_singleton.1 hu]at e
                 exact(HTW () e).elim
               ·rintro⟨u,hu,e⟩
                exact⟨u,List.mem_append_left _ hu,e⟩
              simp only[h1]
            ·have HKE:Unit→k=ln:=fun _=>by omega
             have hkI:¬((k:Int)<(ln:Int)):=by omega
             clear hk hkl hkw
             go_wp2
             go_meet
             case rel=>
              refine⟨?_,(HK ()).1⟩
              rw[HOK (),HKE (),(HLL ()).1,List.take_length]
          case rest=>
           obtain⟨rfl,hkx⟩:=hcut
           have d2:=(hkx.cell eb 2 hel id).trans d2
           have y2:=(hkx.frozen eb 2 hel id).trans y2
           have hel:eb<wc.heap.size:=Nat.lt_of_lt_of_le hel hkx.size
           have HKX:Unit→Keep nil R3 wc:=fun _=>hkx
           clear hkx
           by_cases htk:taken l wv
           ·rw[decide_eq_false (by simpa using htk)]
            have HTK:Unit→taken l wv:=fun _=>htk
            clear htk
            obtain⟨m9,hm9⟩:∃m9,m9=wv % 1000:=⟨_,rfl⟩
            have hd1:(wv:Int).tmod 1000=(m9:Int):=by rw[hm9,Int.tmod_eq_emod_of_nonneg (by omega)];omega
            have hd2:IntKind.i64.wrap (m9:Int)=(m9:Int):=by rw[IntKind.wrap_i64];omega
            have hd3:IntKind.i64.wrap (1+(m9:Int))=1+(m9:Int):=by rw[IntKind.wrap_i64];omega
            have HM9:Unit→m9=wv % 1000:=fun _=>hm9
            clear hm9
            go_wp2
            have hk9:Keep nil B0 (wc.setCell ⟨eb,2,none⟩ (.int .i64 (1+(m9:Int)))):=((HJ ()).2.2.2.trans (HKX ())).setCell (p:=⟨eb,2,none⟩) (fun e=>by have:=(H3 ()).2.2.2.2.2;simp only at e;omega) _
            have hb9:Blk (wc.setCell ⟨eb,2,none⟩ (.int .i64 (1+(m9:Int)))) eb #[.int .i64 (x:Int),.int .i64 (y:Int),.int .i64 (cnd z (j+1):Int)] 30:=by
             have h1:=((HJ ()).2.2.1.keep (HKX ()) id).set 2 (.int .i64 (1+(m9:Int)))
             have h2:((cnd z (j+1):Nat):Int)=1+(m9:Int):=by rw[cnd_succ,←(HW ()).1,HM9 ()];omega
             rw[h2]
             exact h1
            refine⟨⟨j+1,false,rfl,fun q hq=>?_,fun h=>?_,hb9,hk9⟩,?_⟩
            ·by_cases e:q=j
             ·rw[e,←(HW ()).1];exact HTK ()
             ·exact(HJ ()).1 q (by omega)
            ·cases h
            ·rw[cellN_of hb9,cellN_of (HJ ()).2.2.1,cnd_succ,←(HW ()).1]
             have h1:=HF ()
             have h2:=cnd_in z j0
             have h3:=HW ()
             have:=far_step (f0:=f0) (v:=wv) (by omega) (by omega) (by omega) (by omega) (fun e=>h1.1 (by rw[←e];exact HTK ()))
             simp only[frm]
             omega
           ·rw[decide_eq_true htk]
            have HTK:Unit→¬taken l wv:=fun _=>htk
            clear htk
            go_wp2
            refine⟨⟨j,true,rfl,(HJ ()).1,fun _=>by rw[←(HW ()).1];exact HTK (),(HJ ()).2.2.1.keep (HKX ()) id,(HJ ()).2.2.2.trans (HKX ())⟩,?_⟩
            simp only[frm]
            omega
       case rest=>
        obtain⟨hb5,hk5⟩:=hcut
        obtain⟨W5,hW5⟩:∃W5,W5=wc:=⟨_,rfl⟩
        subst hW5
        obtain⟨zf,hzf⟩:∃zf,zf=frw l z 24:=⟨_,rfl⟩
        rw[←hzf]at hb5
        have H5:Unit→Blk W5 eb #[.int .i64 (x:Int),.int .i64 (y:Int),.int .i64 (zf:Int)] 30∧Keep nil wr W5∧zf=frw l z 24:=fun _=>⟨hb5,hk5,hzf⟩
        have HR5:Unit→RV W5 30 3 a ln c (ecells (l.map Te.ed)):=fun _=>by
         have h1:=(HQ ()).1.row.keep hk5 (fun _ _ e=>e)
         have h2:=HLL ()
         rw[List.length_map,←h2.2.2.2,←h2.1]at h1
         exact h1
        have b0:W5.cell? ⟨eb,0,none⟩=some (.int .i64 (x:Int)):=by rw[hb5.cell];rfl
        have b1:W5.cell? ⟨eb,1,none⟩=some (.int .i64 (y:Int)):=by rw[hb5.cell];rfl
        have b2:W5.cell? ⟨eb,2,none⟩=some (.int .i64 (zf:Int)):=by rw[hb5.cell];rfl
        have hebl:eb<W5.heap.size:=hb5.lt
        obtain⟨ls,hls⟩:∃ls,ls=ecells (l.map Te.ed):=⟨_,rfl⟩
        rw[←hls]at HR5
        have HLS:Unit→ls=ecells (l.map Te.ed):=fun _=>hls
        clear hb5 hk5 hzf hls
        go_wp2_with (at_builtin;refine wpList_append_rvS _ rfl (.tmp 142) (.tmp 144) 26 rfl 30 (.agg #[.int .i64 0,.int .i64 0,.int .i64 0]) 3 24 Tryz.underlying26 edge_info rfl a ln c rfl ls ((HR5 ()).alloc _) ⟨W5.heap.size,0,none⟩ 1 1 (by omega) rfl [.int .i64 (x:Int),.int .i64 (y:Int),.int .i64 (zf:Int)] rfl (cells_elist W5 [.int .i64 (x:Int),.int .i64 (y:Int),.int .i64 (zf:Int)] 30 _ rfl) (by intro u hu;simp at hu;rcases hu with rfl|rfl|rfl<;>rfl) (by have:=HLL ();omega) (by have:=HLL ();omega) ?_;intro a' c' w6 hb6 hd6 hk6)
        have hS:gls nn raw (i+1)=l++[⟨x,y,zf⟩]:=by
         have h1:=HLL ()
         rw[gls,←h1.2.2.2,if_pos (by omega),(HB ()).2.2,gadd,if_pos (HGK ()),(H5 ()).2.2]
        have hT:=(HQ ()).1
        have hll:=HLL ()
        rw[←hll.2.2.2]at hT
        have hbb:RV w6 30 3 a' ((l.map Te.ed).length+1) c' (ecells (l.map Te.ed)++[.int .i64 (x:Int),.int .i64 (y:Int),.int .i64 (zf:Int)]):=by
         rw[List.length_map,←hll.1,←HLS ()]
         exact hb6
        have hN:=hT.next ⟨(x:Int),(y:Int),(zf:Int)⟩ (H5 ()).2.1 hbb hd6 (((Keep.refl (inB a) W5).alloc _).trans hk6)
        refine⟨⟨i+1,a',c',by have:=HG ();omega,by go_num,?_,?_,fun h=>?_⟩,by have:=HG ();simp[intOf];omega⟩
        ·rw[hS,hll.1];simp
        ·rw[hS,List.map_append]
         exact hN
        ·rw[hS]at h
         exact(List.append_ne_nil_of_right_ne_nil _ (by simp) h).elim
      ·rw[decide_eq_false hgk]
       have HGK:Unit→¬gok l ⟨x,y,z⟩:=fun _=>hgk
       clear hgk
       go_wp2
       have hll:=HLL ()
       have hS:gls nn raw (i+1)=gls nn raw i:=by
        rw[gls,←hll.2.2.2,if_pos (by omega),(HB ()).2.2,gadd,if_neg (HGK ())]
       refine⟨⟨i+1,a,c,by have:=HG ();omega,by go_num,?_,?_,?_⟩,by have:=HG ();simp[intOf];omega⟩
       ·rw[hS,←HL ()]
       ·rw[hS]
        exact(HQ ()).1.keepN (H3 ()).1
       ·rw[hS]
        exact(HQ ()).2.2
  ·have HEND:Unit→gls nn raw Tt=gls nn raw i:=fun _=>by
    by_cases h:i<Tt
    ·exact gls_full nn raw i (by have:=HL ();omega) Tt (by omega)
    ·rw[show Tt=i by have:=(HQ ()).2.1;omega]
   have HES:Unit→ges nodes raw=(gls nn raw i).map Te.ed:=fun _=>by
    rw[←HEND (),HTT (),HRR (),(HN ()).1];rfl
   have HFIN:Unit→∃a' c',(.tuple #[.int .i64 (nn:Int),.slice a ln c]:Value)=.tuple #[.int .i64 (nn:Int),.slice a' (ges nodes raw).length c']∧Tre w wr (ges nodes raw) a' c'∧(ges nodes raw=[]→a'=none∧c'=0):=fun _=>by
    refine⟨a,c,?_,?_,fun h=>?_⟩
    ·rw[HES (),List.length_map,←HL ()]
    ·rw[HES ()];exact(HQ ()).1
    ·rw[HES ()]at h
     exact(HQ ()).2.2 (by simpa using h)
   by_cases h:i<Tt
   ·have hiT:(i:Int)<(Tt:Int):=by omega
    have hl24:¬((ln:Int)<24):=by omega
    have hiT':(i:Int)<(R:Int)+(nn:Int) - 1:=by have:=HTT ();have:=HN ();omega
    clear hgo hi h
    go_wp2
    refine bodyPost_ret (v:=.tuple #[.int .i64 (nn:Int),.slice a ln c]) (by simp[results,Tryz.results11,go_sem]) rfl ?_
    obtain⟨a',c',h1,h2,h3⟩:=HFIN ()
    exact⟨a',c',by rw[h1],h2,h3⟩
   ·have hiT:¬((i:Int)<(Tt:Int)):=by omega
    have hiT':¬((i:Int)<(R:Int)+(nn:Int) - 1):=by have:=HTT ();have:=HN ();omega
    clear hgo hi h
    go_wp2
    refine bodyPost_ret (v:=.tuple #[.int .i64 (nn:Int),.slice a ln c]) (by simp[results,Tryz.results11,go_sem]) rfl ?_
    obtain⟨a',c',h1,h2,h3⟩:=HFIN ()
    exact⟨a',c',by rw[h1],h2,h3⟩
end Go.Proofs.YtlfijfodklhplaaGreat
