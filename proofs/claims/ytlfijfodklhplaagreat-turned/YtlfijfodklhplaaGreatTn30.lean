import Derived.Test.YtlfijfodklhplaaGreatTn27
import Derived.Test.YtlfijfodklhplaaGreatTn23
set_option maxRecDepth 100000
set_option maxHeartbeats 400000
set_option linter.unusedVariables false
set_option linter.unusedSimpArgs false
namespace Go.Proofs.YtlfijfodklhplaaGreat
open Go.RowKit
theorem reach_new(ex:Nat→Prop)(W0 w:World)(gb cp:Nat)(sa:Option Addr)(es:List Ed)(R:Nat→Bool)(cnt:Nat)(a:Option Addr)(n c:Nat)(L:List Th)(k:Nat)(h:Gw ex W0 w gb (.slice sa es.length cp) R cnt a n c L)(hk:k<10)(hR:R k=false)
 (hsl:ESl W0 sa es) (hsx:∀bb bo,0<es.length→sa=some ⟨bb,bo,none⟩→¬ex bb) (hes:es.length≤30) (hn:(n:Int)<1000) (hcnt:(cnt:Int)<1000):
 Calls Tryz.prog 102 #[.pointer (some ⟨gb,0,none⟩),.int .i64 (k:Int)] w fun r w'=>r=.returned (.tuple #[])∧∃a' n' c' L',Gw ex W0 w' gb (.slice sa es.length cp) (mark R k) (cnt+1) a' n' c' L'∧
  n'≤n+es.length∧∀x,x∈L'↔x∈L∨touch es (k:Int) x:=by
 have hc:=h.heap.blk.cell (1+k)
 rw[gcs_get _ _ _ _ _ hk,hR]at hc
 have hf:=h.heap.blk.frozen (1+k)
 have hc0:=h.heap.blk.cell 0
 have hc11:=h.heap.blk.cell 11
 have hf11:=h.heap.blk.frozen 11
 simp[gcs]at hc0 hc11
 have hkI:(k:Int)<10:=by omega
 have hk11:¬(1+k=11):=by omega
 have hk0:¬(1+k=0):=by omega
 have HG:Unit→Gw ex W0 w gb (.slice sa es.length cp) R cnt a n c L:=fun _=>h
 have HB:Unit→ESl W0 sa es∧es.length≤30∧(n:Int)<1000∧(cnt:Int)<1000∧k<10:=fun _=>⟨hsl,hes,hn,hcnt,hk⟩
 have HSX:Unit→∀bb bo,0<es.length→sa=some ⟨bb,bo,none⟩→¬ex bb:=fun _=>hsx
 have hwc:wrap64 ((cnt:Int)+1)=(cnt:Int)+1:=by unfold wrap64;omega
 clear h hR hsl hes hn hcnt hsx
 go_enter Tryz.func102,Tryz.ntmps102
 go_wp2_with fail
 try simp only[hwc]
 clear hwc
 obtain⟨W1,hW1⟩:∃W1,W1=(w.setCell ⟨gb,1+k,none⟩ (.bool true)).setCell ⟨gb,11,none⟩ (.int .i64 ((cnt:Int)+1)):=⟨_,rfl⟩
 rw[←hW1]
 have HG1:Unit→Gw ex W0 W1 gb (.slice sa es.length cp) (mark R k) (cnt+1) a n c L:=fun _=>by rw[hW1];exact(HG ()).mark k (HB ()).2.2.2.2
 clear hW1 hc hf hc0 hc11 hf11
 go_loopw [29] (fun v wr=>∃(i:Nat) (a':Option Addr) (n' c':Nat) (L':List Th),i≤es.length∧v=.int .i64 (i:Int)∧Gw ex W0 wr gb (.slice sa es.length cp) (mark R k) (cnt+1) a' n' c' L'∧n'≤n+i∧∀x,x∈L'↔x∈L∨touch (es.take i) (k:Int) x) (fun v _=>es.length - (intOf v).toNat)
 case atStart=>exact⟨0,a,n,c,L,by omega,rfl,HG1 (),by omega,fun x=>⟨Or.inl,fun h=>h.elim id (fun⟨e,he,_⟩=>by simp at he)⟩⟩
 case round=>
  obtain⟨i,a',n',c',L',hi,rfl,hg,hn',hmem⟩:=hrel
  have HR:Unit→Gw ex W0 wr gb (.slice sa es.length cp) (mark R k) (cnt+1) a' n' c' L'∧n'≤n+i∧∀x,x∈L'↔x∈L∨touch (es.take i) (k:Int) x:=fun _=>⟨hg,hn',hmem⟩
  clear hg hn' hmem
  by_cases hil:i<es.length
  ·obtain⟨e,he⟩:∃e,es[i]?=some e:=⟨_,List.getElem?_eq_getElem hil⟩
   obtain⟨bb,bo,rfl,hbb,hrow⟩:=(HB ()).1.some hil
   obtain⟨q0,q1,q2⟩:=erow_get (hrow.keep (HR ()).1.keep hbb (HSX () _ _ (by omega) rfl)) i e he
   have hbw:bb<wr.heap.size:=Nat.lt_of_lt_of_le hbb (HR ()).1.keep.size
   have hiI:(i:Int)<(es.length:Int):=by omega
   have hwi:(i:Int)<1000:=by have:=HB ();omega
   obtain⟨ea,eb,ew⟩:=e
   simp only at q0 q1 q2
   have HE:Unit→es[i]?=some ⟨ea,eb,ew⟩:=fun _=>he
   clear he hrow hbb
   by_cases h1:ea=(k:Int)
   ·as_aux_lemma=>
    subst h1
    have HM:Unit→∀x,touch (es.take (i+1)) (k:Int) x↔touch (es.take i) (k:Int) x∨x=⟨⟨(k:Int),eb,ew⟩,ew⟩:=fun _ x=>by
     rw[touch_succ (HE ())]
     exact⟨fun h=>h.imp id (fun h=>h.2),fun h=>h.imp id (fun h=>⟨Or.inl rfl,h⟩)⟩
    go_wp2_with fail
    obtain⟨W2,hW2⟩:∃W2,W2=wr.alloc (.cells #[.int .i64 (k:Int),.int .i64 eb,.int .i64 ew] 30):=⟨_,rfl⟩
    have hbx:Blk W2 wr.heap.size #[.int .i64 (k:Int),.int .i64 eb,.int .i64 ew] 30:=by rw[hW2];exact Blk.new _ _ _
    have hk2:Keep nil wr W2:=by rw[hW2];exact(Keep.refl nil wr).alloc _
    rw[←hW2]
    obtain⟨xb,hxb⟩:∃xb,xb=wr.heap.size:=⟨_,rfl⟩
    rw[←hxb]at hbx⊢
    have z0:=hbx.cell 0
    have z1:=hbx.cell 1
    have z2:=hbx.cell 2
    simp at z0 z1 z2
    have HG2:Unit→Gw ex W0 W2.drew gb (.slice (some ⟨bb,bo,none⟩) es.length cp) (mark R k) (cnt+1) a' n' c' L':=fun _=>(HR ()).1.same hk2.drew
    clear hW2 hbx hxb q0 q1 q2
    have HA:Unit→Calls Tryz.prog 147 #[.pointer (some ⟨gb,12,none⟩),.agg #[.int .i64 (k:Int),.int .i64 eb,.int .i64 ew],.int .i64 ew] W2.drew fun r w'=>r=.returned (.tuple #[])∧HeapTo W2.drew w' gb 12 (gcs (.slice (some ⟨bb,bo,none⟩) es.length cp) (mark R k) (cnt+1) (.slice a' n' c')) 174 a' (fun L''=>SameT L'' (L'++[⟨⟨(k:Int),eb,ew⟩,ew⟩])):=fun _=>add_any gb 12 _ 174 a' n' c' L' ⟨(k:Int),eb,ew⟩ ew W2.drew (HG2 ()).heap (by have:=(HR ()).2.1;have:=HB ();omega)
    go_still_tail 6,(by kernel_rfl)
    go_wp2_with fail
    refine(HA ()).mono ?_
    rintro r w3 ⟨rfl,h3⟩
    obtain⟨a2,n2,c2,L2,hg2,hs2⟩:=(HG2 ()).to h3
    have HP:Unit→Gw ex W0 w3 gb (.slice (some ⟨bb,bo,none⟩) es.length cp) (mark R k) (cnt+1) a2 n2 c2 L2∧SameT L2 (L'++[⟨⟨(k:Int),eb,ew⟩,ew⟩]):=fun _=>⟨hg2,hs2⟩
    clear h3 hg2 hs2 HA z0 z1 z2
    go_wp2
    go_roundw
    case rel=>
     refine⟨i+1,a2,n2,c2,L2,by omega,by go_num,(HP ()).1,?_,fun x=>?_⟩
     ·have h1:=(HP ()).1.heap.len
      have h2:=(HP ()).2.1
      have h3:=(HR ()).1.heap.len
      have h4:=(HR ()).2.1
      rw[List.length_append]at h2
      simp at h2
      omega
     ·rw[(HP ()).2.2 x,List.mem_append,(HR ()).2.2 x,HM () x,or_assoc]
      simp
    case measure=>simp[intOf];omega
   ·by_cases h2:eb=(k:Int)
    ·as_aux_lemma=>
     subst h2
     have HM:Unit→∀x,touch (es.take (i+1)) (k:Int) x↔touch (es.take i) (k:Int) x∨x=⟨⟨ea,(k:Int),ew⟩,ew⟩:=fun _ x=>by
      rw[touch_succ (HE ())]
      exact⟨fun h=>h.imp id (fun h=>h.2),fun h=>h.imp id (fun h=>⟨Or.inr rfl,h⟩)⟩
     go_wp2_with fail
     clear h1
     obtain⟨W2,hW2⟩:∃W2,W2=wr.alloc (.cells #[.int .i64 ea,.int .i64 (k:Int),.int .i64 ew] 30):=⟨_,rfl⟩
     have hbx:Blk W2 wr.heap.size #[.int .i64 ea,.int .i64 (k:Int),.int .i64 ew] 30:=by rw[hW2];exact Blk.new _ _ _
     have hk2:Keep nil wr W2:=by rw[hW2];exact(Keep.refl nil wr).alloc _
     rw[←hW2]
     obtain⟨xb,hxb⟩:∃xb,xb=wr.heap.size:=⟨_,rfl⟩
     rw[←hxb]at hbx⊢
     have z0:=hbx.cell 0
     have z1:=hbx.cell 1
     have z2:=hbx.cell 2
     simp at z0 z1 z2
     have HG2:Unit→Gw ex W0 W2.drew gb (.slice (some ⟨bb,bo,none⟩) es.length cp) (mark R k) (cnt+1) a' n' c' L':=fun _=>(HR ()).1.same hk2.drew
     clear hW2 hbx hxb q0 q1 q2
     have HA:Unit→Calls Tryz.prog 147 #[.pointer (some ⟨gb,12,none⟩),.agg #[.int .i64 ea,.int .i64 (k:Int),.int .i64 ew],.int .i64 ew] W2.drew fun r w'=>r=.returned (.tuple #[])∧HeapTo W2.drew w' gb 12 (gcs (.slice (some ⟨bb,bo,none⟩) es.length cp) (mark R k) (cnt+1) (.slice a' n' c')) 174 a' (fun L''=>SameT L'' (L'++[⟨⟨ea,(k:Int),ew⟩,ew⟩])):=fun _=>add_any gb 12 _ 174 a' n' c' L' ⟨ea,(k:Int),ew⟩ ew W2.drew (HG2 ()).heap (by have:=(HR ()).2.1;have:=HB ();omega)
     go_still_tail 6,(by kernel_rfl)
     go_wp2_with fail
     refine(HA ()).mono ?_
     rintro r w3 ⟨rfl,h3⟩
     obtain⟨a2,n2,c2,L2,hg2,hs2⟩:=(HG2 ()).to h3
     have HP:Unit→Gw ex W0 w3 gb (.slice (some ⟨bb,bo,none⟩) es.length cp) (mark R k) (cnt+1) a2 n2 c2 L2∧SameT L2 (L'++[⟨⟨ea,(k:Int),ew⟩,ew⟩]):=fun _=>⟨hg2,hs2⟩
     clear h3 hg2 hs2 HA z0 z1 z2
     go_wp2
     go_roundw
     case rel=>
      refine⟨i+1,a2,n2,c2,L2,by omega,by go_num,(HP ()).1,?_,fun x=>?_⟩
      ·have h1:=(HP ()).1.heap.len
       have h2:=(HP ()).2.1
       have h3:=(HR ()).1.heap.len
       have h4:=(HR ()).2.1
       rw[List.length_append]at h2
       simp at h2
       omega
      ·rw[(HP ()).2.2 x,List.mem_append,(HR ()).2.2 x,HM () x,or_assoc]
       simp
     case measure=>simp[intOf];omega
    ·as_aux_lemma=>
     have HM:Unit→∀x,touch (es.take (i+1)) (k:Int) x↔touch (es.take i) (k:Int) x:=fun _ x=>by
      rw[touch_succ (HE ())]
      exact⟨fun h=>h.elim id (fun h=>(h.1.elim h1 h2).elim),Or.inl⟩
     go_wp2_with fail
     ·rename_i h;simp[h1,h2]at h
     ·clear h1 h2
      go_roundw
      case rel=>exact⟨i+1,a',n',c',L',by omega,by go_num,(HR ()).1.same ((Keep.refl nil wr).alloc _),by have:=(HR ()).2.1;omega,fun x=>by rw[HM ()];exact(HR ()).2.2 x⟩
      case measure=>simp[intOf];omega
  ·have ei:i=es.length:=by omega
   subst ei
   go_wp2
   go_end0
   refine⟨rfl,a',n',c',L',(HR ()).1,(HR ()).2.1,fun x=>?_⟩
   have:=(HR ()).2.2 x
   rwa [List.take_length]at this
def InN(N:Nat)(es:List Ed):Prop:=∀e∈es,0≤e.a∧e.a<(N:Int)∧0≤e.b∧e.b<(N:Int)
structure Jn(ex:Nat→Prop)(W0 w:World)(gb cp:Nat)(sa:Option Addr)(es:List Ed)(N:Nat)(X:Ed→Prop)(R:Nat→Bool)(cnt:Nat)(a:Option Addr)(n c:Nat)(L:List Th):Prop where
 gw:Gw ex W0 w gb (.slice sa es.length cp) R cnt a n c L
 crd:cnt=card R 10
 far:∀k,N≤k→R k=false
 sound:Sound es R
 edge:∀e∈es,R e.a.toNat=R e.b.toNat∨(⟨e,e.wt⟩:Th)∈L∨X e
 heap:∀x∈L,x.e∈es∧(R x.e.a.toNat=true∨R x.e.b.toNat=true)
 num:n≤30 * cnt
theorem Jn.here{ex:Nat→Prop}{W0 w:World}{gb cp:Nat}{sa:Option Addr}{es:List Ed}{N:Nat}{X:Ed→Prop}{R:Nat→Bool}{cnt:Nat}{a:Option Addr}{n c:Nat}{L:List Th}(h:Jn ex W0 w gb cp sa es N X R cnt a n c L):Jn (fun b=>b=gb∨a=some ⟨b,0,none⟩) w w gb cp sa es N X R cnt a n c L:=
 ⟨h.gw.here,h.crd,h.far,h.sound,h.edge,h.heap,h.num⟩
theorem Jn.back{ex:Nat→Prop}{W0 w w':World}{gb cp:Nat}{sa:Option Addr}{es:List Ed}{N:Nat}{X:Ed→Prop}{R:Nat→Bool}{cnt:Nat}{a:Option Addr}{n c:Nat}{L:List Th}{R':Nat→Bool}{cnt':Nat}{a':Option Addr}{n' c':Nat}{L':List Th}
 (h:Jn ex W0 w gb cp sa es N X R cnt a n c L) (h':Jn (fun b=>b=gb∨a=some ⟨b,0,none⟩) w w' gb cp sa es N X R' cnt' a' n' c' L'):Jn ex W0 w' gb cp sa es N X R' cnt' a' n' c' L':=
 ⟨h.gw.back h'.gw,h'.crd,h'.far,h'.sound,h'.edge,h'.heap,h'.num⟩
theorem Gw.pile_lt{ex:Nat→Prop}{W0 w:World}{gb:Nat}{esv:Value}{R:Nat→Bool}{cnt:Nat}{a:Option Addr}{n c:Nat}{L:List Th}(h:Gw ex W0 w gb esv R cnt a n c L):∀b,a=some ⟨b,0,none⟩→b<w.heap.size:=fun b e=>by
 rcases h.heap.row with⟨e',_⟩|⟨pb,e',_,ht⟩
 ·rw[e']at e;cases e
 ·rw[e']at e;cases e;exact ht.lt
def meas(w:World)(gb:Nat):Nat:=
 (match w.cell? ⟨gb,11,none⟩with|some (.int _ z)=>(10 - z.toNat) * 31|_=>0)+(match w.cell? ⟨gb,12,none⟩with|some (.slice _ n _)=>n|_=>0)
theorem Jn.meas{ex:Nat→Prop}{W0 w:World}{gb cp:Nat}{sa:Option Addr}{es:List Ed}{N:Nat}{X:Ed→Prop}{R:Nat→Bool}{cnt:Nat}{a:Option Addr}{n c:Nat}{L:List Th}(h:Jn ex W0 w gb cp sa es N X R cnt a n c L):Go.Proofs.YtlfijfodklhplaaGreat.meas w gb=(10 - cnt) * 31+n:=by
 have h1:=h.gw.heap.blk.cell 11
 have h2:=h.gw.heap.blk.cell 12
 have e1:(gcs (.slice sa es.length cp) R cnt (.slice a n c))[11]?=some (.int .i64 (cnt:Int)):=rfl
 have e2:(gcs (.slice sa es.length cp) R cnt (.slice a n c))[12]?=some (.slice a n c):=rfl
 rw[e1]at h1
 rw[e2]at h2
 unfold Go.Proofs.YtlfijfodklhplaaGreat.meas
 rw[h1,h2]
 simp
theorem reach_jn{ex:Nat→Prop}{W0 w:World}{gb cp:Nat}{sa:Option Addr}{es:List Ed}{N:Nat}{X:Ed→Prop}{R:Nat→Bool}{cnt:Nat}{a:Option Addr}{n c:Nat}{L:List Th}(h:Jn ex W0 w gb cp sa es N X R cnt a n c L)(k:Nat)(hk:k<N)(hN:N≤10)
 (hS:Sound es (mark R k)) (hsl:ESl W0 sa es) (hsx:∀bb bo,0<es.length→sa=some ⟨bb,bo,none⟩→¬ex bb) (hes:es.length≤30) (hin:InN N es):
 Calls Tryz.prog 102 #[.pointer (some ⟨gb,0,none⟩),.int .i64 (k:Int)] w fun r w'=>r=.returned (.tuple #[])∧∃R' cnt' a' n' c' L',Jn ex W0 w' gb cp sa es N X R' cnt' a' n' c' L'∧R' k=true∧(∀j,R j=true→R' j=true)∧(10 - cnt') * 31+n'≤(10 - cnt) * 31+n:=by
 have hcl:=card_le R 10
 cases hR:R k with
 |true=>
  refine(reach_old ex W0 w gb _ R cnt a n c L k h.gw (by omega) hR).mono ?_
  rintro r w' ⟨rfl,rfl⟩
  exact⟨rfl,R,cnt,a,n,c,L,h,hR,fun j hj=>hj,Nat.le_refl _⟩
 |false=>
  have hcm:=card_mark R 10 k (by omega) hR
  have hcl2:=card_le (mark R k) 10
  have hcr:=h.crd
  have hnm:=h.num
  refine(reach_new ex W0 w gb cp sa es R cnt a n c L k h.gw (by omega) hR hsl hsx hes (by omega) (by omega)).mono ?_
  rintro r w' ⟨rfl,a',n',c',L',hg,hn,hm⟩
  refine⟨rfl,mark R k,cnt+1,a',n',c',L',⟨hg,by omega,?_,hS,?_,?_,by omega⟩,by simp[mark],fun j hj=>mark_le R k j hj,by omega⟩
  ·intro j hj
   have:j≠k:=by omega
   simp[mark,this]
   exact h.far j hj
  ·intro e he
   by_cases ht:e.a=(k:Int)∨e.b=(k:Int)
   ·exact Or.inr (Or.inl ((hm _).2 (Or.inr ⟨e,he,ht,rfl⟩)))
   ·have hb:=hin e he
    have h1:e.a.toNat≠k:=by omega
    have h2:e.b.toNat≠k:=by omega
    rcases h.edge e he with hh|hh|hh
    ·exact Or.inl (by simp[mark,h1,h2,hh])
    ·exact Or.inr (Or.inl ((hm _).2 (Or.inl hh)))
    ·exact Or.inr (Or.inr hh)
  ·intro x hx
   rcases (hm x).1 hx with hx|⟨e,he,ht,rfl⟩
   ·exact⟨(h.heap x hx).1,(h.heap x hx).2.imp (mark_le R k _) (mark_le R k _)⟩
   ·refine⟨he,ht.imp (fun e1=>?_) (fun e1=>?_)⟩
    ·have:e.a.toNat=k:=by omega
     simp[mark,this]
    ·have:e.b.toNat=k:=by omega
     simp[mark,this]
theorem Jn.joined{ex:Nat→Prop}{W0 w:World}{gb cp:Nat}{sa:Option Addr}{es:List Ed}{N:Nat}{R:Nat→Bool}{cnt:Nat}{a:Option Addr}{c:Nat}{L:List Th}(h:Jn ex W0 w gb cp sa es N (fun _=>False) R cnt a 0 c L)(h0:R 0=true)(hN:N≤10):(cnt:Int)=(N:Int)↔Joined N es:=by
 have hL:L=[]:=List.eq_nil_of_length_eq_zero h.gw.heap.len
 have hc:Closed es R:=fun e he=>by
  rcases h.edge e he with hh|hh|hh
  ·exact hh
  ·rw[hL]at hh;cases hh
  ·exact hh.elim
 rw[joined_iff h0 h.sound hc]
 have e1:card R 10=card R N:=by
  have:=card_far R N (10 - N) h.far
  rwa [show N+(10 - N)=10 by omega]at this
 have:=h.crd
 constructor
 ·intro hh
  exact card_full R N (by omega)
 ·intro hh
  have:=card_all R N hh
  omega
theorem joinAll_any(N cp:Nat)(sa:Option Addr)(es:List Ed)(w:World)(hsl:ESl w sa es)(hes:es.length≤30)(hin:InN N es)(hN0:0<N)(hN:N≤10):
 Calls Tryz.prog 56 #[.int .i64 (N:Int),.slice sa es.length cp] w fun r w'=>∃b:Bool,r=.returned (.bool b)∧(b=true↔Joined N es)∧Keep nil w w':=by
 have HB:Unit→ESl w sa es∧es.length≤30∧InN N es∧0<N∧N≤10:=fun _=>⟨hsl,hes,hin,hN0,hN⟩
 clear hsl hes hin hN0 hN
 go_enter Tryz.func56,Tryz.ntmps56
 go_wp2_with fail
 obtain⟨W1,hW1⟩:∃W1,W1=w.alloc (.cells (gcs (.slice sa es.length cp) (fun _=>false) 0 (.slice none 0 0)) 174):=⟨_,rfl⟩
 have hbx:Blk W1 w.heap.size (gcs (.slice sa es.length cp) (fun _=>false) 0 (.slice none 0 0)) 174:=by rw[hW1];exact Blk.new _ _ _
 have hk1:Keep nil w W1:=by rw[hW1];exact(Keep.refl nil w).alloc _
 unfold gcs at hW1
 simp only[Int.natCast_zero]at hW1
 rw[←hW1]
 obtain⟨gb,hgb⟩:∃gb,gb=w.heap.size:=⟨_,rfl⟩
 rw[←hgb]at hbx⊢
 have HJ0:Unit→Jn nil w W1 gb cp sa es N (fun _=>False) (fun _=>false) 0 none 0 0 []:=fun _=>by
  refine⟨⟨hk1,Or.inr (by omega),⟨hbx,rfl,rfl,Nat.le_refl _,Or.inl ⟨rfl,rfl,rfl⟩⟩,fun b e=>by cases e⟩,by simp[card],fun _ _=>rfl,fun S h0 hS k hk=>(Bool.noConfusion hk),fun e he=>Or.inl rfl,fun x hx=>(List.not_mem_nil hx).elim,by omega⟩
 clear hW1 hbx hgb hk1
 have HR0:Unit→Calls Tryz.prog 102 #[.pointer (some ⟨gb,0,none⟩),.int .i64 ((0:Nat):Int)] W1 fun r w'=>r=.returned (.tuple #[])∧∃R' cnt' a' n' c' L',Jn nil w w' gb cp sa es N (fun _=>False) R' cnt' a' n' c' L'∧R' 0=true∧(∀j,(fun _=>false) j=true→R' j=true)∧(10 - cnt') * 31+n'≤(10 - 0) * 31+0:=fun _=>
  reach_jn (HJ0 ()) 0 (HB ()).2.2.2.1 (HB ()).2.2.2.2 (zero0_sound es) (HB ()).1 (fun _ _ _ _ e=>e) (HB ()).2.1 (HB ()).2.2.1
 refine Calls.mono (HR0 ()) ?_
 rintro r w2 ⟨rfl,R1,cnt1,a1,n1,c1,L1,hj1,hr1,_,_⟩
 have HJ1:Unit→Jn nil w w2 gb cp sa es N (fun _=>False) R1 cnt1 a1 n1 c1 L1∧R1 0=true:=fun _=>⟨hj1,hr1⟩
 clear hj1 hr1 HR0 HJ0
 go_wp2_with fail
 go_loopw [] (fun wr=>∃(R:Nat→Bool) (cnt:Nat) (a:Option Addr) (n c:Nat) (L:List Th),Jn nil w wr gb cp sa es N (fun _=>False) R cnt a n c L∧R 0=true) (fun wr=>meas wr gb)
 case atStart=>exact⟨R1,cnt1,a1,n1,c1,L1,(HJ1 ()).1,(HJ1 ()).2⟩
 case round=>
  obtain⟨R,cnt,a,n,c,L,hj,hr⟩:=hrel
  have HJ:Unit→Jn nil w wr gb cp sa es N (fun _=>False) R cnt a n c L∧R 0=true:=fun _=>⟨hj,hr⟩
  have hgl:gb<wr.heap.size:=hj.gw.heap.blk.lt
  clear hr HJ1
  cases n with
  |zero=>
   as_aux_lemma=>
   have h12:=(hj.gw.heap.blk.cell 12).trans hj.gw.heap.at_
   have HT:Unit→_:=fun _=>take_none gb 12 a c wr h12
   clear hj h12
   go_wp2_with fail
   refine Calls.mono (HT ()) ?_
   rintro r w3 ⟨rfl,hk3⟩
   clear HT
   have h11:=((HJ ()).1.gw.heap.blk.keep hk3 (fun e=>e)).cell 11
   have hgl3:gb<w3.heap.size:=((HJ ()).1.gw.heap.blk.keep hk3 (fun e=>e)).lt
   simp[gcs]at h11
   have HK:Unit→Keep nil w w3:=fun _=>(HJ ()).1.gw.keep.trans hk3
   clear hk3 hgl
   go_wp2
   go_ret
   refine⟨_,rfl,?_,(HK ()).alloc _⟩
   rw[←(HJ ()).1.joined (HJ ()).2 (HB ()).2.2.2.2]
   simp
  |succ n=>
   as_aux_lemma=>
   have HT:Unit→_:=fun _=>take_some gb 12 _ 174 a n c L wr (HJ ()).1.gw.heap (by have:=(HJ ()).1.num;have:=(HJ ()).1.crd;have:=card_le R 10;omega)
   clear hj
   go_wp2_with fail
   refine Calls.mono (HT ()) ?_
   rintro r w3 ⟨⟨⟨ta,tb,tw⟩,tww⟩,rfl,h3⟩
   clear HT
   obtain⟨a2,n2,c2,L2,hg2,hl2,hs1,hs2,hs3⟩:=(HJ ()).1.gw.to h3
   have HG:Unit→Gw nil w w3 gb (.slice sa es.length cp) R cnt a2 n2 c2 L2∧n2=n∧(∀x,x∈L→x=⟨⟨ta,tb,tw⟩,tww⟩∨x∈L2)∧(∀x,x∈L2→x∈L)∧(⟨⟨ta,tb,tw⟩,tww⟩:Th)∈L:=fun _=>⟨hg2,by have:=hg2.heap.len;omega,hs1,hs2,hs3⟩
   have hgl3:gb<w3.heap.size:=hg2.heap.blk.lt
   clear h3 hg2 hl2 hs1 hs2 hs3 hgl
   simp only at *
   have HE:Unit→(⟨ta,tb,tw⟩:Ed)∈es∧(R ta.toNat=true∨R tb.toNat=true)∧0≤ta∧ta<(N:Int)∧0≤tb∧tb<(N:Int):=fun _=>
    ⟨((HJ ()).1.heap _ (HG ()).2.2.2.2).1,((HJ ()).1.heap _ (HG ()).2.2.2.2).2,(HB ()).2.2.1 _ ((HJ ()).1.heap _ (HG ()).2.2.2.2).1⟩
   obtain⟨na,hna⟩:∃na:Nat,ta=(na:Int):=⟨ta.toNat,by have:=HE ();omega⟩
   obtain⟨nb,hnb⟩:∃nb:Nat,tb=(nb:Int):=⟨tb.toNat,by have:=HE ();omega⟩
   subst hna hnb
   go_wp2_with fail
   obtain⟨W4,hW4⟩:∃W4,W4=w3.alloc (.cells #[.int .i64 (na:Int),.int .i64 (nb:Int),.int .i64 tw] 30):=⟨_,rfl⟩
   have hbx:Blk W4 w3.heap.size #[.int .i64 (na:Int),.int .i64 (nb:Int),.int .i64 tw] 30:=by rw[hW4];exact Blk.new _ _ _
   have hk4:Keep nil w3 W4:=by rw[hW4];exact(Keep.refl nil w3).alloc _
   rw[←hW4]
   obtain⟨xb,hxb⟩:∃xb,xb=w3.heap.size:=⟨_,rfl⟩
   rw[←hxb]at hbx⊢
   have HJ4:Unit→Jn nil w W4 gb cp sa es N (fun e=>e=⟨(na:Int),(nb:Int),tw⟩) R cnt a2 n c2 L2:=fun _=>by
    have g:=(HG ()).1.same hk4
    rw[(HG ()).2.1]at g
    refine⟨g,(HJ ()).1.crd,(HJ ()).1.far,(HJ ()).1.sound,fun e he=>?_,fun x hx=>(HJ ()).1.heap x ((HG ()).2.2.2.1 x hx),by have:=(HJ ()).1.num;omega⟩
    rcases (HJ ()).1.edge e he with hh|hh|hh
    ·exact Or.inl hh
    ·rcases (HG ()).2.2.1 _ hh with h1|h1
     ·exact Or.inr (Or.inr (by injection h1))
     ·exact Or.inr (Or.inl h1)
    ·exact hh.elim
   have HX:Unit→Blk W4 xb #[.int .i64 (na:Int),.int .i64 (nb:Int),.int .i64 tw] 30:=fun _=>hbx
   have HL:Unit→gb<xb∧(∀b,a2=some ⟨b,0,none⟩→b<xb)∧∀bb bo,0<es.length→sa=some ⟨bb,bo,none⟩→¬(bb=gb∨a2=some ⟨bb,0,none⟩):=fun _=>by
    refine⟨by rw[hxb];exact(HG ()).1.heap.blk.lt,fun b e=>by rw[hxb];exact(HG ()).1.pile_lt b e,fun bb bo he0 e=>?_⟩
    rcases (HB ()).1 with e1|⟨b1,o1,e1,h1,_⟩
    ·rw[e1]at he0;simp at he0
    ·rw[e1]at e
     cases e
     rintro (e2|e2)
     ·rcases (HG ()).1.g0 with e3|e3
      ·exact e3
      ·omega
     ·rcases (HG ()).1.pile _ e2 with e3|e3
      ·exact e3
      ·omega
   clear hW4 hbx hxb hk4
   have z0:=(HX ()).cell 0
   simp at z0
   have HC1:Unit→Calls Tryz.prog 102 #[.pointer (some ⟨gb,0,none⟩),.int .i64 (na:Int)] W4 fun r w'=>r=.returned (.tuple #[])∧∃R' cnt' a' n' c' L',Jn (fun b=>b=gb∨a2=some ⟨b,0,none⟩) W4 w' gb cp sa es N (fun e=>e=⟨(na:Int),(nb:Int),tw⟩) R' cnt' a' n' c' L'∧R' na=true∧(∀j,R j=true→R' j=true)∧(10 - cnt') * 31+n'≤(10 - cnt) * 31+n:=fun _=>
    reach_jn (HJ4 ()).here na (by have:=HE ();omega) (HB ()).2.2.2.2 ((HJ4 ()).sound.mark (HE ()).1 (HE ()).2.1 na (Or.inl (by simp))) ((HB ()).1.keep (HJ4 ()).gw.keep) (HL ()).2.2 (HB ()).2.1 (HB ()).2.2.1
   go_wp2_with fail
   refine Calls.mono (HC1 ()) ?_
   rintro r w5 ⟨rfl,R5,cnt5,a5,n5,c5,L5,hj5,hr5,hm5,hd5⟩
   have HJ5:Unit→Jn nil w w5 gb cp sa es N (fun e=>e=⟨(na:Int),(nb:Int),tw⟩) R5 cnt5 a5 n5 c5 L5∧R5 na=true∧(∀j,R j=true→R5 j=true)∧(10 - cnt5) * 31+n5≤(10 - cnt) * 31+n:=fun _=>⟨(HJ4 ()).back hj5,hr5,hm5,hd5⟩
   have hb5:Blk w5 xb #[.int .i64 (na:Int),.int .i64 (nb:Int),.int .i64 tw] 30:=(HX ()).keep hj5.gw.keep (fun e=>by
    rcases e with e|e
    ·have:=(HL ()).1;omega
    ·have:=(HL ()).2.1 _ e;omega)
   have z1:=hb5.cell 1
   simp at z1
   have hxw:xb<w5.heap.size:=hb5.lt
   have hgw:gb<w5.heap.size:=hj5.gw.heap.blk.lt
   clear hj5 hr5 hm5 hd5 hb5 HC1 z0
   have HC2:Unit→Calls Tryz.prog 102 #[.pointer (some ⟨gb,0,none⟩),.int .i64 (nb:Int)] w5 fun r w'=>r=.returned (.tuple #[])∧∃R' cnt' a' n' c' L',Jn nil w w' gb cp sa es N (fun e=>e=⟨(na:Int),(nb:Int),tw⟩) R' cnt' a' n' c' L'∧R' nb=true∧(∀j,R5 j=true→R' j=true)∧(10 - cnt') * 31+n'≤(10 - cnt5) * 31+n5:=fun _=>
    reach_jn (HJ5 ()).1 nb (by have:=HE ();omega) (HB ()).2.2.2.2 ((HJ5 ()).1.sound.mark (HE ()).1 (Or.inl (by simpa using (HJ5 ()).2.1)) nb (Or.inr (by simp))) (HB ()).1 (fun _ _ _ _ e=>e) (HB ()).2.1 (HB ()).2.2.1
   go_wp2_with fail
   refine Calls.mono (HC2 ()) ?_
   rintro r w6 ⟨rfl,R6,cnt6,a6,n6,c6,L6,hj6,hr6,hm6,hd6⟩
   have HJ6:Unit→Jn nil w w6 gb cp sa es N (fun _=>False) R6 cnt6 a6 n6 c6 L6∧R6 0=true∧(10 - cnt6) * 31+n6≤(10 - cnt) * 31+n:=fun _=>by
    refine⟨⟨hj6.gw,hj6.crd,hj6.far,hj6.sound,fun e he=>?_,hj6.heap,hj6.num⟩,hm6 0 ((HJ5 ()).2.2.1 0 (HJ ()).2),Nat.le_trans hd6 (HJ5 ()).2.2.2⟩
    rcases hj6.edge e he with hh|hh|hh
    ·exact Or.inl hh
    ·exact Or.inr (Or.inl hh)
    ·refine Or.inl ?_
     rw[hh]
     simp[hr6,hm6 na (HJ5 ()).2.1]
   clear hj6 hr6 hm6 hd6 HC2 z1
   go_wp2
   go_roundw
   case rel=>exact⟨R6,cnt6,a6,n6,c6,L6,(HJ6 ()).1,(HJ6 ()).2.1⟩
   case measure=>
    rw[(HJ6 ()).1.meas,(HJ ()).1.meas]
    have:=(HJ6 ()).2.2
    omega
theorem mkfn:∀(fn:Fn) (first cap:Array Value) (w:World),(Instr.makeFunc fn first cap).run Tryz.prog w=.ok (.func fn first cap) w:=fun _ _ _ _=>rfl
theorem index_strays(nb:Nat)(n:Int)(sa:Option Addr)(es:List Ed)(cp:Nat)(w:World)(hsl:ESl w sa es)(hlen:es.length≤30)(hn:w.cell? ⟨nb,0,none⟩=some (.int .i64 n)):
 Calls Tryz.prog 101 #[.slice sa es.length cp,.func (.func 49) #[] #[.pointer (some ⟨nb,0,none⟩)]] w fun r w'=>∃z:Int,r=.returned (.int .i64 z)∧(0≤z↔∃e∈es,strayB n e=true)∧Keep nil w w':=by
 have HB:Unit→ESl w sa es∧es.length≤30:=fun _=>⟨hsl,hlen⟩
 have HC:Unit→∀e w1,Keep nil w w1→Calls Tryz.prog 49 #[edv e,.pointer (some ⟨nb,0,none⟩)] w1 fun r w'=>r=.returned (.bool (strayB n e))∧Keep nil w1 w':=fun _ e w1 k1=>strays_any nb n e w1 ((k1.cell nb 0 (World.block_lt_of_cell? w _ hn) (fun e=>e)).trans hn)
 clear hsl hlen
 go_enter Tryz.func101,Tryz.ntmps101
 go_wp2_with fail
 go_loopw [8] (fun v wr=>∃k:Nat,k≤es.length∧v=.int .i64 (k:Int)∧Keep nil w wr∧∀e∈es.take k,strayB n e=false) (fun v _=>es.length - (intOf v).toNat)
 case atStart=>exact⟨0,by omega,rfl,Keep.refl _ _,fun e he=>by simp at he⟩
 case round=>
  obtain⟨k,hk,rfl,hkw,hall⟩:=hrel
  have HR:Unit→Keep nil w wr∧∀e∈es.take k,strayB n e=false:=fun _=>⟨hkw,hall⟩
  clear hkw hall
  by_cases hil:k<es.length
  ·obtain⟨e,he⟩:∃e,es[k]?=some e:=⟨_,List.getElem?_eq_getElem hil⟩
   obtain⟨bb,bo,rfl,hbb,hrow⟩:=(HB ()).1.some hil
   obtain⟨q0,q1,q2⟩:=erow_get (hrow.keep (HR ()).1 hbb (fun e=>e)) k e he
   have hbw:bb<wr.heap.size:=Nat.lt_of_lt_of_le hbb (HR ()).1.size
   have hiI:(k:Int)<(es.length:Int):=by omega
   have hwi:(k:Int)<1000:=by have:=HB ();omega
   have HE:Unit→es[k]?=some e:=fun _=>he
   have hc:=HC () e wr (HR ()).1
   obtain⟨ea,eb,ew⟩:=e
   simp only at q0 q1 q2
   clear he hrow hbb
   generalize hp:strayB n ⟨ea,eb,ew⟩=pe at hc
   have HP:Unit→strayB n ⟨ea,eb,ew⟩=pe:=fun _=>hp
   clear hp
   go_wp2_with fail
   refine hc.mono ?_
   rintro r w' ⟨rfl,hk2⟩
   have HK:Unit→Keep nil w w':=fun _=>(HR ()).1.trans hk2
   clear hk2 hc q0 q1 q2
   cases pe
   ·go_wp2
    go_roundw
    case rel=>
     refine⟨k+1,by omega,by go_num,HK (),fun x hx=>?_⟩
     rcases (mem_take_succ (HE ())).1 hx with hx|rfl
     ·exact(HR ()).2 x hx
     ·exact HP ()
    case measure=>simp[intOf];omega
   ·go_wp2
    go_ret
    exact⟨k,rfl,⟨fun _=>⟨_,List.mem_of_getElem? (HE ()),HP ()⟩,fun _=>by omega⟩,HK ()⟩
  ·have ek:k=es.length:=by omega
   subst ek
   go_wp2
   go_ret
   refine⟨-1,rfl,⟨fun h=>by omega,fun⟨e,he,hp⟩=>?_⟩,(HR ()).1⟩
   rw[(HR ()).2 e (by rw[List.take_length];exact he)]at hp
   cases hp
theorem contains_strays(nb:Nat)(n:Int)(sa:Option Addr)(es:List Ed)(cp:Nat)(w:World)(hsl:ESl w sa es)(hlen:es.length≤30)(hn:w.cell? ⟨nb,0,none⟩=some (.int .i64 n)):
 Calls Tryz.prog 51 #[.slice sa es.length cp,.func (.func 49) #[] #[.pointer (some ⟨nb,0,none⟩)]] w fun r w'=>∃b:Bool,r=.returned (.bool b)∧(b=true↔∃e∈es,strayB n e=true)∧Keep nil w w':=by
 have HI:Unit→_:=fun _=>index_strays nb n sa es cp w hsl hlen hn
 clear hsl hlen
 go_enter Tryz.func51,Tryz.ntmps51
 go_wp2_with fail
 refine Calls.mono (HI ()) ?_
 rintro r w' ⟨z,rfl,hz,hk⟩
 clear HI
 have HZ:Unit→(0≤z↔∃e∈es,strayB n e=true)∧Keep nil w w':=fun _=>⟨hz,hk⟩
 clear hz hk
 go_wp2
 go_ret
 exact⟨_,rfl,by rw[←(HZ ()).1];simp,(HZ ()).2⟩
theorem index_heavy(sa:Option Addr)(es:List Ed)(cp:Nat)(w:World)(hsl:ESl w sa es)(hlen:es.length≤30):
 Calls Tryz.prog 101 #[.slice sa es.length cp,.func (.func 52) #[] #[]] w fun r w'=>∃z:Int,r=.returned (.int .i64 z)∧(0≤z↔∃e∈es,heavyB e=true)∧Keep nil w w':=by
 have HB:Unit→ESl w sa es∧es.length≤30:=fun _=>⟨hsl,hlen⟩
 have HC:Unit→∀e w1,Keep nil w w1→Calls Tryz.prog 52 #[edv e] w1 fun r w'=>r=.returned (.bool (heavyB e))∧Keep nil w1 w':=fun _ e w1 k1=>weighsWrong_any e w1
 clear hsl hlen
 go_enter Tryz.func101,Tryz.ntmps101
 go_wp2_with fail
 go_loopw [8] (fun v wr=>∃k:Nat,k≤es.length∧v=.int .i64 (k:Int)∧Keep nil w wr∧∀e∈es.take k,heavyB e=false) (fun v _=>es.length - (intOf v).toNat)
 case atStart=>exact⟨0,by omega,rfl,Keep.refl _ _,fun e he=>by simp at he⟩
 case round=>
  obtain⟨k,hk,rfl,hkw,hall⟩:=hrel
  have HR:Unit→Keep nil w wr∧∀e∈es.take k,heavyB e=false:=fun _=>⟨hkw,hall⟩
  clear hkw hall
  by_cases hil:k<es.length
  ·obtain⟨e,he⟩:∃e,es[k]?=some e:=⟨_,List.getElem?_eq_getElem hil⟩
   obtain⟨bb,bo,rfl,hbb,hrow⟩:=(HB ()).1.some hil
   obtain⟨q0,q1,q2⟩:=erow_get (hrow.keep (HR ()).1 hbb (fun e=>e)) k e he
   have hbw:bb<wr.heap.size:=Nat.lt_of_lt_of_le hbb (HR ()).1.size
   have hiI:(k:Int)<(es.length:Int):=by omega
   have hwi:(k:Int)<1000:=by have:=HB ();omega
   have HE:Unit→es[k]?=some e:=fun _=>he
   have hc:=HC () e wr (HR ()).1
   obtain⟨ea,eb,ew⟩:=e
   simp only at q0 q1 q2
   clear he hrow hbb
   generalize hp:heavyB ⟨ea,eb,ew⟩=pe at hc
   have HP:Unit→heavyB ⟨ea,eb,ew⟩=pe:=fun _=>hp
   clear hp
   go_wp2_with fail
   refine hc.mono ?_
   rintro r w' ⟨rfl,hk2⟩
   have HK:Unit→Keep nil w w':=fun _=>(HR ()).1.trans hk2
   clear hk2 hc q0 q1 q2
   cases pe
   ·go_wp2
    go_roundw
    case rel=>
     refine⟨k+1,by omega,by go_num,HK (),fun x hx=>?_⟩
     rcases (mem_take_succ (HE ())).1 hx with hx|rfl
     ·exact(HR ()).2 x hx
     ·exact HP ()
    case measure=>simp[intOf];omega
   ·go_wp2
    go_ret
    exact⟨k,rfl,⟨fun _=>⟨_,List.mem_of_getElem? (HE ()),HP ()⟩,fun _=>by omega⟩,HK ()⟩
  ·have ek:k=es.length:=by omega
   subst ek
   go_wp2
   go_ret
   refine⟨-1,rfl,⟨fun h=>by omega,fun⟨e,he,hp⟩=>?_⟩,(HR ()).1⟩
   rw[(HR ()).2 e (by rw[List.take_length];exact he)]at hp
   cases hp
theorem contains_heavy(sa:Option Addr)(es:List Ed)(cp:Nat)(w:World)(hsl:ESl w sa es)(hlen:es.length≤30):
 Calls Tryz.prog 51 #[.slice sa es.length cp,.func (.func 52) #[] #[]] w fun r w'=>∃b:Bool,r=.returned (.bool b)∧(b=true↔∃e∈es,heavyB e=true)∧Keep nil w w':=by
 have HI:Unit→_:=fun _=>index_heavy sa es cp w hsl hlen
 clear hsl hlen
 go_enter Tryz.func51,Tryz.ntmps51
 go_wp2_with fail
 refine Calls.mono (HI ()) ?_
 rintro r w' ⟨z,rfl,hz,hk⟩
 clear HI
 have HZ:Unit→(0≤z↔∃e∈es,heavyB e=true)∧Keep nil w w':=fun _=>⟨hz,hk⟩
 clear hz hk
 go_wp2
 go_ret
 exact⟨_,rfl,by rw[←(HZ ()).1];simp,(HZ ()).2⟩
theorem anyTwo_weight(sa:Option Addr)(es:List Ed)(cp:Nat)(w:World)(hsl:ESl w sa es)(hlen:es.length≤30)(hcp:es.length≤cp):
 Calls Tryz.prog 53 #[.slice sa es.length cp,.func (.func 54) #[] #[]] w fun r w'=>∃b:Bool,r=.returned (.bool b)∧(b=true↔∃(i j:Nat) (e f:Ed),j<i∧es[i]?=some e∧es[j]?=some f∧sameWB e f=true)∧Keep nil w w':=by
 have HB:Unit→ESl w sa es∧es.length≤30:=fun _=>⟨hsl,hlen⟩
 have HC:Unit→∀e f w1,Calls Tryz.prog 54 #[edv e,edv f] w1 fun r w'=>r=.returned (.bool (sameWB e f))∧Keep nil w1 w':=fun _ e f w1=>weighAlike_any e f w1
 clear hsl hlen
 go_enter Tryz.func53,Tryz.ntmps53
 go_wp2_with fail
 go_loopw [11] (fun v wr=>∃k:Nat,k≤es.length∧v=.int .i64 (k:Int)∧Keep nil w wr∧∀(i j:Nat) (e f:Ed),i<k→j<i→es[i]?=some e→es[j]?=some f→sameWB e f=false) (fun v _=>es.length - (intOf v).toNat)
 case atStart=>exact⟨0,by omega,rfl,Keep.refl _ _,fun i j e f h=>by omega⟩
 case round=>
  obtain⟨k,hk,rfl,hkw,hall⟩:=hrel
  have HR:Unit→Keep nil w wr∧∀(i j:Nat) (e f:Ed),i<k→j<i→es[i]?=some e→es[j]?=some f→sameWB e f=false:=fun _=>⟨hkw,hall⟩
  clear hkw hall
  by_cases hil:k<es.length
  ·obtain⟨e,he⟩:∃e,es[k]?=some e:=⟨_,List.getElem?_eq_getElem hil⟩
   obtain⟨bb,bo,rfl,hbb,hrow⟩:=(HB ()).1.some hil
   obtain⟨q0,q1,q2⟩:=erow_get (hrow.keep (HR ()).1 hbb (fun e=>e)) k e he
   have hbw:bb<wr.heap.size:=Nat.lt_of_lt_of_le hbb (HR ()).1.size
   have hiI:(k:Int)<(es.length:Int):=by omega
   have hcI:(k:Int)≤(cp:Int):=by omega
   have hwi:(k:Int)<1000:=by have:=HB ();omega
   have HE:Unit→es[k]?=some e∧ERow w bb bo es∧bb<w.heap.size:=fun _=>⟨he,hrow,hbb⟩
   have HX:Unit→∀f w1,Calls Tryz.prog 54 #[edv e,edv f] w1 fun r w'=>r=.returned (.bool (sameWB e f))∧Keep nil w1 w':=fun _=>HC () e
   obtain⟨ea,eb,ew⟩:=e
   simp only at q0 q1 q2
   clear he hrow hbb
   go_wp2_with fail
   obtain⟨W1,hW1⟩:∃W1,W1=wr.alloc (.cells #[.int .i64 ea,.int .i64 eb,.int .i64 ew] 30):=⟨_,rfl⟩
   have hbx:Blk W1 wr.heap.size #[.int .i64 ea,.int .i64 eb,.int .i64 ew] 30:=by rw[hW1];exact Blk.new _ _ _
   have hk2:Keep nil wr W1:=by rw[hW1];exact(Keep.refl nil wr).alloc _
   rw[←hW1]
   obtain⟨xb,hxb⟩:∃xb,xb=wr.heap.size:=⟨_,rfl⟩
   rw[←hxb]at hbx⊢
   have H1:Unit→Blk W1 xb #[.int .i64 ea,.int .i64 eb,.int .i64 ew] 30∧Keep nil w W1:=fun _=>⟨hbx,(HR ()).1.trans hk2⟩
   clear hW1 hbx hxb hk2 q0 q1 q2 hbw
   go_loopw [20] (fun v ws=>∃j:Nat,j≤k∧v=.int .i64 (j:Int)∧Keep nil W1 ws∧∀(i:Nat) (f:Ed),i<j→es[i]?=some f→sameWB ⟨ea,eb,ew⟩ f=false) (fun v _=>k - (intOf v).toNat)
   case atStart=>exact⟨0,by omega,rfl,Keep.refl _ _,fun i f h=>by omega⟩
   case round=>
    obtain⟨j,hj,rfl,hkw,hall⟩:=hrel
    have HS:Unit→Keep nil W1 wr∧∀(i:Nat) (f:Ed),i<j→es[i]?=some f→sameWB ⟨ea,eb,ew⟩ f=false:=fun _=>⟨hkw,hall⟩
    clear hkw hall
    by_cases hjl:j<k
    ·obtain⟨f,hf⟩:∃f,es[j]?=some f:=⟨_,List.getElem?_eq_getElem (Nat.lt_trans hjl hil)⟩
     obtain⟨q0,q1,q2⟩:=erow_get ((HE ()).2.1.keep ((H1 ()).2.trans (HS ()).1) (HE ()).2.2 (fun e=>e)) j f hf
     have hbw:bb<wr.heap.size:=Nat.lt_of_lt_of_le (HE ()).2.2 ((H1 ()).2.trans (HS ()).1).size
     have hjI:(j:Int)<(k:Int):=by omega
     have hxw:xb<wr.heap.size:=Nat.lt_of_lt_of_le (H1 ()).1.lt (HS ()).1.size
     have z0:=((H1 ()).1.keep (HS ()).1 (fun e=>e)).cell 0
     have z1:=((H1 ()).1.keep (HS ()).1 (fun e=>e)).cell 1
     have z2:=((H1 ()).1.keep (HS ()).1 (fun e=>e)).cell 2
     simp at z0 z1 z2
     have HF:Unit→es[j]?=some f:=fun _=>hf
     have hc:=HX () f
     obtain⟨fa,fb,fw⟩:=f
     simp only at q0 q1 q2
     clear hf
     generalize hp:sameWB ⟨ea,eb,ew⟩ ⟨fa,fb,fw⟩=pe at hc
     have HP:Unit→sameWB ⟨ea,eb,ew⟩ ⟨fa,fb,fw⟩=pe:=fun _=>hp
     clear hp
     go_wp2_with fail
     refine(hc _).mono ?_
     rintro r w' ⟨rfl,hk2⟩
     have HK:Unit→Keep nil W1 w':=fun _=>((HS ()).1.trans ((Keep.refl nil _).alloc _)).trans hk2
     clear hk2 hc q0 q1 q2 z0 z1 z2
     cases pe
     ·go_wp2
      go_roundw
      case rel=>
       refine⟨j+1,by omega,by go_num,HK (),fun i x hi hx=>?_⟩
       by_cases hij:i<j
       ·exact(HS ()).2 i x hij hx
       ·have e1:i=j:=by omega
        subst e1
        rw[HF ()]at hx
        cases hx
        exact HP ()
      case measure=>simp[intOf];omega
     ·go_wp2
      go_ret
      exact⟨true,rfl,⟨fun _=>⟨k,j,_,_,by omega,(HE ()).1,HF (),HP ()⟩,fun _=>rfl⟩,(H1 ()).2.trans (HK ())⟩
    ·have ej:j=k:=by omega
     subst ej
     go_wp2
     go_roundw
     case rel=>
      refine⟨j+1,by omega,by go_num,(H1 ()).2.trans (HS ()).1,fun i i2 x y hi hi2 hx hy=>?_⟩
      by_cases hij:i<j
      ·exact(HR ()).2 i i2 x y hij hi2 hx hy
      ·have e1:i=j:=by omega
       subst e1
       rw[(HE ()).1]at hx
       cases hx
       exact(HS ()).2 i2 y hi2 hy
     case measure=>simp[intOf];omega
  ·have ek:k=es.length:=by omega
   subst ek
   go_wp2
   go_ret
   refine⟨false,rfl,⟨fun h=>(Bool.noConfusion h),fun⟨i,j,e,f,h1,h2,h3,h4⟩=>?_⟩,(HR ()).1⟩
   rw[(HR ()).2 i j e f (List.getElem?_eq_some_iff.1 h2).1 h1 h2 h3]at h4
   cases h4
theorem anyTwo_edge(sa:Option Addr)(es:List Ed)(cp:Nat)(w:World)(hsl:ESl w sa es)(hlen:es.length≤30)(hcp:es.length≤cp):
 Calls Tryz.prog 53 #[.slice sa es.length cp,.func (.func 55) #[] #[]] w fun r w'=>∃b:Bool,r=.returned (.bool b)∧(b=true↔∃(i j:Nat) (e f:Ed),j<i∧es[i]?=some e∧es[j]?=some f∧sameEB e f=true)∧Keep nil w w':=by
 have HB:Unit→ESl w sa es∧es.length≤30:=fun _=>⟨hsl,hlen⟩
 have HC:Unit→∀e f w1,Calls Tryz.prog 55 #[edv e,edv f] w1 fun r w'=>r=.returned (.bool (sameEB e f))∧Keep nil w1 w':=fun _ e f w1=>joinAlike_any e f w1
 clear hsl hlen
 go_enter Tryz.func53,Tryz.ntmps53
 go_wp2_with fail
 go_loopw [11] (fun v wr=>∃k:Nat,k≤es.length∧v=.int .i64 (k:Int)∧Keep nil w wr∧∀(i j:Nat) (e f:Ed),i<k→j<i→es[i]?=some e→es[j]?=some f→sameEB e f=false) (fun v _=>es.length - (intOf v).toNat)
 case atStart=>exact⟨0,by omega,rfl,Keep.refl _ _,fun i j e f h=>by omega⟩
 case round=>
  obtain⟨k,hk,rfl,hkw,hall⟩:=hrel
  have HR:Unit→Keep nil w wr∧∀(i j:Nat) (e f:Ed),i<k→j<i→es[i]?=some e→es[j]?=some f→sameEB e f=false:=fun _=>⟨hkw,hall⟩
  clear hkw hall
  by_cases hil:k<es.length
  ·obtain⟨e,he⟩:∃e,es[k]?=some e:=⟨_,List.getElem?_eq_getElem hil⟩
   obtain⟨bb,bo,rfl,hbb,hrow⟩:=(HB ()).1.some hil
   obtain⟨q0,q1,q2⟩:=erow_get (hrow.keep (HR ()).1 hbb (fun e=>e)) k e he
   have hbw:bb<wr.heap.size:=Nat.lt_of_lt_of_le hbb (HR ()).1.size
   have hiI:(k:Int)<(es.length:Int):=by omega
   have hcI:(k:Int)≤(cp:Int):=by omega
   have hwi:(k:Int)<1000:=by have:=HB ();omega
   have HE:Unit→es[k]?=some e∧ERow w bb bo es∧bb<w.heap.size:=fun _=>⟨he,hrow,hbb⟩
   have HX:Unit→∀f w1,Calls Tryz.prog 55 #[edv e,edv f] w1 fun r w'=>r=.returned (.bool (sameEB e f))∧Keep nil w1 w':=fun _=>HC () e
   obtain⟨ea,eb,ew⟩:=e
   simp only at q0 q1 q2
   clear he hrow hbb
   go_wp2_with fail
   obtain⟨W1,hW1⟩:∃W1,W1=wr.alloc (.cells #[.int .i64 ea,.int .i64 eb,.int .i64 ew] 30):=⟨_,rfl⟩
   have hbx:Blk W1 wr.heap.size #[.int .i64 ea,.int .i64 eb,.int .i64 ew] 30:=by rw[hW1];exact Blk.new _ _ _
   have hk2:Keep nil wr W1:=by rw[hW1];exact(Keep.refl nil wr).alloc _
   rw[←hW1]
   obtain⟨xb,hxb⟩:∃xb,xb=wr.heap.size:=⟨_,rfl⟩
   rw[←hxb]at hbx⊢
   have H1:Unit→Blk W1 xb #[.int .i64 ea,.int .i64 eb,.int .i64 ew] 30∧Keep nil w W1:=fun _=>⟨hbx,(HR ()).1.trans hk2⟩
   clear hW1 hbx hxb hk2 q0 q1 q2 hbw
   go_loopw [20] (fun v ws=>∃j:Nat,j≤k∧v=.int .i64 (j:Int)∧Keep nil W1 ws∧∀(i:Nat) (f:Ed),i<j→es[i]?=some f→sameEB ⟨ea,eb,ew⟩ f=false) (fun v _=>k - (intOf v).toNat)
   case atStart=>exact⟨0,by omega,rfl,Keep.refl _ _,fun i f h=>by omega⟩
   case round=>
    obtain⟨j,hj,rfl,hkw,hall⟩:=hrel
    have HS:Unit→Keep nil W1 wr∧∀(i:Nat) (f:Ed),i<j→es[i]?=some f→sameEB ⟨ea,eb,ew⟩ f=false:=fun _=>⟨hkw,hall⟩
    clear hkw hall
    by_cases hjl:j<k
    ·obtain⟨f,hf⟩:∃f,es[j]?=some f:=⟨_,List.getElem?_eq_getElem (Nat.lt_trans hjl hil)⟩
     obtain⟨q0,q1,q2⟩:=erow_get ((HE ()).2.1.keep ((H1 ()).2.trans (HS ()).1) (HE ()).2.2 (fun e=>e)) j f hf
     have hbw:bb<wr.heap.size:=Nat.lt_of_lt_of_le (HE ()).2.2 ((H1 ()).2.trans (HS ()).1).size
     have hjI:(j:Int)<(k:Int):=by omega
     have hxw:xb<wr.heap.size:=Nat.lt_of_lt_of_le (H1 ()).1.lt (HS ()).1.size
     have z0:=((H1 ()).1.keep (HS ()).1 (fun e=>e)).cell 0
     have z1:=((H1 ()).1.keep (HS ()).1 (fun e=>e)).cell 1
     have z2:=((H1 ()).1.keep (HS ()).1 (fun e=>e)).cell 2
     simp at z0 z1 z2
     have HF:Unit→es[j]?=some f:=fun _=>hf
     have hc:=HX () f
     obtain⟨fa,fb,fw⟩:=f
     simp only at q0 q1 q2
     clear hf
     generalize hp:sameEB ⟨ea,eb,ew⟩ ⟨fa,fb,fw⟩=pe at hc
     have HP:Unit→sameEB ⟨ea,eb,ew⟩ ⟨fa,fb,fw⟩=pe:=fun _=>hp
     clear hp
     go_wp2_with fail
     refine(hc _).mono ?_
     rintro r w' ⟨rfl,hk2⟩
     have HK:Unit→Keep nil W1 w':=fun _=>((HS ()).1.trans ((Keep.refl nil _).alloc _)).trans hk2
     clear hk2 hc q0 q1 q2 z0 z1 z2
     cases pe
     ·go_wp2
      go_roundw
      case rel=>
       refine⟨j+1,by omega,by go_num,HK (),fun i x hi hx=>?_⟩
       by_cases hij:i<j
       ·exact(HS ()).2 i x hij hx
       ·have e1:i=j:=by omega
        subst e1
        rw[HF ()]at hx
        cases hx
        exact HP ()
      case measure=>simp[intOf];omega
     ·go_wp2
      go_ret
      exact⟨true,rfl,⟨fun _=>⟨k,j,_,_,by omega,(HE ()).1,HF (),HP ()⟩,fun _=>rfl⟩,(H1 ()).2.trans (HK ())⟩
    ·have ej:j=k:=by omega
     subst ej
     go_wp2
     go_roundw
     case rel=>
      refine⟨j+1,by omega,by go_num,(H1 ()).2.trans (HS ()).1,fun i i2 x y hi hi2 hx hy=>?_⟩
      by_cases hij:i<j
      ·exact(HR ()).2 i i2 x y hij hi2 hx hy
      ·have e1:i=j:=by omega
       subst e1
       rw[(HE ()).1]at hx
       cases hx
       exact(HS ()).2 i2 y hi2 hy
     case measure=>simp[intOf];omega
  ·have ek:k=es.length:=by omega
   subst ek
   go_wp2
   go_ret
   refine⟨false,rfl,⟨fun h=>(Bool.noConfusion h),fun⟨i,j,e,f,h1,h2,h3,h4⟩=>?_⟩,(HR ()).1⟩
   rw[(HR ()).2 i j e f (List.getElem?_eq_some_iff.1 h2).1 h1 h2 h3]at h4
   cases h4
theorem stray_iff(n:Int)(es:List Ed):(∃e∈es,strayB n e=true)↔BadEdge n es:=by
 refine exists_congr (fun e=>and_congr_right (fun _=>?_))
 simp only[strayB,Stray,Bool.or_eq_true,Bool.not_eq_true',Bool.and_eq_false_iff,decide_eq_false_iff_not,beq_iff_eq]
 omega
theorem heavy_iff(es:List Ed):(∃e∈es,heavyB e=true)↔∃e∈es,Heavy e:=by
 refine exists_congr (fun e=>and_congr_right (fun _=>?_))
 simp[heavyB,Heavy]
theorem sameW_iff(es:List Ed):(∃(i j:Nat) (e f:Ed),j<i∧es[i]?=some e∧es[j]?=some f∧sameWB e f=true)↔Two SameW es:=by
 simp[Two,SameW,sameWB]
theorem sameE_iff(es:List Ed):(∃(i j:Nat) (e f:Ed),j<i∧es[i]?=some e∧es[j]?=some f∧sameEB e f=true)↔Two SameE es:=by
 simp[Two,SameE,sameEB]
theorem inN_of{n:Int}{es:List Ed}(h:¬BadEdge n es)(h0:0≤n):InN n.toNat es:=fun e he=>by
 have:¬Stray n e:=fun hs=>h ⟨e,he,hs⟩
 unfold Stray at this
 omega
theorem graphCheck_any(n:Int)(sa:Option Addr)(es:List Ed)(cp:Nat)(w:World)(hsl:ESl w sa es)(hcp:es.length≤cp):
 Calls Tryz.prog 29 #[.int .i64 n,.slice sa es.length cp] w fun r w'=>∃z:Int,r=.returned (.int .i64 z)∧Chk n es z∧Keep nil w w':=by
 have hmf:=mkfn
 have HB:Unit→ESl w sa es∧es.length≤cp:=fun _=>⟨hsl,hcp⟩
 clear hsl hcp
 by_cases hbad:BadSize n es
 ·have HS:Unit→BadSize n es:=fun _=>hbad
  unfold BadSize at hbad
  go_enter Tryz.func29,Tryz.ntmps29
  rcases hbad with h|h|h
  ·go_wp2
   go_ret
   exact⟨1,rfl,Chk.mk1 (HS ()),(Keep.refl nil w).alloc _⟩
  ·go_wp2
   all_goals
    go_ret
    exact⟨1,rfl,Chk.mk1 (HS ()),(Keep.refl nil w).alloc _⟩
  ·have h':(30:Int)<(es.length:Int):=by omega
   clear h
   go_wp2
   all_goals
    go_ret
    exact⟨1,rfl,Chk.mk1 (HS ()),(Keep.refl nil w).alloc _⟩
 ·have HS:Unit→¬BadSize n es:=fun _=>hbad
  have h1:1≤n:=by unfold BadSize at hbad;omega
  have h2:n≤10:=by unfold BadSize at hbad;omega
  have h3:(es.length:Int)≤30:=by unfold BadSize at hbad;omega
  have HL:Unit→es.length≤30∧1≤n∧n≤10:=fun _=>⟨by omega,h1,h2⟩
  clear hbad
  go_enter Tryz.func29,Tryz.ntmps29
  go_wp2_with fail
  obtain⟨W1,hW1⟩:∃W1,W1=w.alloc (.cells #[.int .i64 n] 3):=⟨_,rfl⟩
  have hbx:Blk W1 w.heap.size #[.int .i64 n] 3:=by rw[hW1];exact Blk.new _ _ _
  have hk1:Keep nil w W1:=by rw[hW1];exact(Keep.refl nil w).alloc _
  rw[←hW1]
  obtain⟨nb,hnb⟩:∃nb,nb=w.heap.size:=⟨_,rfl⟩
  rw[←hnb]at hbx⊢
  have HX:Unit→Blk W1 nb #[.int .i64 n] 3∧Keep nil w W1:=fun _=>⟨hbx,hk1⟩
  clear hW1 hbx hnb hk1 h1 h2 h3
  have HC1:Unit→_:=fun _=>contains_strays nb n sa es cp W1 ((HB ()).1.keep (HX ()).2) (HL ()).1 (by have:=(HX ()).1.cell 0;simpa using this)
  refine Calls.mono (HC1 ()) ?_
  rintro r w2 ⟨b,rfl,hb,hk2⟩
  rw[stray_iff]at hb
  have H2:Unit→(b=true↔BadEdge n es)∧Keep nil W1 w2:=fun _=>⟨hb,hk2⟩
  clear hb hk2 HC1
  cases b
  ·have HE:Unit→¬BadEdge n es:=fun _ h=>by have:=(H2 ()).1.2 h;cases this
   have HC2:Unit→_:=fun _=>contains_heavy sa es cp w2 ((HB ()).1.keep ((HX ()).2.trans (H2 ()).2)) (HL ()).1
   go_wp2_with fail
   refine Calls.mono (HC2 ()) ?_
   rintro r w3 ⟨b,rfl,hb,hk3⟩
   rw[heavy_iff]at hb
   have H3:Unit→(b=true↔∃e∈es,Heavy e)∧Keep nil w w3∧Keep nil W1 w3:=fun _=>⟨hb,((HX ()).2.trans (H2 ()).2).trans hk3,(H2 ()).2.trans hk3⟩
   clear hb hk3 HC2
   cases b
   ·have HC3:Unit→_:=fun _=>anyTwo_weight sa es cp w3 ((HB ()).1.keep (H3 ()).2.1) (HL ()).1 (HB ()).2
    go_wp2_with fail
    refine Calls.mono (HC3 ()) ?_
    rintro r w4 ⟨b,rfl,hb,hk4⟩
    rw[sameW_iff]at hb
    have H4:Unit→(b=true↔Two SameW es)∧Keep nil w w4∧Keep nil W1 w4:=fun _=>⟨hb,(H3 ()).2.1.trans hk4,(H3 ()).2.2.trans hk4⟩
    clear hb hk4 HC3
    cases b
    ·have HW:Unit→¬BadW es:=fun _ h=>by
      rcases h with h|h
      ·have:=(H3 ()).1.2 h;cases this
      ·have:=(H4 ()).1.2 h;cases this
     have HC4:Unit→_:=fun _=>anyTwo_edge sa es cp w4 ((HB ()).1.keep (H4 ()).2.1) (HL ()).1 (HB ()).2
     go_wp2_with fail
     refine Calls.mono (HC4 ()) ?_
     rintro r w5 ⟨b,rfl,hb,hk5⟩
     rw[sameE_iff]at hb
     have H5:Unit→(b=true↔Two SameE es)∧Keep nil w w5∧Keep nil W1 w5:=fun _=>⟨hb,(H4 ()).2.1.trans hk5,(H4 ()).2.2.trans hk5⟩
     clear hb hk5 HC4
     cases b
     ·have HT:Unit→¬Two SameE es:=fun _ h=>by have:=(H5 ()).1.2 h;cases this
      have z:=((HX ()).1.keep (H5 ()).2.2 (fun e=>e)).cell 0
      simp at z
      have HC5:Unit→Calls Tryz.prog 56 #[.int .i64 n,.slice sa es.length cp] w5 fun r w'=>∃b:Bool,r=.returned (.bool b)∧(b=true↔Joined n.toNat es)∧Keep nil w5 w':=fun _=>by
       have:=joinAll_any n.toNat cp sa es w5 ((HB ()).1.keep (H5 ()).2.1) (HL ()).1 (inN_of (HE ()) (by have:=HL ();omega)) (by have:=HL ();omega) (by have:=HL ();omega)
       rwa [show ((n.toNat:Nat):Int)=n by have:=HL ();omega]at this
      go_wp2_with fail
      refine Calls.mono (HC5 ()) ?_
      rintro r w6 ⟨b,rfl,hb,hk6⟩
      have H6:Unit→(b=true↔Joined n.toNat es)∧Keep nil w w6:=fun _=>⟨hb,(H5 ()).2.1.trans hk6⟩
      clear hb hk6 HC5 z
      cases b
      ·go_wp2
       go_ret
       exact⟨5,rfl,Chk.mk5 (HS ()) (HE ()) (HW ()) (HT ()) (fun h=>by have:=(H6 ()).1.2 h;cases this),(H6 ()).2⟩
      ·go_wp2
       go_ret
       exact⟨0,rfl,Chk.mk0 (HS ()) (HE ()) (HW ()) (HT ()) ((H6 ()).1.1 (by trivial)),(H6 ()).2⟩
     ·go_wp2
      go_ret
      exact⟨4,rfl,Chk.mk4 (HS ()) (HE ()) (HW ()) ((H5 ()).1.1 (by trivial)),(H5 ()).2.1⟩
    ·go_wp2
     go_ret
     exact⟨3,rfl,Chk.mk3 (HS ()) (HE ()) (Or.inr ((H4 ()).1.1 (by trivial))),(H4 ()).2.1⟩
   ·go_wp2
    go_ret
    exact⟨3,rfl,Chk.mk3 (HS ()) (HE ()) (Or.inl ((H3 ()).1.1 (by trivial))),(H3 ()).2.1⟩
  ·go_wp2
   go_ret
   exact⟨2,rfl,Chk.mk2 (HS ()) ((H2 ()).1.1 (by trivial)),(HX ()).2.trans (H2 ()).2⟩
theorem arborCheck_any(n:Int)(sa:Option Addr)(es:List Ed)(cp:Nat)(w:World)(hsl:ESl w sa es)(hcp:es.length≤cp):
 Calls Tryz.prog 13 #[.int .i64 n,.slice sa es.length cp] w fun r w'=>∃z:Int,r=.returned (.int .i64 z)∧Chk n es z∧Keep nil w w':=by
 have HC:Unit→_:=fun _=>graphCheck_any n sa es cp w hsl hcp
 clear hsl hcp
 go_enter Tryz.func13,Tryz.ntmps13
 go_wp2_with fail
 refine Calls.mono (HC ()) ?_
 rintro r w2 ⟨z,rfl,hz,hk⟩
 have HZ:Unit→Chk n es z∧Keep nil w w2:=fun _=>⟨hz,hk⟩
 clear hz hk HC
 go_wp2
 go_ret
 exact⟨z,rfl,(HZ ()).1,(HZ ()).2⟩
end Go.Proofs.YtlfijfodklhplaaGreat
