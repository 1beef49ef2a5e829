import Derived.Test.YtlfijfodklhplaaGreatSf36
import Derived.Test.YtlfijfodklhplaaGreatSf35
import Derived.Shelf.SlSortCmp.NoneTotal
set_option linter.unusedVariables false
set_option linter.unusedSimpArgs false
namespace Go.Proofs.YtlfijfodklhplaaGreat
open Go.RowKit
set_option maxRecDepth 100000 in
set_option maxHeartbeats 400000 in
theorem anyTwo_weight (sa:Option Addr) (es:List Ed) (cp:Nat) (w:World) (hsl:ESl w sa es) (hlen:es.length≤30) (hcp:es.length≤cp) :
    Calls Tryz.prog 53 #[.slice sa es.length cp,.func (.func 54) #[] #[]] w fun r w'=>∃ b:Bool,r=.returned (.bool b)∧(b=true ↔ ∃ (i j:Nat) (e f:Ed),j < i∧es[i]?=some e∧es[j]?=some f∧sameWB e f=true)∧Keep nil w w':=by
  have HB:Unit→ESl w sa es∧es.length≤30:=fun _=>⟨hsl,hlen⟩
  have HC:Unit→∀ e f w1,Calls Tryz.prog 54 #[edv e,edv f] w1 fun r w'=>r=.returned (.bool (sameWB e f))∧Keep nil w1 w':=fun _ e f w1=>weighAlike_any e f w1
  clear hsl hlen
  go_enter Tryz.func53,Tryz.ntmps53
  go_wp2_with fail
  go_loopw [11] (fun v wr=>∃ k:Nat,k≤es.length∧v=.int .i64 (k:Int)∧Keep nil w wr∧∀ (i j:Nat) (e f:Ed),i < k→j < i→es[i]?=some e→es[j]?=some f→sameWB e f=false) (fun v _=>es.length - (intOf v).toNat)
  case atStart=>exact ⟨0,by omega,rfl,Keep.refl _ _,fun i j e f h=>by omega⟩
  case round =>
    obtain ⟨k,hk,rfl,hkw,hall⟩:=hrel
    have HR:Unit→Keep nil w wr∧∀ (i j:Nat) (e f:Ed),i < k→j < i→es[i]?=some e→es[j]?=some f→sameWB e f=false:=fun _=>⟨hkw,hall⟩
    clear hkw hall
    by_cases hil:k < es.length
    · obtain ⟨e,he⟩:∃ e,es[k]?=some e:=⟨_,List.getElem?_eq_getElem hil⟩
      obtain ⟨bb,bo,rfl,hbb,hrow⟩:=(HB ()).1.some hil
      obtain ⟨q0,q1,q2⟩:=erow_get (hrow.keep (HR ()).1 hbb (fun e=>e)) k e he
      have hbw:bb < wr.heap.size:=Nat.lt_of_lt_of_le hbb (HR ()).1.size
      have hiI:(k:Int) < (es.length:Int):=by omega
      have hcI:(k:Int)≤(cp:Int):=by omega
      have hwi:(k:Int) < 1000:=by have:=HB (); omega
      have HE:Unit→es[k]?=some e∧ERow w bb bo es∧bb < w.heap.size:=fun _=>⟨he,hrow,hbb⟩
      have HX:Unit→∀ f w1,Calls Tryz.prog 54 #[edv e,edv f] w1 fun r w'=>r=.returned (.bool (sameWB e f))∧Keep nil w1 w':=fun _=>HC () e
      obtain ⟨ea,eb,ew⟩:=e
      simp only at q0 q1 q2
      clear he hrow hbb
      go_wp2_with fail
      obtain ⟨W1,hW1⟩:∃ W1,W1=wr.alloc (.cells #[.int .i64 ea,.int .i64 eb,.int .i64 ew] 30):=⟨_,rfl⟩
      have hbx:Blk W1 wr.heap.size #[.int .i64 ea,.int .i64 eb,.int .i64 ew] 30:=by rw [hW1]; exact Blk.new _ _ _
      have hk2:Keep nil wr W1:=by rw [hW1]; exact (Keep.refl nil wr).alloc _
      rw [← hW1]
      obtain ⟨xb,hxb⟩:∃ xb,xb=wr.heap.size:=⟨_,rfl⟩
      rw [← hxb] at hbx ⊢
      have H1:Unit→Blk W1 xb #[.int .i64 ea,.int .i64 eb,.int .i64 ew] 30∧Keep nil w W1:=fun _=>⟨hbx,(HR ()).1.trans hk2⟩
      clear hW1 hbx hxb hk2 q0 q1 q2 hbw
      go_loopw [20] (fun v ws=>∃ j:Nat,j≤k∧v=.int .i64 (j:Int)∧Keep nil W1 ws∧∀ (i:Nat) (f:Ed),i < j→es[i]?=some f→sameWB ⟨ea,eb,ew⟩ f=false) (fun v _=>k - (intOf v).toNat)
      case atStart=>exact ⟨0,by omega,rfl,Keep.refl _ _,fun i f h=>by omega⟩
      case round =>
        obtain ⟨j,hj,rfl,hkw,hall⟩:=hrel
        have HS:Unit→Keep nil W1 wr∧∀ (i:Nat) (f:Ed),i < j→es[i]?=some f→sameWB ⟨ea,eb,ew⟩ f=false:=fun _=>⟨hkw,hall⟩
        clear hkw hall
        by_cases hjl:j < k
        · obtain ⟨f,hf⟩:∃ f,es[j]?=some f:=⟨_,List.getElem?_eq_getElem (Nat.lt_trans hjl hil)⟩
          obtain ⟨q0,q1,q2⟩:=erow_get ((HE ()).2.1.keep ((H1 ()).2.trans (HS ()).1) (HE ()).2.2 (fun e=>e)) j f hf
          have hbw:bb < wr.heap.size:=Nat.lt_of_lt_of_le (HE ()).2.2 ((H1 ()).2.trans (HS ()).1).size
          have hjI:(j:Int) < (k:Int):=by omega
          have hxw:xb < wr.heap.size:=Nat.lt_of_lt_of_le (H1 ()).1.lt (HS ()).1.size
          have z0:=((H1 ()).1.keep (HS ()).1 (fun e=>e)).cell 0
          have z1:=((H1 ()).1.keep (HS ()).1 (fun e=>e)).cell 1
          have z2:=((H1 ()).1.keep (HS ()).1 (fun e=>e)).cell 2
          simp at z0 z1 z2
          have HF:Unit→es[j]?=some f:=fun _=>hf
          have hc:=HX () f
          obtain ⟨fa,fb,fw⟩:=f
          simp only at q0 q1 q2
          clear hf
          generalize hp:sameWB ⟨ea,eb,ew⟩ ⟨fa,fb,fw⟩=pe at hc
          have HP:Unit→sameWB ⟨ea,eb,ew⟩ ⟨fa,fb,fw⟩=pe:=fun _=>hp
          clear hp
          go_wp2_with fail
          refine (hc _).mono ?_
          rintro r w' ⟨rfl,hk2⟩
          have HK:Unit→Keep nil W1 w':=fun _=>((HS ()).1.trans ((Keep.refl nil _).alloc _)).trans hk2
          clear hk2 hc q0 q1 q2 z0 z1 z2
          cases pe
          · go_wp2
            go_roundw
            case rel =>
              refine ⟨j + 1,by omega,by go_num,HK (),fun i x hi hx=>?_⟩
              by_cases hij:i < j
              · exact (HS ()).2 i x hij hx
              · have e1:i=j:=by omega
                subst e1
                rw [HF ()] at hx
                cases hx
                exact HP ()
            case measure=>simp [intOf]; omega
          · go_wp2
            go_ret
            exact ⟨true,rfl,⟨fun _=>⟨k,j,_,_,by omega,(HE ()).1,HF (),HP ()⟩,fun _=>rfl⟩,(H1 ()).2.trans (HK ())⟩
        · have ej:j=k:=by omega
          subst ej
          go_wp2
          go_roundw
          case rel =>
            refine ⟨j + 1,by omega,by go_num,(H1 ()).2.trans (HS ()).1,fun i i2 x y hi hi2 hx hy=>?_⟩
            by_cases hij:i < j
            · exact (HR ()).2 i i2 x y hij hi2 hx hy
            · have e1:i=j:=by omega
              subst e1
              rw [(HE ()).1] at hx
              cases hx
              exact (HS ()).2 i2 y hi2 hy
          case measure=>simp [intOf]; omega
    · have ek:k=es.length:=by omega
      subst ek
      go_wp2
      go_ret
      refine ⟨false,rfl,⟨fun h=>(Bool.noConfusion h),fun ⟨i,j,e,f,h1,h2,h3,h4⟩=>?_⟩,(HR ()).1⟩
      rw [(HR ()).2 i j e f (List.getElem?_eq_some_iff.1 h2).1 h1 h2 h3] at h4
      cases h4
set_option maxRecDepth 100000 in
set_option maxHeartbeats 400000 in
theorem anyTwo_edge (sa:Option Addr) (es:List Ed) (cp:Nat) (w:World) (hsl:ESl w sa es) (hlen:es.length≤30) (hcp:es.length≤cp) :
    Calls Tryz.prog 53 #[.slice sa es.length cp,.func (.func 55) #[] #[]] w fun r w'=>∃ b:Bool,r=.returned (.bool b)∧(b=true ↔ ∃ (i j:Nat) (e f:Ed),j < i∧es[i]?=some e∧es[j]?=some f∧sameEB e f=true)∧Keep nil w w':=by
  have HB:Unit→ESl w sa es∧es.length≤30:=fun _=>⟨hsl,hlen⟩
  have HC:Unit→∀ e f w1,Calls Tryz.prog 55 #[edv e,edv f] w1 fun r w'=>r=.returned (.bool (sameEB e f))∧Keep nil w1 w':=fun _ e f w1=>joinAlike_any e f w1
  clear hsl hlen
  go_enter Tryz.func53,Tryz.ntmps53
  go_wp2_with fail
  go_loopw [11] (fun v wr=>∃ k:Nat,k≤es.length∧v=.int .i64 (k:Int)∧Keep nil w wr∧∀ (i j:Nat) (e f:Ed),i < k→j < i→es[i]?=some e→es[j]?=some f→sameEB e f=false) (fun v _=>es.length - (intOf v).toNat)
  case atStart=>exact ⟨0,by omega,rfl,Keep.refl _ _,fun i j e f h=>by omega⟩
  case round =>
    obtain ⟨k,hk,rfl,hkw,hall⟩:=hrel
    have HR:Unit→Keep nil w wr∧∀ (i j:Nat) (e f:Ed),i < k→j < i→es[i]?=some e→es[j]?=some f→sameEB e f=false:=fun _=>⟨hkw,hall⟩
    clear hkw hall
    by_cases hil:k < es.length
    · obtain ⟨e,he⟩:∃ e,es[k]?=some e:=⟨_,List.getElem?_eq_getElem hil⟩
      obtain ⟨bb,bo,rfl,hbb,hrow⟩:=(HB ()).1.some hil
      obtain ⟨q0,q1,q2⟩:=erow_get (hrow.keep (HR ()).1 hbb (fun e=>e)) k e he
      have hbw:bb < wr.heap.size:=Nat.lt_of_lt_of_le hbb (HR ()).1.size
      have hiI:(k:Int) < (es.length:Int):=by omega
      have hcI:(k:Int)≤(cp:Int):=by omega
      have hwi:(k:Int) < 1000:=by have:=HB (); omega
      have HE:Unit→es[k]?=some e∧ERow w bb bo es∧bb < w.heap.size:=fun _=>⟨he,hrow,hbb⟩
      have HX:Unit→∀ f w1,Calls Tryz.prog 55 #[edv e,edv f] w1 fun r w'=>r=.returned (.bool (sameEB e f))∧Keep nil w1 w':=fun _=>HC () e
      obtain ⟨ea,eb,ew⟩:=e
      simp only at q0 q1 q2
      clear he hrow hbb
      go_wp2_with fail
      obtain ⟨W1,hW1⟩:∃ W1,W1=wr.alloc (.cells #[.int .i64 ea,.int .i64 eb,.int .i64 ew] 30):=⟨_,rfl⟩
      have hbx:Blk W1 wr.heap.size #[.int .i64 ea,.int .i64 eb,.int .i64 ew] 30:=by rw [hW1]; exact Blk.new _ _ _
      have hk2:Keep nil wr W1:=by rw [hW1]; exact (Keep.refl nil wr).alloc _
      rw [← hW1]
      obtain ⟨xb,hxb⟩:∃ xb,xb=wr.heap.size:=⟨_,rfl⟩
      rw [← hxb] at hbx ⊢
      have H1:Unit→Blk W1 xb #[.int .i64 ea,.int .i64 eb,.int .i64 ew] 30∧Keep nil w W1:=fun _=>⟨hbx,(HR ()).1.trans hk2⟩
      clear hW1 hbx hxb hk2 q0 q1 q2 hbw
      go_loopw [20] (fun v ws=>∃ j:Nat,j≤k∧v=.int .i64 (j:Int)∧Keep nil W1 ws∧∀ (i:Nat) (f:Ed),i < j→es[i]?=some f→sameEB ⟨ea,eb,ew⟩ f=false) (fun v _=>k - (intOf v).toNat)
      case atStart=>exact ⟨0,by omega,rfl,Keep.refl _ _,fun i f h=>by omega⟩
      case round =>
        obtain ⟨j,hj,rfl,hkw,hall⟩:=hrel
        have HS:Unit→Keep nil W1 wr∧∀ (i:Nat) (f:Ed),i < j→es[i]?=some f→sameEB ⟨ea,eb,ew⟩ f=false:=fun _=>⟨hkw,hall⟩
        clear hkw hall
        by_cases hjl:j < k
        · obtain ⟨f,hf⟩:∃ f,es[j]?=some f:=⟨_,List.getElem?_eq_getElem (Nat.lt_trans hjl hil)⟩
          obtain ⟨q0,q1,q2⟩:=erow_get ((HE ()).2.1.keep ((H1 ()).2.trans (HS ()).1) (HE ()).2.2 (fun e=>e)) j f hf
          have hbw:bb < wr.heap.size:=Nat.lt_of_lt_of_le (HE ()).2.2 ((H1 ()).2.trans (HS ()).1).size
          have hjI:(j:Int) < (k:Int):=by omega
          have hxw:xb < wr.heap.size:=Nat.lt_of_lt_of_le (H1 ()).1.lt (HS ()).1.size
          have z0:=((H1 ()).1.keep (HS ()).1 (fun e=>e)).cell 0
          have z1:=((H1 ()).1.keep (HS ()).1 (fun e=>e)).cell 1
          have z2:=((H1 ()).1.keep (HS ()).1 (fun e=>e)).cell 2
          simp at z0 z1 z2
          have HF:Unit→es[j]?=some f:=fun _=>hf
          have hc:=HX () f
          obtain ⟨fa,fb,fw⟩:=f
          simp only at q0 q1 q2
          clear hf
          generalize hp:sameEB ⟨ea,eb,ew⟩ ⟨fa,fb,fw⟩=pe at hc
          have HP:Unit→sameEB ⟨ea,eb,ew⟩ ⟨fa,fb,fw⟩=pe:=fun _=>hp
          clear hp
          go_wp2_with fail
          refine (hc _).mono ?_
          rintro r w' ⟨rfl,hk2⟩
          have HK:Unit→Keep nil W1 w':=fun _=>((HS ()).1.trans ((Keep.refl nil _).alloc _)).trans hk2
          clear hk2 hc q0 q1 q2 z0 z1 z2
          cases pe
          · go_wp2
            go_roundw
            case rel =>
              refine ⟨j + 1,by omega,by go_num,HK (),fun i x hi hx=>?_⟩
              by_cases hij:i < j
              · exact (HS ()).2 i x hij hx
              · have e1:i=j:=by omega
                subst e1
                rw [HF ()] at hx
                cases hx
                exact HP ()
            case measure=>simp [intOf]; omega
          · go_wp2
            go_ret
            exact ⟨true,rfl,⟨fun _=>⟨k,j,_,_,by omega,(HE ()).1,HF (),HP ()⟩,fun _=>rfl⟩,(H1 ()).2.trans (HK ())⟩
        · have ej:j=k:=by omega
          subst ej
          go_wp2
          go_roundw
          case rel =>
            refine ⟨j + 1,by omega,by go_num,(H1 ()).2.trans (HS ()).1,fun i i2 x y hi hi2 hx hy=>?_⟩
            by_cases hij:i < j
            · exact (HR ()).2 i i2 x y hij hi2 hx hy
            · have e1:i=j:=by omega
              subst e1
              rw [(HE ()).1] at hx
              cases hx
              exact (HS ()).2 i2 y hi2 hy
          case measure=>simp [intOf]; omega
    · have ek:k=es.length:=by omega
      subst ek
      go_wp2
      go_ret
      refine ⟨false,rfl,⟨fun h=>(Bool.noConfusion h),fun ⟨i,j,e,f,h1,h2,h3,h4⟩=>?_⟩,(HR ()).1⟩
      rw [(HR ()).2 i j e f (List.getElem?_eq_some_iff.1 h2).1 h1 h2 h3] at h4
      cases h4
theorem stray_iff (n:Int) (es:List Ed):(∃ e ∈ es,strayB n e=true) ↔ BadEdge n es:=by
  refine exists_congr (fun e=>and_congr_right (fun _=>?_))
  simp only [strayB,Stray,Bool.or_eq_true,Bool.not_eq_true',Bool.and_eq_false_iff,decide_eq_false_iff_not,beq_iff_eq]
  omega
theorem heavy_iff (es:List Ed):(∃ e ∈ es,heavyB e=true) ↔ ∃ e ∈ es,Heavy e:=by
  refine exists_congr (fun e=>and_congr_right (fun _=>?_))
  simp [heavyB,Heavy]
theorem sameW_iff (es:List Ed):(∃ (i j:Nat) (e f:Ed),j < i∧es[i]?=some e∧es[j]?=some f∧sameWB e f=true) ↔ Two SameW es:=by
  simp [Two,SameW,sameWB]
theorem sameE_iff (es:List Ed):(∃ (i j:Nat) (e f:Ed),j < i∧es[i]?=some e∧es[j]?=some f∧sameEB e f=true) ↔ Two SameE es:=by
  simp [Two,SameE,sameEB]
theorem inN_of {n:Int} {es:List Ed} (h:¬ BadEdge n es) (h0:0≤n):InN n.toNat es:=fun e he=>by
  have:¬ Stray n e:=fun hs=>h ⟨e,he,hs⟩
  unfold Stray at this
  omega
set_option maxRecDepth 100000 in
set_option maxHeartbeats 400000 in
theorem graphCheck_any (n:Int) (sa:Option Addr) (es:List Ed) (cp:Nat) (w:World) (hsl:ESl w sa es) (hcp:es.length≤cp) :
    Calls Tryz.prog 29 #[.int .i64 n,.slice sa es.length cp] w fun r w'=>∃ z:Int,r=.returned (.int .i64 z)∧Chk n es z∧Keep nil w w':=by
  have hmf:=mkfn
  have HB:Unit→ESl w sa es∧es.length≤cp:=fun _=>⟨hsl,hcp⟩
  clear hsl hcp
  by_cases hbad:BadSize n es
  · have HS:Unit→BadSize n es:=fun _=>hbad
    unfold BadSize at hbad
    go_enter Tryz.func29,Tryz.ntmps29
    rcases hbad with h | h | h
    · go_wp2
      go_ret
      exact ⟨1,rfl,Chk.mk1 (HS ()),(Keep.refl nil w).alloc _⟩
    · go_wp2
      all_goals
        go_ret
        exact ⟨1,rfl,Chk.mk1 (HS ()),(Keep.refl nil w).alloc _⟩
    · have h':(30:Int) < (es.length:Int):=by omega
      clear h
      go_wp2
      all_goals
        go_ret
        exact ⟨1,rfl,Chk.mk1 (HS ()),(Keep.refl nil w).alloc _⟩
  · have HS:Unit→¬ BadSize n es:=fun _=>hbad
    have h1:1≤n:=by unfold BadSize at hbad; omega
    have h2:n≤10:=by unfold BadSize at hbad; omega
    have h3:(es.length:Int)≤30:=by unfold BadSize at hbad; omega
    have HL:Unit→es.length≤30∧1≤n∧n≤10:=fun _=>⟨by omega,h1,h2⟩
    clear hbad
    go_enter Tryz.func29,Tryz.ntmps29
    go_wp2_with fail
    obtain ⟨W1,hW1⟩:∃ W1,W1=w.alloc (.cells #[.int .i64 n] 3):=⟨_,rfl⟩
    have hbx:Blk W1 w.heap.size #[.int .i64 n] 3:=by rw [hW1]; exact Blk.new _ _ _
    have hk1:Keep nil w W1:=by rw [hW1]; exact (Keep.refl nil w).alloc _
    rw [← hW1]
    obtain ⟨nb,hnb⟩:∃ nb,nb=w.heap.size:=⟨_,rfl⟩
    rw [← hnb] at hbx ⊢
    have HX:Unit→Blk W1 nb #[.int .i64 n] 3∧Keep nil w W1:=fun _=>⟨hbx,hk1⟩
    clear hW1 hbx hnb hk1 h1 h2 h3
    have HC1:Unit→_:=fun _=>contains_strays nb n sa es cp W1 ((HB ()).1.keep (HX ()).2) (HL ()).1 (by have:=(HX ()).1.cell 0; simpa using this)
    refine Calls.mono (HC1 ()) ?_
    rintro r w2 ⟨b,rfl,hb,hk2⟩
    rw [stray_iff] at hb
    have H2:Unit→(b=true ↔ BadEdge n es)∧Keep nil W1 w2:=fun _=>⟨hb,hk2⟩
    clear hb hk2 HC1
    cases b
    · have HE:Unit→¬ BadEdge n es:=fun _ h=>by have:=(H2 ()).1.2 h; cases this
      have HC2:Unit→_:=fun _=>contains_heavy sa es cp w2 ((HB ()).1.keep ((HX ()).2.trans (H2 ()).2)) (HL ()).1
      go_wp2_with fail
      refine Calls.mono (HC2 ()) ?_
      rintro r w3 ⟨b,rfl,hb,hk3⟩
      rw [heavy_iff] at hb
      have H3:Unit→(b=true ↔ ∃ e ∈ es,Heavy e)∧Keep nil w w3∧Keep nil W1 w3:=fun _=>⟨hb,((HX ()).2.trans (H2 ()).2).trans hk3,(H2 ()).2.trans hk3⟩
      clear hb hk3 HC2
      cases b
      · have HC3:Unit→_:=fun _=>anyTwo_weight sa es cp w3 ((HB ()).1.keep (H3 ()).2.1) (HL ()).1 (HB ()).2
        go_wp2_with fail
        refine Calls.mono (HC3 ()) ?_
        rintro r w4 ⟨b,rfl,hb,hk4⟩
        rw [sameW_iff] at hb
        have H4:Unit→(b=true ↔ Two SameW es)∧Keep nil w w4∧Keep nil W1 w4:=fun _=>⟨hb,(H3 ()).2.1.trans hk4,(H3 ()).2.2.trans hk4⟩
        clear hb hk4 HC3
        cases b
        · have HW:Unit→¬ BadW es:=fun _ h=>by
            rcases h with h | h
            · have:=(H3 ()).1.2 h; cases this
            · have:=(H4 ()).1.2 h; cases this
          have HC4:Unit→_:=fun _=>anyTwo_edge sa es cp w4 ((HB ()).1.keep (H4 ()).2.1) (HL ()).1 (HB ()).2
          go_wp2_with fail
          refine Calls.mono (HC4 ()) ?_
          rintro r w5 ⟨b,rfl,hb,hk5⟩
          rw [sameE_iff] at hb
          have H5:Unit→(b=true ↔ Two SameE es)∧Keep nil w w5∧Keep nil W1 w5:=fun _=>⟨hb,(H4 ()).2.1.trans hk5,(H4 ()).2.2.trans hk5⟩
          clear hb hk5 HC4
          cases b
          · have HT:Unit→¬ Two SameE es:=fun _ h=>by have:=(H5 ()).1.2 h; cases this
            have z:=((HX ()).1.keep (H5 ()).2.2 (fun e=>e)).cell 0
            simp at z
            have HC5:Unit→Calls Tryz.prog 56 #[.int .i64 n,.slice sa es.length cp] w5 fun r w'=>∃ b:Bool,r=.returned (.bool b)∧(b=true ↔ Joined n.toNat es)∧Keep nil w5 w':=fun _=>by
              have:=joinAll_any n.toNat cp sa es w5 ((HB ()).1.keep (H5 ()).2.1) (HL ()).1 (inN_of (HE ()) (by have:=HL (); omega)) (by have:=HL (); omega) (by have:=HL (); omega)
              rwa [show ((n.toNat:Nat):Int)=n by have:=HL (); omega] at this
            go_wp2_with fail
            refine Calls.mono (HC5 ()) ?_
            rintro r w6 ⟨b,rfl,hb,hk6⟩
            have H6:Unit→(b=true ↔ Joined n.toNat es)∧Keep nil w w6:=fun _=>⟨hb,(H5 ()).2.1.trans hk6⟩
            clear hb hk6 HC5 z
            cases b
            · go_wp2
              go_ret
              exact ⟨5,rfl,Chk.mk5 (HS ()) (HE ()) (HW ()) (HT ()) (fun h=>by have:=(H6 ()).1.2 h; cases this),(H6 ()).2⟩
            · go_wp2
              go_ret
              exact ⟨0,rfl,Chk.mk0 (HS ()) (HE ()) (HW ()) (HT ()) ((H6 ()).1.1 (by trivial)),(H6 ()).2⟩
          · go_wp2
            go_ret
            exact ⟨4,rfl,Chk.mk4 (HS ()) (HE ()) (HW ()) ((H5 ()).1.1 (by trivial)),(H5 ()).2.1⟩
        · go_wp2
          go_ret
          exact ⟨3,rfl,Chk.mk3 (HS ()) (HE ()) (Or.inr ((H4 ()).1.1 (by trivial))),(H4 ()).2.1⟩
      · go_wp2
        go_ret
        exact ⟨3,rfl,Chk.mk3 (HS ()) (HE ()) (Or.inl ((H3 ()).1.1 (by trivial))),(H3 ()).2.1⟩
    · go_wp2
      go_ret
      exact ⟨2,rfl,Chk.mk2 (HS ()) ((H2 ()).1.1 (by trivial)),(HX ()).2.trans (H2 ()).2⟩
theorem arborCheck_any (n:Int) (sa:Option Addr) (es:List Ed) (cp:Nat) (w:World) (hsl:ESl w sa es) (hcp:es.length≤cp) :
    Calls Tryz.prog 13 #[.int .i64 n,.slice sa es.length cp] w fun r w'=>∃ z:Int,r=.returned (.int .i64 z)∧Chk n es z∧Keep nil w w':=by
  have HC:Unit→_:=fun _=>graphCheck_any n sa es cp w hsl hcp
  clear hsl hcp
  go_enter Tryz.func13,Tryz.ntmps13
  go_wp2_with fail
  refine Calls.mono (HC ()) ?_
  rintro r w2 ⟨z,rfl,hz,hk⟩
  have HZ:Unit→Chk n es z∧Keep nil w w2:=fun _=>⟨hz,hk⟩
  clear hz hk HC
  go_wp2
  go_ret
  exact ⟨z,rfl,(HZ ()).1,(HZ ()).2⟩
set_option maxRecDepth 100000 in
set_option maxHeartbeats 2000000 in
theorem cloneE_some (g o c:Nat) (es:List Ed) (w:World) (h:ERow w g o es) (hg:g < w.heap.size) (h0:0 < es.length) (hl:(es.length:Int) < 1000) :
    Calls Tryz.prog 57 #[.slice (some ⟨g,o,none⟩) es.length c] w fun r w'=>∃ a' c',r=.returned (.slice a' es.length c')∧RV w' 30 3 a' es.length c' (ecells es)∧Keep nil w w'∧∀ i,inB a' i→w.heap.size≤i:=by
  have H:Unit→ERow w g o es∧0 < es.length∧(es.length:Int) < 1000∧g < w.heap.size:=fun _=>⟨h,h0,hl,hg⟩
  have hnil:∀ (w:World) (a:Option Addr) (n c:Nat),(binOp .eql 26 (.slice a n c) (.slice none 0 0)).run Tryz.prog w=.ok (.bool a.isNone) w:=fun w a n c=>Lib.run_eql_slice_nil w 26 30 a n c 0 0 Tryz.underlying26
  clear h h0 hl hg
  generalize hln:es.length=ln at *
  go_enter Tryz.func57,Tryz.ntmps57
  have hE:RV (w.alloc (.cells #[] 30)) 30 3 (some ⟨w.heap.size,0,none⟩) 0 0 []:=⟨rfl,Nat.le_refl _,Or.inr ⟨w.heap.size,0,rfl,[],[],Blk.new _ _ _,rfl,Nat.le_refl _⟩⟩
  have hS:∀ j u,(ecells es)[j]?=some u→(w.alloc (.cells #[] 30)).cell? (Addr.add ⟨g,o,none⟩ j)=some u:=cells_erow ((H ()).1.keep ((Keep.refl nil w).alloc (.cells #[] 30)) (H ()).2.2.2 (fun e=>e))
  have hLN:(ecells es).length=ln * 3:=by rw [ecells_len,hln]
  have hON:∀ u ∈ ecells es,u.oneCell'=true:=ecells_one es
  go_wp2_with (at_builtin; refine wpList_append_rvS _ rfl (.tmp 5) (.tmp 6) 26 rfl 30 (.agg #[.int .i64 0,.int .i64 0,.int .i64 0]) 3 24 Tryz.underlying26 edge_info rfl (some ⟨w.heap.size,0,none⟩) 0 0 rfl [] hE ⟨g,o,none⟩ ln c (H ()).2.1 rfl (ecells es) hLN hS hON (by have:=(H ()).2.2; omega) (by have:=(H ()).2.2; omega) ?_; intro a' c' w4 hb4 hd4 hk4)
  have hk':Keep nil w w4∧∀ i,inB a' i→w.heap.size≤i:=by
    rcases hd4 with ⟨e1,e2⟩ | ⟨e1,e2⟩
    · have:=hb4.2.1; have:=(H ()).2.1; omega
    · refine ⟨((Keep.refl nil w).alloc _).trans e2,fun i hi=>?_⟩
      rw [e1] at hi
      rw [inB_some.1 hi]; simp
  rw [Nat.zero_add,List.nil_append] at hb4
  have HP:Unit→RV w4 30 3 a' ln c' (ecells es):=fun _=>hb4
  clear hb4 hd4 hk4 hE hS hLN hON H
  go_wp2
  go_ret
  exact ⟨a',c',by simp,HP (),hk'.1,hk'.2⟩
set_option maxHeartbeats 400000 in
theorem cloneE_nil (w:World) :
    Calls Tryz.prog 57 #[.slice none 0 0] w fun r w'=>r=.returned (.slice none 0 0)∧w'=w:=by
  have hnil:∀ (w:World) (a:Option Addr) (n c:Nat),(binOp .eql 26 (.slice a n c) (.slice none 0 0)).run Tryz.prog w=.ok (.bool a.isNone) w:=fun w a n c=>Lib.run_eql_slice_nil w 26 30 a n c 0 0 Tryz.underlying26
  go_enter Tryz.func57,Tryz.ntmps57
  go_wp2
  go_ret
  exact ⟨rfl,rfl⟩
def cmpI (x y:Int):Int:=if x < y then -1 else if y < x then 1 else 0
set_option maxHeartbeats 400000 in
theorem compare_any (x y:Int) (w:World) :
    Calls Tryz.prog 60 #[.int .i64 x,.int .i64 y] w fun r w'=>r=.returned (.int .i64 (cmpI x y))∧w'=w:=by
  unfold cmpI
  go_enter Tryz.func60,Tryz.ntmps60
  by_cases h1:x < y
  · go_wp2
    go_ret
    exact ⟨by simp [h1],rfl⟩
  · by_cases h2:y < x
    · go_wp2
      go_ret
      exact ⟨by simp [h1,h2],rfl⟩
    · go_wp2
      go_ret
      exact ⟨by simp [h1,h2],rfl⟩
open Go.RowKit Go.Sort Go.Shelf
theorem cmpI_eq (x y:Int):cmpI x y=Lib.compareInt x y:=by
  unfold cmpI Lib.compareInt
  by_cases h1:x < y <;> by_cases h2:y < x <;> simp [h1,h2]
set_option maxHeartbeats 1000000 in
theorem closureE (x y:Ed) (W:World):Calls Tryz.prog 59 #[.agg #[.int .i64 x.a,.int .i64 x.b,.int .i64 x.wt],.agg #[.int .i64 y.a,.int .i64 y.b,.int .i64 y.wt]] W fun e w'=>e=.returned (.int .i64 (cfw x y))∧∃ q os',w'=grow (W.drewN q) os':=by
  have hcon:∀ W',_:=fun W'=>compare_any x.wt y.wt W'
  have e1:cfw x y=cmpI x.wt y.wt:=(cmpI_eq _ _).symm
  rw [e1]
  generalize cmpI x.wt y.wt=r at hcon ⊢
  clear e1
  go_enter Tryz.func59,Tryz.ntmps59
  go_wp2_with (go_at_call 60; refine (hcon _).mono ?_; rintro e w' ⟨rfl,rfl⟩)
  go_ret
  exact ⟨rfl,0,_,by rw [alloc_eq_grow,alloc_eq_grow,grow_grow]; rfl⟩
theorem lays_edges (blk off size:Nat) (w:World):CmpLays Tryz.prog 59 #[] Ed.cells 3 cfw blk off size w:=fun _ _ _ _ x y=>closureE x y _
set_option maxHeartbeats 1000000 in
theorem sortE_some (g o c:Nat) (es:List Ed) (w:World) (h:VBo w g o 30 3 (ecells es) c) (hl:(es.length:Int) < 1000) (cap:Nat) :
    Calls Tryz.prog 58 #[.slice (some ⟨g,o,none⟩) es.length cap,.func (.func 59) #[] #[]] w fun r w'=>r=.returned (.tuple #[])∧VBo w' g o 30 3 (ecells (srt es)) c∧Keep (only g) w w':=by
  have eg:∀ args w,(callFunc 59 args).run Tryz.prog w=.ok (.enter 59 args) w:=enters_of Tryz.func59 (by kernel_rfl) rfl
  have hcon:=AnyQ.slices_SortFunc_eq sortE 3 Tryz.isAgg30 Tryz.sizeOf30 Ed.cells (fun _=>rfl) (fun x v hv=>by simp [Ed.cells] at hv; rcases hv with rfl | rfl | rfl <;> rfl) cfw swow 59 #[] g o cap es.toArray w eg (lays_edges g o _ w) (holds_edges h) h.lt (by simp; omega)
  have hs:es.toArray.size=es.length:=by simp
  rw [hs] at hcon
  refine Calls.mono hcon ?_
  rintro r w' ⟨rfl,n,os,rfl⟩
  have e1:=srt_arr es
  rw [hs] at e1
  rw [← e1]
  obtain ⟨q1,q2⟩:=sort_world h (srt_len es) n os
  exact ⟨rfl,q1,q2⟩
theorem sortE_nil (a:Option Addr) (cap:Nat) (fv:Value) (w:World) :
    Calls Tryz.prog 58 #[.slice a 0 cap,fv] w fun r w'=>r=.returned (.tuple #[])∧w'=w :=
  AnyF.slices_SortFunc_none sortE a cap fv w
end Go.Proofs.YtlfijfodklhplaaGreat
