import Derived.Test.YtlfijfodklhplaaGreatSf29
import Derived.Test.YtlfijfodklhplaaGreatSf51
import Derived.Test.YtlfijfodklhplaaGreatSf30
import Derived.Test.YtlfijfodklhplaaGreatSf35
import Derived.Test.YtlfijfodklhplaaGreatSf33
import Derived.Test.YtlfijfodklhplaaGreatSf31
import Derived.Test.YtlfijfodklhplaaGreatSf39
import Derived.Test.YtlfijfodklhplaaGreatSf40
import Derived.Deep.DeepCutAuto
import Derived.Deep.CutBlock
set_option linter.unusedVariables false
set_option linter.unusedSimpArgs false
namespace Go.Proofs.YtlfijfodklhplaaGreat
open Go.RowKit
set_option maxRecDepth 100000 in
set_option maxHeartbeats 2000000 in
theorem within_yes (l m:List Ed) (a b:Option Addr) (ca cb:Nat) (w:World) (ha:RV w 30 3 a l.length ca (ecells l)) (hb:RV w 30 3 b m.length cb (ecells m)) (hl:(l.length:Int) < 1000000) (hm:(m.length:Int) < 1000000) (hin:∀ e ∈ l,e ∈ m) :
    Calls Tryz.prog 22 #[.slice a l.length ca,.slice b m.length cb] w fun r w'=>r=.returned (.bool true)∧Keep nil w w':=by
  have H:Unit→RV w 30 3 a l.length ca (ecells l)∧RV w 30 3 b m.length cb (ecells m)∧∀ e ∈ l,e ∈ m:=fun _=>⟨ha,hb,hin⟩
  clear ha hb hin
  go_enter Tryz.func22,Tryz.ntmps22
  go_wp2_with fail
  go_loopw [5] (fun v wr=>∃ i:Nat,i≤l.length∧v=.int .i64 (i:Int)∧Keep nil w wr) (fun v _=>l.length - (intOf v).toNat)
  case atStart=>exact ⟨0,by omega,rfl,by repeat (first | exact Keep.refl _ _ | apply Keep.drew)⟩
  case round =>
    obtain ⟨i,hi,rfl,hkw⟩:=hrel
    have HQ:Unit→Keep nil w wr∧i≤l.length:=fun _=>⟨hkw,hi⟩
    by_cases hil:i < l.length
    · have HIL:Unit→i < l.length:=fun _=>hil
      have hiI:(i:Int) < (l.length:Int):=by omega
      have hi9:(i:Int) < 1000000:=by omega
      obtain ⟨e,he⟩:∃ e,l[i]?=some e:=⟨_,List.getElem?_eq_getElem hil⟩
      have HE:Unit→l[i]?=some e∧e ∈ m:=fun _=>⟨he,(H ()).2.2 e (List.mem_of_getElem? he)⟩
      clear hi hil hkw he
      obtain ⟨W1,hW1⟩:∃ W1,W1=wr:=⟨_,rfl⟩
      subst hW1
      go_wp2_with fail
      go_loopw [6,7] (fun u v wx=>∃ (k:Nat) (bb:Bool),k≤m.length∧v=.int .i64 (k:Int)∧u=.bool bb∧(bb=true ↔ e ∈ m.take k)∧Keep nil W1 wx) (fun _ v _=>m.length - (intOf v).toNat)
      case atStart=>exact ⟨0,false,Nat.zero_le _,rfl,rfl,by simp,by repeat (first | exact Keep.refl _ _ | apply Keep.drew)⟩
      case round =>
        obtain ⟨k,bb,hk,rfl,rfl,hbb,hkw⟩:=hrel
        have HK:Unit→Keep nil W1 wr∧k≤m.length∧(bb=true ↔ e ∈ m.take k):=fun _=>⟨hkw,hk,hbb⟩
        by_cases hkl:k < m.length
        · have HKL:Unit→k < m.length:=fun _=>hkl
          have hkI:(k:Int) < (m.length:Int):=by omega
          have hk9:(k:Int) < 1000000:=by omega
          obtain ⟨f,hf⟩:∃ f,m[k]?=some f:=⟨_,List.getElem?_eq_getElem hkl⟩
          obtain ⟨g,q,hga,hgl,e0,e1,e2⟩:=edge_at ((H ()).1.keep ((HQ ()).1.trans hkw) (fun _ _ e=>e)) (HE ()).1 (HIL ())
          obtain ⟨g',q',hga',hgl',d0,d1,d2⟩:=edge_at ((H ()).2.1.keep ((HQ ()).1.trans hkw) (fun _ _ e=>e)) hf hkl
          have HT:Unit→m.take (k + 1)=m.take k++[f]:=fun _=>take_succ_get hf
          rw [hga,hga']
          clear hk hkl hkw hf hga hga' hbb
          cases bb with
          | true =>
            clear e0 e1 e2 d0 d1 d2 hgl hgl'
            go_wp2_with fail
            go_quiet (fail)
            have HK2:Unit→Keep nil W1 (wr.drewN nq):=fun _=>(HK ()).1.drewN nq
            go_wp2
            refine ⟨⟨k + 1,true,by have:=HKL (); omega,by go_num,rfl,⟨fun _=>?_,fun _=>rfl⟩,HK2 ()⟩,by have:=HKL (); simp [intOf]; omega⟩
            rw [HT ()]
            exact List.mem_append_left _ ((HK ()).2.2.1 (by simp))
          | false =>
            by_cases hef:e=f
            · have HEF:Unit→e=f:=fun _=>hef
              subst hef
              obtain ⟨x,y,z⟩:=e
              simp only at e0 e1 e2 d0 d1 d2
              go_wp2_with fail
              go_quiet (fail)
              have HK2:Unit→Keep nil W1 (wr.drewN nq):=fun _=>(HK ()).1.drewN nq
              clear e0 e1 e2 d0 d1 d2 hgl hgl'
              go_wp2
              refine ⟨⟨k + 1,true,by have:=HKL (); omega,by go_num,rfl,⟨fun _=>?_,fun _=>rfl⟩,HK2 ()⟩,by have:=HKL (); simp [intOf]; omega⟩
              rw [HT ()]
              exact List.mem_append_right _ (List.mem_singleton.2 rfl)
            · have HEF:Unit→¬ e=f:=fun _=>hef
              obtain ⟨x,y,z⟩:=e
              obtain ⟨x',y',z'⟩:=f
              simp only at e0 e1 e2 d0 d1 d2
              by_cases hx:x=x'
              · subst hx
                by_cases hy:y=y'
                · subst hy
                  have hz:(z == z')=false:=beq_eq_false_iff_ne.2 (fun h=>hef (by rw [h]))
                  clear hef
                  go_wp2_with fail
                  go_quiet (fail)
                  have HK2:Unit→Keep nil W1 (wr.drewN nq):=fun _=>(HK ()).1.drewN nq
                  clear e0 e1 e2 d0 d1 d2 hgl hgl'
                  go_wp2
                  refine ⟨⟨k + 1,false,by have:=HKL (); omega,by go_num,rfl,⟨(fun h=>by cases h),fun h=>?_⟩,HK2 ()⟩,by have:=HKL (); simp [intOf]; omega⟩
                  rw [HT ()] at h
                  rcases List.mem_append.1 h with h | h
                  · exact ((HK ()).2.2.2 h)
                  · exact (HEF () (List.mem_singleton.1 h)).elim
                · have hz:(y == y')=false:=beq_eq_false_iff_ne.2 hy
                  clear hef hy
                  go_wp2_with fail
                  go_quiet (fail)
                  have HK2:Unit→Keep nil W1 (wr.drewN nq):=fun _=>(HK ()).1.drewN nq
                  clear e0 e1 e2 d0 d1 d2 hgl hgl'
                  go_wp2
                  refine ⟨⟨k + 1,false,by have:=HKL (); omega,by go_num,rfl,⟨(fun h=>by cases h),fun h=>?_⟩,HK2 ()⟩,by have:=HKL (); simp [intOf]; omega⟩
                  rw [HT ()] at h
                  rcases List.mem_append.1 h with h | h
                  · exact ((HK ()).2.2.2 h)
                  · exact (HEF () (List.mem_singleton.1 h)).elim
              · have hz:(x == x')=false:=beq_eq_false_iff_ne.2 hx
                clear hef hx
                go_wp2_with fail
                go_quiet (fail)
                have HK2:Unit→Keep nil W1 (wr.drewN nq):=fun _=>(HK ()).1.drewN nq
                clear e0 e1 e2 d0 d1 d2 hgl hgl'
                go_wp2
                refine ⟨⟨k + 1,false,by have:=HKL (); omega,by go_num,rfl,⟨(fun h=>by cases h),fun h=>?_⟩,HK2 ()⟩,by have:=HKL (); simp [intOf]; omega⟩
                rw [HT ()] at h
                rcases List.mem_append.1 h with h | h
                · exact ((HK ()).2.2.2 h)
                · exact (HEF () (List.mem_singleton.1 h)).elim
        · have hkI:¬ ((k:Int) < (m.length:Int)):=by omega
          have hbt:bb=true:=by
            refine (HK ()).2.2.2 ?_
            rw [show k=m.length by omega,List.take_length]
            exact (HE ()).2
          subst hbt
          clear hk hkl hkw hbb
          go_wp2
          exact ⟨⟨i + 1,by have:=HIL (); omega,by go_num,(HQ ()).1.trans (HK ()).1⟩,by have:=HIL (); simp [intOf]; omega⟩
    · have hiI:¬ ((i:Int) < (l.length:Int)):=by omega
      clear hi hil hkw
      go_wp2
      go_ret
      exact ⟨rfl,(HQ ()).1⟩
end Go.Proofs.YtlfijfodklhplaaGreat
namespace Go.Proofs.YtlfijfodklhplaaGreat.Ghs
open Go.RowKit
open NMsg
theorem AI.does {G:Gr} {T:Top G} (hn:G.n≤1000) (hdg:∀ u,T.dg u≤30) {A:AN} {C:Nat} (hA:AI T A C) (hC:C + 128 < 65536) (hp:0 < A.sps.length) (s:Stp):AI T (A.does s) (C + 128)∧Up A (A.does s)∧(A.does s).es=A.es:=by
  unfold AN.does
  generalize hk:pk s.a ((A.bag.length:Int) + 1)=k
  generalize hd:pk s.kind 12=kd
  by_cases h8:(8:Int)≤(kd:Int)
  · rw [doesK_ge A k kd A.sps.length s.a s.b h8]
    exact hA.deliver hn hdg hC k
  · have hc:kd=0∨kd=1∨kd=2∨kd=3∨kd=4∨kd=5∨kd=6∨kd=7:=by omega
    have hin:=pk_lt s.a (A.sps.length:Int) (by omega)
    rcases hc with rfl | rfl | rfl | rfl | rfl | rfl | rfl | rfl
    · show AI T (A.wake (pk s.a (A.sps.length:Int))) _∧_
      obtain ⟨a1,a2,a3⟩:=hA.wake hn (by omega) (List.getElem?_eq_getElem (show pk s.a (A.sps.length:Int) < A.sps.length by omega))
      exact ⟨a1.mono (by omega),a2,a3⟩
    · show AI T (A.tick (pk s.a (A.sps.length:Int))) _∧_
      obtain ⟨a1,a2,a3⟩:=hA.tick (by omega) (pk s.a (A.sps.length:Int))
      exact ⟨a1.mono (by omega),up_eq a2,a3⟩
    · show AI T (if k < A.bag.length then A.lose k else A) _∧Up A (if k < A.bag.length then A.lose k else A)∧(if k < A.bag.length then A.lose k else A).es=_
      split
      · exact ⟨(hA.lose k).mono (by omega),up_eq rfl,rfl⟩
      · exact ⟨hA.mono (by omega),Up.refl _,rfl⟩
    · show AI T (A.again k) _∧Up A (A.again k)∧(A.again k).es=_
      have h1:(lsOf (A.again k)).nodes=(lsOf A).nodes∧(A.again k).es=A.es:=by
        unfold AN.again
        split
        · exact ⟨rfl,rfl⟩
        · have h2:=add_sps A (by assumption)
          refine ⟨nodes_eq (by rw [h2.1]),h2.2⟩
      exact ⟨(hA.again k).mono (by omega),up_eq h1.1,h1.2⟩
    · show AI T (A.spoil k (pk s.b 10) (1 + pk (IntKind.i64.wrap (s.b.tdiv 10)) 255)) _∧Up A (A.spoil k (pk s.b 10) (1 + pk (IntKind.i64.wrap (s.b.tdiv 10)) 255))∧(A.spoil k (pk s.b 10) (1 + pk (IntKind.i64.wrap (s.b.tdiv 10)) 255)).es=_
      have hy:=pk_lt (IntKind.i64.wrap (s.b.tdiv 10)) 255 (by omega)
      generalize pk (IntKind.i64.wrap (s.b.tdiv 10)) 255=y at hy
      have h1:(lsOf (A.spoil k (pk s.b 10) (1 + y))).nodes=(lsOf A).nodes∧(A.spoil k (pk s.b 10) (1 + y)).es=A.es:=by
        unfold AN.spoil
        split
        · exact ⟨rfl,rfl⟩
        · split
          · exact ⟨rfl,rfl⟩
          · exact ⟨rfl,rfl⟩
      exact ⟨(hA.spoil k _ (1 + y) (by omega)).mono (by omega),up_eq h1.1,h1.2⟩
    · exact hA.deliver hn hdg hC 0
    · exact hA.deliver hn hdg hC 0
    · exact hA.deliver hn hdg hC 0
def t3 (t:Te):E3:=⟨t.a,t.b,t.w⟩
def gM (nodes:Int) (raw:List Int):List E3:=(gl nodes raw).map t3
def e3 (e:Ed):E3:=⟨e.a.toNat,e.b.toNat,e.wt.toNat⟩
def gL (nodes:Int) (raw:List Int):List E3:=(srt (ges nodes raw)).map e3
theorem ges_M (nodes:Int) (raw:List Int):ges nodes raw=(gM nodes raw).map ed3:=by
  unfold ges gM; rw [List.map_map]; rfl
theorem gL_perm (nodes:Int) (raw:List Int):(gL nodes raw).Perm (gM nodes raw):=by
  have h:=(srt_perm (ges nodes raw)).map e3
  have e:(ges nodes raw).map e3=gM nodes raw:=by
    rw [ges_M,List.map_map]
    exact List.map_id' _
  rw [e] at h
  exact h
theorem srt_L (nodes:Int) (raw:List Int):srt (ges nodes raw)=(gL nodes raw).map ed3:=by
  unfold gL
  rw [List.map_map]
  symm
  conv=>rhs; rw [← List.map_id (srt (ges nodes raw))]
  refine List.map_congr_left (fun e he=>?_)
  have hm:e ∈ ges nodes raw:=(srt_perm _).mem_iff.1 he
  rw [ges_M] at hm
  obtain ⟨x,_,rfl⟩:=List.mem_map.1 hm
  rfl
theorem gM_ws (nodes:Int) (raw:List Int):(gM nodes raw).Pairwise (fun x y=>x.w≠y.w):=by
  unfold gM
  rw [List.pairwise_map]
  exact (gl_ok nodes raw).ws
theorem gL_simple (nodes:Int) (raw:List Int):Simple (gn nodes) (gL nodes raw):=by
  have hp:=gL_perm nodes raw
  have hk:=gl_ok nodes raw
  refine ⟨fun e he=>?_,?_,?_⟩
  · have hm:e ∈ gM nodes raw:=hp.mem_iff.1 he
    obtain ⟨t,ht,rfl⟩:=List.mem_map.1 hm
    have h1:=hk.ends t ht
    have h2:=hk.wt t ht
    exact ⟨h1.1,h1.2.1,h1.2.2,h2.1,h2.2⟩
  · have h1:(gL nodes raw).Pairwise (fun x y=>x.w≠y.w):=(hp.pairwise_iff (fun h e=>h e.symm)).2 (gM_ws nodes raw)
    have h2:(gL nodes raw).Pairwise (fun x y=>x.w≤y.w):=by
      unfold gL
      rw [List.pairwise_map]
      refine (srt_rise (ges nodes raw)).imp ?_
      intro a b hab
      show a.wt.toNat≤b.wt.toNat
      omega
    have h3:=List.Pairwise.and h1 h2
    exact h3.imp (fun h=>by omega)
  · refine (hp.pairwise_iff (fun h e=>h (twin_symm _ _ e))).2 ?_
    unfold gM
    rw [List.pairwise_map]
    refine hk.es.imp ?_
    intro t u h e
    exact h e
theorem gL_len (nodes:Int) (raw:List Int):(gL nodes raw).length≤24:=by
  rw [(gL_perm nodes raw).length_eq]
  unfold gM
  rw [List.length_map]
  exact (gl_ok nodes raw).few
theorem gL_dg (nodes:Int) (raw:List Int) (u:Nat):(topL (gL_simple nodes raw)).dg u≤30:=by
  show (own u (gL nodes raw)).length≤30
  have h1:(own u (gL nodes raw)).length≤(gL nodes raw).length:=List.length_filter_le _ _
  have:=gL_len nodes raw
  omega
theorem gL_joined (nodes:Int) (raw:List Int):∀ S:Nat→Prop,S 0→(∀ e ∈ gL nodes raw,S e.a ↔ S e.b)→∀ k,k < gn nodes→S k:=by
  intro S s0 sS k
  obtain ⟨h1,h8⟩:=gn_in nodes
  induction k using Nat.strongRecOn with
  | ind k ih =>
    intro hk
    cases k with
    | zero=>exact s0
    | succ k =>
      obtain ⟨u,hu,ha,hb⟩:=(gls_tree h8 raw (gn nodes - 1) (by omega)).2.2 k (by omega)
      have hm:=gls_mono (gn nodes) raw (gn nodes - 1) (raw.length + gn nodes - 1) (by omega) u hu
      have hm2:t3 u ∈ gL nodes raw:=(gL_perm nodes raw).mem_iff.2 (List.mem_map_of_mem hm)
      have h1:=sS (t3 u) hm2
      have h2:(t3 u).a=k + 1:=ha
      rw [h2] at h1
      exact h1.2 (ih u.b hb (by omega))
def gT (nodes:Int) (raw:List Int):List E3:=(krs (gL nodes raw)).2
theorem gT_loops (nodes:Int) (raw:List Int):krs (inOrder (gM nodes raw))=krs (gL nodes raw):=lightest_eq (gL_simple nodes raw) (fun e=>((gL_perm nodes raw).mem_iff).symm) (gM_ws nodes raw)
noncomputable def Sat (A:AN) (l:List Stp) (i:Nat):AN:=(l.take i).foldl AN.does A
theorem Sat_succ (A:AN) {l:List Stp} {i:Nat} {s:Stp} (h:l[i]?=some s):Sat A l (i + 1)=(Sat A l i).does s:=by
  unfold Sat
  rw [take_succ_get h,List.foldl_append]
  rfl
theorem len_modE (A:AN) (i j:Nat) (f:En→En):(A.modE i j f).sps.length=A.sps.length:=by unfold AN.modE; simp
theorem len_modN (A:AN) (i:Nat) (f:Nod→Nod):(A.modN i f).sps.length=A.sps.length:=by unfold AN.modN; simp
theorem len_carry (A:AN) (i j:Nat):(A.carry i j).sps.length=A.sps.length:=by
  unfold AN.carry
  split
  · rfl
  · rw [(adds_sps _ _ _ _).1,len_modE]
theorem len_sends (i : Nat) : ∀ (l : List (Nat × Fr.Msg)) (A : AN), (A.sends i l).sps.length = A.sps.length
  | [],A=>rfl
  | c :: l,A=>by
    show ((A.sendOne i c).sends i l).sps.length=_
    rw [len_sends i l]; unfold AN.sendOne; rw [len_carry,len_modE]
theorem len_post (A:AN) (i:Nat):(A.post i).sps.length=A.sps.length:=by unfold AN.post; rw [len_sends,len_modN]
theorem len_takes (i j : Nat) : ∀ (l : List Fr.Msg) (A : AN), (A.takes i j l).sps.length = A.sps.length
  | [],A=>rfl
  | m :: l,A=>by
    show ((A.takeOne i j m).takes i j l).sps.length=_
    rw [len_takes i j l]; unfold AN.takeOne; rw [len_post,len_modN]
theorem len_deliver (A:AN) (k:Nat):(A.deliver k).sps.length=A.sps.length:=by
  unfold AN.deliver
  split
  · rfl
  · unfold AN.comes
    dsimp only
    rw [len_takes,len_carry,len_modE]
    rfl
theorem len_ticks (i : Nat) : ∀ (l : List Nat) (A : AN), (l.foldl (fun A j => A.tickOne i j) A).sps.length = A.sps.length
  | [],A=>rfl
  | j :: l,A=>by
    show (l.foldl (fun A j=>A.tickOne i j) (A.tickOne i j)).sps.length=_
    rw [len_ticks i l]; unfold AN.tickOne; rw [len_carry,len_modE]
theorem len_does (A:AN) (s:Stp):(A.does s).sps.length=A.sps.length:=by
  unfold AN.does
  generalize hk:pk s.a ((A.bag.length:Int) + 1)=k
  generalize hd:pk s.kind 12=kd
  by_cases h8:(8:Int)≤(kd:Int)
  · rw [doesK_ge A k kd A.sps.length s.a s.b h8]; exact len_deliver A k
  · have hc:kd=0∨kd=1∨kd=2∨kd=3∨kd=4∨kd=5∨kd=6∨kd=7:=by omega
    rcases hc with rfl | rfl | rfl | rfl | rfl | rfl | rfl | rfl
    · show (A.wake _).sps.length=_
      unfold AN.wake; rw [len_post,len_modN]
    · show (A.tick _).sps.length=_
      unfold AN.tick AN.ticks; exact len_ticks _ _ A
    · show (if k < A.bag.length then A.lose k else A).sps.length=_
      split <;> rfl
    · show (A.again k).sps.length=_
      unfold AN.again
      split
      · rfl
      · rw [(add_sps _ _).1]
    · show (A.spoil k (pk s.b 10) (1 + pk (IntKind.i64.wrap (s.b.tdiv 10)) 255)).sps.length=_
      unfold AN.spoil
      split
      · rfl
      · split <;> rfl
    · exact len_deliver A 0
    · exact len_deliver A 0
    · exact len_deliver A 0
noncomputable def A0 (nodes:Int) (raw:List Int):AN:=AN.fresh (gn nodes) (srt (ges nodes raw))
theorem sat_ai (nodes:Int) (raw:List Int) (l:List Stp):∀ i,i≤200→i≤l.length→AI (topL (gL_simple nodes raw)) (Sat (A0 nodes raw) l i) (1 + 128 * i)∧(Sat (A0 nodes raw) l i).es=(gL nodes raw).map ed3∧(Sat (A0 nodes raw) l i).sps.length=gn nodes:=by
  have hg:=gn_in nodes
  intro i
  induction i with
  | zero =>
    intro _ _
    have e:Sat (A0 nodes raw) l 0=AN.fresh (gn nodes) ((gL nodes raw).map ed3):=by
      unfold Sat A0; rw [srt_L]; simp
    rw [e]
    refine ⟨AI.fresh (gL_simple nodes raw) (fun u s hs=>?_),rfl,by simp [AN.fresh]⟩
    have hse:=(srt_ses (ges_chk nodes raw)).1
    rw [srt_L] at hse
    exact ((aok_fresh hse (by omega)).well u s hs).1
  | succ i ih =>
    intro h1 h2
    obtain ⟨a1,a2,a3⟩:=ih (by omega) (by omega)
    have hs:l[i]?=some l[i]:=List.getElem?_eq_getElem (by omega)
    rw [Sat_succ _ hs]
    obtain ⟨b1,b2,b3⟩:=a1.does (by show gn nodes≤1000; omega) (gL_dg nodes raw) (by omega) (by omega) l[i]
    refine ⟨?_,b3.trans a2,by rw [len_does]; exact a3⟩
    have:1 + 128 * (i + 1)=1 + 128 * i + 128:=by omega
    rw [this]; exact b1
theorem sat_up (nodes:Int) (raw:List Int) (l:List Stp) (i:Nat) (h1:i < 200) (h2:i < l.length):Up (Sat (A0 nodes raw) l i) (Sat (A0 nodes raw) l (i + 1)):=by
  obtain ⟨a1,a2,a3⟩:=sat_ai nodes raw l i (by omega) (by omega)
  have hg:=gn_in nodes
  have hs:l[i]?=some l[i]:=List.getElem?_eq_getElem h2
  rw [Sat_succ _ hs]
  exact (a1.does (by show gn nodes≤1000; omega) (gL_dg nodes raw) (by omega) (by omega) l[i]).2.1
end Go.Proofs.YtlfijfodklhplaaGreat.Ghs
namespace Go.Proofs.YtlfijfodklhplaaGreat
open Go.RowKit
set_option maxRecDepth 100000 in
set_option maxHeartbeats 1000000 in
theorem mwake_no (N:Nt) (k:Int) (w:World) (h:NtR w N) (hk:¬ (0≤k∧k < (N.sps.length:Int))) :
    Calls Tryz.prog 31 #[.pointer (some ⟨N.nb,0,none⟩),.int .i64 k] w fun r w'=>r=.returned (.int .i64 6)∧Keep nil w w':=by
  have HH:Unit→_:=fun _=>h.hasNode k
  rw [decide_eq_false hk] at HH
  generalize N.nb=nb at *
  clear h hk
  go_enter Tryz.func31,Tryz.ntmps31
  go_wp2_with fail
  refine Calls.mono (HH ()) ?_
  rintro r w1 ⟨rfl,k1⟩
  have K1:Unit→Keep nil w w1:=fun _=>k1
  clear k1 HH
  go_wp2
  go_ret
  exact ⟨rfl,K1 ()⟩
structure Sw (w wx : World) (N : Nt) (A : AN) (B : Nat) (F : List Ed) (ba : Option Addr) (bc lb nn : Nat) (lv : Nat → Nat) : Prop where
  keep:Keep nil w wx
  x:NtOk wx N B
  xa:N.abs=A
  new:∀ k,N.Own k→w.heap.size≤k
  best:RV wx 30 3 ba F.length bc (ecells F)
  bfar:∀ g,inB ba g→¬ N.Own g
  lev:Blk wx lb (nks nn lv) 3
  lfar:¬ N.Own lb
  lnew:w.heap.size≤lb
  lb_b:¬ inB ba lb
theorem Sw.keepN {w wx w1:World} {N:Nt} {A:AN} {B:Nat} {F:List Ed} {ba:Option Addr} {bc lb nn:Nat} {lv:Nat→Nat} (h:Sw w wx N A B F ba bc lb nn lv) (k:Keep nil wx w1):Sw w w1 N A B F ba bc lb nn lv :=
  ⟨h.keep.trans k,h.x.keepN k,h.xa,h.new,h.best.keep k (fun _ _ e=>e),h.bfar,h.lev.keep k id,h.lfar,h.lnew,h.lb_b⟩
theorem Sw.next {w wx w1:World} {N N':Nt} {A:AN} {B B':Nat} {F:List Ed} {ba:Option Addr} {bc lb nn:Nat} {lv:Nat→Nat} (h:Sw w wx N A B F ba bc lb nn lv) (a:NtOk w1 N' B') (t:NtTo wx w1 N N'):Sw w w1 N' N'.abs B' F ba bc lb nn lv:=by
  refine ⟨h.keep.trans' t.keep (fun i hi e=>by have:=h.new i e; omega),a,rfl,fun k e=>?_,h.best.keep t.keep h.bfar,fun g hg e=>?_,h.lev.keep t.keep h.lfar,fun e=>?_,h.lnew,h.lb_b⟩
  · rcases t.mine k e with x | x
    · exact h.new k x
    · have:=h.keep.size; omega
  · rcases t.mine g e with x | x
    · exact h.bfar g hg x
    · have:=h.best.lt g hg; omega
  · rcases t.mine lb e with x | x
    · exact h.lfar x
    · have:=h.lev.lt; omega
theorem Sw.set {w wx:World} {N:Nt} {A:AN} {B:Nat} {F:List Ed} {ba:Option Addr} {bc lb nn:Nat} {lv:Nat→Nat} (h:Sw w wx N A B F ba bc lb nn lv) (k v:Nat):Sw w (wx.setCell ⟨lb,k,none⟩ (.int .i64 (v:Int))) N A B F ba bc lb nn (fun i=>if i=k then v else lv i):=by
  have ks:Keep (only lb) wx (wx.setCell ⟨lb,k,none⟩ (.int .i64 (v:Int))):=(Keep.refl (only lb) wx).setCell (p:=⟨lb,k,none⟩) (fun _=>rfl) _
  refine ⟨h.keep.trans' ks (fun i hi e=>by simp only [only] at e; have:=h.lnew; omega),h.x.keepE ks (fun i hi e=>by simp only [only] at e; exact h.lfar (e ▸ hi)),h.xa,h.new,h.best.keep ks (fun i hi e=>by simp only [only] at e; exact h.lb_b (e ▸ hi)),h.bfar,?_,h.lfar,h.lnew,h.lb_b⟩
  have:=h.lev.set k (.int .i64 (v:Int))
  rwa [nks_set] at this
theorem Sw.ext {w wx:World} {N:Nt} {A:AN} {B:Nat} {F:List Ed} {ba:Option Addr} {bc lb nn:Nat} {lv lv':Nat→Nat} (h:Sw w wx N A B F ba bc lb nn lv) (e:∀ k,k < nn→lv k=lv' k):Sw w wx N A B F ba bc lb nn lv' :=
  ⟨h.keep,h.x,h.xa,h.new,h.best,h.bfar,by rw [← nks_ext e]; exact h.lev,h.lfar,h.lnew,h.lb_b⟩
noncomputable def lvl (A:AN) (u:Nat):Nat:=((Ghs.lsOf A).nodes u).level
theorem ls_node {N:Nt} {A:AN} (h:N.abs=A) {k:Nat} {s:Sp} (hs:N.sps[k]?=some s):(Ghs.lsOf A).nodes k=s.n:=by
  have h1:=abs_spot hs
  rw [h] at h1
  exact Ghs.nodes_at h1
structure Sfe (n : Nat) (F : List Ed) (A : AN) : Prop where
  tree:∀ e ∈ A.tree,e ∈ F
  few:A.tree.length≤24
  low:∀ u,u < n→lvl A u≤3
  over:∀ u,u < n→((Ghs.lsOf A).nodes u).over=true→n≤A.tree.length + 1
  slp:∀ u,((Ghs.lsOf A).nodes u).state=0→lvl A u=0∧∀ e ∈ ((Ghs.lsOf A).nodes u).edges,e.2=0
theorem sat_safe (nodes:Int) (raw:List Int) (l:List Stp) (i:Nat) (h1:i≤200) (h2:i≤l.length):Sfe (gn nodes) ((Ghs.gT nodes raw).map Ghs.ed3) (Ghs.Sat (Ghs.A0 nodes raw) l i):=by
  obtain ⟨a1,a2,a3⟩:=Ghs.sat_ai nodes raw l i h1 h2
  refine ⟨fun e he=>a1.tree a2 he,?_,fun u hu=>a1.low (gn_in nodes).2 hu,fun u hu ho=>a1.over a2 (Ghs.gL_joined nodes raw) hu ho,fun u hs=>a1.sleeps hs⟩
  have e1:(Ghs.Sat (Ghs.A0 nodes raw) l i).tree.length≤(Ghs.Sat (Ghs.A0 nodes raw) l i).es.length:=List.length_filter_le _ _
  rw [a2,List.length_map] at e1
  have:=Ghs.gL_len nodes raw
  omega
set_option maxRecDepth 100000 in
set_option maxHeartbeats 4000000 in
theorem safe_walk (nodes:Int) (raw:List Int) (ra:Option Addr) (rc:Nat) (l:List Stp) (sa:Option Addr) (sc:Nat) (w:World) (hnb:-9223372036854775808≤nodes∧nodes≤9223372036854775807) (hraw:Raws w ra raw) (hrl:(raw.length:Int) < 35184372088832) (hst:Stps w sa l) :
    Calls Tryz.prog 6 #[.int .i64 nodes,.slice ra raw.length rc,.slice sa l.length sc] w fun r w'=>r=.returned (.bool true)∧Keep nil w w':=by
  have HO:Unit→∀ w1,Keep nil w w1→_:=fun _ w1 k1=>opened_any nodes raw ra rc w1 hnb (hraw.keep k1) hrl
  have HST:Unit→∀ w1,Keep nil w w1→Stps w1 sa l:=fun _ w1 k1=>hst.keep k1
  have HLG:Unit→∀ (a:Option Addr) (c:Nat) (w1:World),RV w1 30 3 a (ges nodes raw).length c (ecells (ges nodes raw))→Calls Tryz.prog 18 #[.int .i64 (gn nodes:Int),.slice a (ges nodes raw).length c] w1 fun r w'=>∃ a c,r=.returned (.slice a (Ghs.gT nodes raw).length c)∧Tre w1 w' ((Ghs.gT nodes raw).map Ghs.ed3) a c:=fun _ a c w1 hr=>by
    have hg:=gn_in nodes
    rw [Ghs.ges_M,List.length_map] at hr ⊢
    have h1:=klight_any (gn nodes) (Ghs.gM nodes raw) a c w1 hr hg.1 hg.2 (by rw [← (Ghs.gL_perm nodes raw).length_eq]; exact Ghs.gL_len nodes raw) (fun e he=>by
      have h2:=(Ghs.gL_simple nodes raw).ok e ((Ghs.gL_perm nodes raw).mem_iff.2 he)
      exact ⟨h2.1,h2.2.1,h2.2.2.2.1,h2.2.2.2.2⟩)
    rw [Ghs.gT_loops] at h1
    exact h1
  obtain ⟨nn,hnn⟩:∃ nn,nn=gn nodes:=⟨_,rfl⟩
  obtain ⟨A0,hA0⟩:∃ A0,A0=Ghs.A0 nodes raw:=⟨_,rfl⟩
  obtain ⟨F,hF⟩:∃ F,F=(Ghs.gT nodes raw).map Ghs.ed3:=⟨_,rfl⟩
  obtain ⟨es,hes⟩:∃ es,es=ges nodes raw:=⟨_,rfl⟩
  have hFl:(Ghs.gT nodes raw).length=F.length:=by rw [hF,List.length_map]
  have HS:Unit→∀ i,i≤200→i≤l.length→Sfe nn F (Ghs.Sat A0 l i)∧(Ghs.Sat A0 l i).sps.length=nn:=fun _ i h1 h2=>by
    rw [hnn,hF,hA0]
    exact ⟨sat_safe nodes raw l i h1 h2,(Ghs.sat_ai nodes raw l i h1 h2).2.2⟩
  have HU:Unit→∀ i,i < 200→i < l.length→Ghs.Up (Ghs.Sat A0 l i) (Ghs.Sat A0 l (i + 1)):=fun _ i h1 h2=>by
    rw [hA0]; exact Ghs.sat_up nodes raw l i h1 h2
  have HZ:Unit→∀ u,lvl (Ghs.Sat A0 l 0) u=0:=fun _ u=>by
    have e:Ghs.Sat A0 l 0=AN.fresh (gn nodes) (srt (ges nodes raw)):=by rw [hA0]; unfold Ghs.Sat Ghs.A0; simp
    rw [e]
    unfold lvl Ghs.lsOf
    dsimp only
    split
    · rename_i s hs
      rw [(fresh_at hs).2]
      rfl
    · rfl
  have HNN:Unit→1≤nn∧nn≤8∧F.length≤100:=fun _=>by
    refine ⟨by rw [hnn]; exact (gn_in nodes).1,by rw [hnn]; exact (gn_in nodes).2,?_⟩
    rw [← hFl]
    have h1:∀ (L:List Ghs.E3) (c:(Nat→Nat) × List Ghs.E3),(L.foldl Ghs.krOne c).2.length≤c.2.length + L.length:=by
      intro L
      induction L with
      | nil=>intro c; simp
      | cons e L ih =>
        intro c
        have h2:=ih (Ghs.krOne c e)
        have h3:=krOne_len c e
        simp only [List.foldl_cons,List.length_cons]
        omega
    have h2:=h1 (Ghs.gL nodes raw) (fun k=>k,[])
    have h3:=Ghs.gL_len nodes raw
    have e:(Ghs.gT nodes raw).length=((Ghs.gL nodes raw).foldl Ghs.krOne (fun k=>k,[])).2.length:=rfl
    rw [e]
    simp only [List.length_nil] at h2
    omega
  have e1:AN.fresh (gn nodes) (srt (ges nodes raw))=Ghs.Sat A0 l 0:=by rw [hA0]; unfold Ghs.Sat Ghs.A0; simp
  rw [e1,← hnn,← hes] at HO
  rw [← hnn,← hes,hFl,← hF] at HLG
  clear hraw hst hrl hnb hA0 hnn hF hes hFl e1
  have hmk:=fun w=>mk_ints nn w (HNN ()).1 (HNN ()).2.1
  have hn1:(0:Int) < (nn:Int):=by have:=HNN (); omega
  have hn8:(nn:Int)≤8:=by have:=HNN (); omega
  go_enter Tryz.func6,Tryz.ntmps6
  go_wp2_with fail
  refine Calls.mono (HO () w (Keep.refl nil w)) ?_
  rintro r w1 ⟨N,a1,c1,rfl,hN,hNa,k1,hNn,ht⟩
  have HN:Unit→NtOk w1 N 0∧N.abs=Ghs.Sat A0 l 0∧Keep nil w w1∧(∀ k,N.Own k→w.heap.size≤k)∧Tre w w1 es a1 c1:=fun _=>⟨hN,hNa,k1,hNn,ht⟩
  obtain ⟨xb,hxb⟩:∃ xb,xb=N.nb:=⟨_,rfl⟩
  rw [← hxb]
  have HXB:Unit→xb=N.nb:=fun _=>hxb
  clear hN hNa k1 hNn hxb ht HO
  go_wp2_with fail
  refine Calls.mono (HLG () a1 c1 w1 (HN ()).2.2.2.2.row) ?_
  rintro r w2 ⟨ba,bc,rfl,t2⟩
  have H2:Unit→Tre w1 w2 F ba bc:=fun _=>t2
  clear t2 HLG
  go_upto_block 0 with fail
  obtain ⟨W3,hW3⟩:∃ W3,W3=w2.alloc (.cells (nks nn (fun _=>0)) 3):=⟨_,rfl⟩
  obtain ⟨lb,hlb⟩:∃ lb,lb=w2.heap.size:=⟨_,rfl⟩
  rw [← hW3,← hlb]
  have H3:Unit→∃ N,Sw w W3 N (Ghs.Sat A0 l 0) (4 * 0) F ba bc lb nn (lvl (Ghs.Sat A0 l 0))∧N.nb=xb:=fun _=>by
    obtain ⟨q1,q2,q3,q4,q5⟩:=HN ()
    have k3:Keep nil w2 W3:=by rw [hW3]; exact (Keep.refl nil w2).alloc _
    have kk:=(H2 ()).keep
    refine ⟨N,⟨(q3.trans kk).trans k3,(q1.keepN kk).keepN k3,q2,q4,(H2 ()).row.keep k3 (fun _ _ e=>e),fun g hg e=>?_,?_,fun e=>?_,?_,fun e=>?_⟩,(HXB ()).symm⟩
    · have:=(H2 ()).new g hg
      have:=q1.rep.Olt e
      omega
    · have hb:Blk W3 lb (nks nn (fun _=>0)) 3:=by rw [hW3,hlb]; exact Blk.new _ _ _
      rw [nks_ext (fun k _=>HZ () k)]
      exact hb
    · have:=q1.rep.Olt e
      have:=kk.size
      omega
    · have:=q3.size
      have:=kk.size
      omega
    · have:=(H2 ()).row.lt lb e
      omega
  clear hW3 hlb HN H2 HXB hmk N
  go_cut [] (fun wx=>∃ (i:Nat) (N:Nt),Sw w wx N (Ghs.Sat A0 l i) (4 * i) F ba bc lb nn (lvl (Ghs.Sat A0 l i))∧N.nb=xb∧i≤150∧i≤l.length)
  case first =>
    go_wp2_with fail
    go_loopw [12] (fun v wr=>∃ (i:Nat) (N:Nt),i≤l.length∧(i:Int)≤150∧v=.int .i64 (i:Int)∧Sw w wr N (Ghs.Sat A0 l i) (4 * i) F ba bc lb nn (lvl (Ghs.Sat A0 l i))∧N.nb=xb) (fun v _=>150 - (intOf v).toNat)
    case atStart =>
      obtain ⟨N,q1,q2⟩:=H3 ()
      exact ⟨0,N,Nat.zero_le _,by omega,rfl,q1,q2⟩
    case round =>
      clear H3
      obtain ⟨i,N,hi,hi1,rfl,ht,hxb⟩:=hrel
      have HQ:Unit→Sw w wr N (Ghs.Sat A0 l i) (4 * i) F ba bc lb nn (lvl (Ghs.Sat A0 l i))∧N.nb=xb∧i≤l.length∧N.sps.length=nn:=fun _=>⟨ht,hxb,hi,by rw [abs_sps ht.xa]; exact (HS () i (by omega) hi).2⟩
      clear ht hxb
      by_cases hc:i < l.length∧i < 150
      · obtain ⟨s,hs⟩:∃ s,l[i]?=some s:=⟨_,List.getElem?_eq_getElem hc.1⟩
        have HI:Unit→l[i]?=some s∧i < l.length∧i < 150:=fun _=>⟨hs,hc⟩
        obtain ⟨hsok,g,q,hga,hgl,f0,f1,f2⟩:=HST () w (Keep.refl nil w) i s hs
        have HE:Unit→∀ w',Keep nil w w'→w'.cell? ⟨g,q + i * 3,none⟩=some (.int .i64 s.kind)∧w'.cell? ⟨g,q + i * 3 + 1,none⟩=some (.int .i64 s.a)∧w'.cell? ⟨g,q + i * 3 + 2,none⟩=some (.int .i64 s.b)∧g < w'.heap.size:=fun _ w' k=>⟨(k.cell g _ hgl id).trans f0,(k.cell g _ hgl id).trans f1,(k.cell g _ hgl id).trans f2,Nat.lt_of_lt_of_le hgl k.size⟩
        have HOK:Unit→s.ok:=fun _=>hsok
        have hiI:(i:Int) < (l.length:Int):=by omega
        have hi9:(i:Int) < 150:=by omega
        rw [hga]
        clear hs hsok hgl f0 f1 f2 hga hc hi hi1
        obtain ⟨sk,s1,s2⟩:=s
        simp only at HE
        obtain ⟨e0,e1,e2,hgw⟩:=HE () wr (HQ ()).1.keep
        go_wp2_with fail
        refine Calls.mono (by have:=does_any N ⟨sk,s1,s2⟩ (4 * i) wr (HQ ()).1.x (HOK ()) (by have:=HI (); omega); rw [(HQ ()).2.1,(HQ ()).2.2.2] at this; exact this) ?_
        rintro r w1 ⟨rfl,N1,hok,hab,hto,hwy⟩
        obtain ⟨A1,hA1⟩:∃ A1,A1=Ghs.Sat A0 l (i + 1):=⟨_,rfl⟩
        obtain ⟨lo,hlo⟩:∃ lo,lo=lvl (Ghs.Sat A0 l i):=⟨_,rfl⟩
        have H1:Unit→Sw w w1 N1 A1 (4 * (i + 1)) F ba bc lb nn lo∧N1.nb=xb∧N1.sps.length=nn:=fun _=>by
          have h1:=(HQ ()).1.next hok hto
          rw [hab,(HQ ()).1.xa,← Ghs.Sat_succ A0 (HI ()).1,← hA1,← hlo] at h1
          exact ⟨h1,by rw [hto.nb]; exact (HQ ()).2.1,by rw [hto.len]; exact (HQ ()).2.2.2⟩
        have HA1:Unit→Sfe nn F A1∧(∀ u,lo u≤lvl A1 u)∧A1=Ghs.Sat A0 l (i + 1):=fun _=>by
          rw [hA1,hlo]
          exact ⟨(HS () (i + 1) (by have:=HI (); omega) (by have:=HI (); omega)).1,HU () i (by have:=HI (); omega) (HI ()).2.1,rfl⟩
        clear hok hab hto hwy e0 e1 e2 hgw HQ HOK hA1 hlo
        obtain ⟨tr,htr⟩:∃ tr,tr=A1.tree:=⟨_,rfl⟩
        have HTR:Unit→tr=A1.tree:=fun _=>htr
        have HT1:Unit→Calls Tryz.prog 17 #[.pointer (some ⟨xb,0,none⟩)] w1 fun r w2=>∃ v,r=.returned v∧∃ a c,v=.slice a tr.length c∧Tre w1 w2 tr a c:=fun _=>by
          have ht:=(H1 ()).1
          have h1:=atree (R:=fun v w2=>∃ a c,v=.slice a tr.length c∧Tre w1 w2 tr a c) N1.nb w1 ((mtree_any N1 _ w1 ht.x.rep ht.x.ok ht.x.es).mono (by
            rintro r w2 ⟨a,c,rfl,h⟩
            rw [ht.xa,← htr] at h
            exact ⟨_,rfl,a,c,by rw [ht.xa,← htr],h⟩))
          rw [(H1 ()).2.1] at h1
          exact h1
        clear htr
        go_wp2_with fail
        refine Calls.mono (HT1 ()) ?_
        rintro r w2 ⟨v5,rfl,ta,tc,rfl,t5⟩
        have H2:Unit→Tre w1 w2 tr ta tc:=fun _=>t5
        clear t5 HT1
        go_wp2_with fail
        refine Calls.mono (within_yes tr F ta ba tc bc w2 (H2 ()).row ((H1 ()).1.best.keep (H2 ()).keep (fun _ _ e=>e)) (by rw [HTR ()]; have:=(HA1 ()).1.few; omega) (by have:=(HNN ()).2.2; omega) (by rw [HTR ()]; exact (HA1 ()).1.tree)) ?_
        rintro r w3 ⟨rfl,k3⟩
        have H3:Unit→Sw w w3 N1 A1 (4 * (i + 1)) F ba bc lb nn lo:=fun _=>((H1 ()).1.keepN (H2 ()).keep).keepN k3
        clear k3 H2
        obtain ⟨tl,htl⟩:∃ tl,tl=tr.length:=⟨_,rfl⟩
        have HTL:Unit→tl=A1.tree.length∧(tl:Int)≤24:=fun _=>by rw [htl,HTR ()]; exact ⟨rfl,by have:=(HA1 ()).1.few; omega⟩
        rw [← htl]
        clear htl
        go_wp2_with fail
        go_loopw [15] (fun v wx=>∃ k:Nat,k≤nn∧v=.int .i64 (k:Int)∧Sw w wx N1 A1 (4 * (i + 1)) F ba bc lb nn (fun u=>if u < k then lvl A1 u else lo u)) (fun v _=>nn - (intOf v).toNat)
        case atStart=>exact ⟨0,Nat.zero_le _,rfl,(H3 ()).ext (fun u _=>by simp)⟩
        case round =>
          clear H3
          obtain ⟨k,hk,rfl,ht⟩:=hrel
          have HT:Unit→Sw w wr N1 A1 (4 * (i + 1)) F ba bc lb nn (fun u=>if u < k then lvl A1 u else lo u):=fun _=>ht
          by_cases hkl:k < nn
          · --@P lk
            obtain ⟨s,hs⟩:∃ s,N1.sps[k]?=some s:=⟨_,List.getElem?_eq_getElem (by rw [(H1 ()).2.2]; exact hkl)⟩
            have hnode:=ls_node ht.xa hs
            have HL1:Unit→_:=fun _=>alook_any N1 k s (4 * (i + 1)) wr (HT ()).x.rep hs (HT ()).x.ok
            obtain ⟨nd,hnd⟩:∃ nd,nd=s.n:=⟨_,rfl⟩
            have HEL:Unit→(nd.edges.length:Int) < 1000:=fun _=>by
              obtain ⟨q1,_,_⟩:=(HT ()).x.ok.well k s.abs (abs_spot hs)
              rw [hnd]
              exact q1.good.rise.few
            have HND:Unit→(Ghs.lsOf A1).nodes k=nd:=fun _=>by rw [hnd]; exact hnode
            rw [← hnd] at HL1
            rw [(H1 ()).2.1] at HL1
            have hkI:(k:Int) < (nn:Int):=by omega
            have HKL:Unit→k < nn:=fun _=>hkl
            have y1:=ht.lev.cell k
            rw [nks_get hkl,if_neg (by omega)] at y1
            have yf:=ht.lev.frozen k
            have hll:=ht.lev.lt
            obtain ⟨lk,hlk⟩:∃ lk,lk=lo k:=⟨_,rfl⟩
            rw [← hlk] at y1
            have HLK:Unit→lk=lo k:=fun _=>hlk
            clear hk hkl ht hs hnode hnd hlk s
            go_wp2_with fail
            refine Calls.mono (HL1 ()) ?_
            rintro r w7 ⟨ea,ec,rfl,r1,k7,n7⟩
            have H7:Unit→RV w7 3 1 ea nd.edges.length ec (icells (nd.edges.map (·.2)))∧Keep nil wr w7:=fun _=>⟨r1,k7⟩
            have y1:=(k7.cell lb _ hll id).trans y1
            have yf:=(k7.frozen lb _ hll id).trans yf
            have hll:lb < w7.heap.size:=Nat.lt_of_lt_of_le hll k7.size
            have HNEW:Unit→¬ inB ea lb:=fun _ e=>by have:=n7 lb e; have:=(HT ()).lev.lt; omega
            clear r1 k7 n7 HL1
            obtain ⟨e0,e1,e2,e3,e4,e5,hq⟩:∃ (e0 e1 e2:Nat) (e3:Bool) (e4 e5:Nat),(∀ a c,lookv nd a c=.agg #[.int .i64 (e0:Int),.int .i64 (e1:Int),.int .i64 (e2:Int),.bool e3,.int .i64 (e4:Int),.slice a e5 c])∧e5=nd.edges.length∧e0=nd.state∧e1=nd.level∧e3=nd.over:=⟨_,_,_,_,_,_,(fun _ _=>rfl),rfl,rfl,rfl,rfl⟩
            rw [hq.1]
            have HLV:Unit→e5=nd.edges.length∧e0=nd.state∧e1=nd.level∧e3=nd.over:=fun _=>hq.2
            clear hq
            have HL3:Unit→e1=lvl A1 k∧e1≤3∧lk≤e1∧(e3=true→nn≤tl + 1)∧(e0=0→e1=0∧∀ e ∈ nd.edges,e.2=0)∧e5=nd.edges.length:=fun _=>by
              obtain ⟨v5,v0,v1,v3⟩:=HLV ()
              have hA:=HA1 ()
              have hl1:lvl A1 k=nd.level:=by unfold lvl; rw [HND ()]
              refine ⟨by rw [hl1]; exact v1,?_,?_,fun h=>?_,fun h=>?_,v5⟩
              · have:=hA.1.low k (HKL ()); omega
              · have:=hA.2.1 k; rw [← HLK ()] at this; omega
              · rw [(HTL ()).1]
                exact hA.1.over k (HKL ()) (by rw [HND (),← v3]; exact h)
              · have h2:=hA.1.slp k (by rw [HND (),← v0]; exact h)
                rw [HND (),hl1,← v1] at h2
                exact h2
            clear HLV
            go_wp2_with fail
            obtain ⟨W8,hW8⟩:∃ W8,W8=w7.alloc (.cells #[.int .i64 (e0:Int),.int .i64 (e1:Int),.int .i64 (e2:Int),.bool e3,.int .i64 (e4:Int),.slice ea e5 ec] 50):=⟨_,rfl⟩
            obtain ⟨ab,hab⟩:∃ ab,ab=w7.heap.size:=⟨_,rfl⟩
            have k8:Keep nil w7 W8:=by rw [hW8]; exact (Keep.refl nil w7).alloc _
            have hb8:Blk W8 ab #[.int .i64 (e0:Int),.int .i64 (e1:Int),.int .i64 (e2:Int),.bool e3,.int .i64 (e4:Int),.slice ea e5 ec] 50:=by rw [hW8,hab]; exact Blk.new _ _ _
            have H8:Unit→Keep nil wr W8∧RV W8 3 1 ea e5 ec (icells (nd.edges.map (·.2)))∧Blk W8 ab #[.int .i64 (e0:Int),.int .i64 (e1:Int),.int .i64 (e2:Int),.bool e3,.int .i64 (e4:Int),.slice ea e5 ec] 50∧ab≠lb∧¬ inB ea lb:=fun _=>by
              have h1:=(H7 ()).1.keep k8 (fun _ _ e=>e)
              rw [← (HL3 ()).2.2.2.2.2] at h1
              exact ⟨(H7 ()).2.trans k8,h1,hb8,by omega,HNEW ()⟩
            rw [← hW8,← hab]
            have a0:W8.cell? ⟨ab,0,none⟩=some (.int .i64 (e0:Int)):=by rw [hb8.cell]; rfl
            have a1':W8.cell? ⟨ab,1,none⟩=some (.int .i64 (e1:Int)):=by rw [hb8.cell]; rfl
            have a3:W8.cell? ⟨ab,3,none⟩=some (.bool e3):=by rw [hb8.cell]; rfl
            have a5:W8.cell? ⟨ab,5,none⟩=some (.slice ea e5 ec):=by rw [hb8.cell]; rfl
            have hal:=hb8.lt
            have y1:=(k8.cell lb _ hll id).trans y1
            have yf:=(k8.frozen lb _ hll id).trans yf
            have hll:lb < W8.heap.size:=Nat.lt_of_lt_of_le hll k8.size
            clear hW8 hab k8 hb8 H7 HNEW
            have hd1:decide ((e1:Int) < (lk:Int))=false:=decide_eq_false (by have:=HL3 (); omega)
            have hd2:decide (e1 < lk)=false:=decide_eq_false (by have:=HL3 (); omega)
            have hd3:decide ((3:Int) < (e1:Int))=false:=decide_eq_false (by have:=HL3 (); omega)
            have hd4:decide (3 < e1)=false:=decide_eq_false (by have:=HL3 (); omega)
            have hw1:IntKind.i64.wrap ((nn:Int) - 1)=(nn:Int) - 1:=by rw [IntKind.wrap_i64]; have:=HNN (); omega
            go_upto_region 18 with fail
            go_cut [98] (fun v wx=>v=.bool false∧Keep nil W8 wx)
            case first =>
              cases e3 with
              | false =>
                go_wp2_with fail
                go_quiet (fail)
                have HK:Unit→Keep nil W8 (W8.drewN nq):=fun _=>(Keep.refl nil W8).drewN nq
                clear a0 a1' a3 a5 y1 yf hal hll
                go_wp2
                go_meet
                case rel=>exact ⟨rfl,HK ()⟩
              | true =>
                have hd5:decide ((tl:Int) < (nn:Int) - 1)=false:=decide_eq_false (by have:=(HL3 ()).2.2.2.1 rfl; omega)
                go_wp2_with fail
                go_quiet (fail)
                have HK:Unit→Keep nil W8 (W8.drewN nq):=fun _=>(Keep.refl nil W8).drewN nq
                clear a0 a1' a3 a5 y1 yf hal hll
                go_wp2
                go_meet
                case rel=>exact ⟨rfl,HK ()⟩
            case rest =>
              obtain ⟨rfl,hk9⟩:=hcut
              have a0:=(hk9.cell ab _ hal id).trans a0
              have a1':=(hk9.cell ab _ hal id).trans a1'
              have a5:=(hk9.cell ab _ hal id).trans a5
              have hal:ab < wc.heap.size:=Nat.lt_of_lt_of_le hal hk9.size
              have y1:=(hk9.cell lb _ hll id).trans y1
              have yf:=(hk9.frozen lb _ hll id).trans yf
              have hll:lb < wc.heap.size:=Nat.lt_of_lt_of_le hll hk9.size
              have HK9:Unit→Keep nil W8 wc:=fun _=>hk9
              clear hk9 a3 hd1 hd2 hd3 hd4 hw1
              go_wp2_with fail
              obtain ⟨W9,hW9⟩:∃ W9,W9=wc.setCell ⟨lb,k,none⟩ (.int .i64 (e1:Int)):=⟨_,rfl⟩
              have k9:Keep (only lb) wc W9:=by rw [hW9]; exact (Keep.refl (only lb) wc).setCell (p:=⟨lb,k,none⟩) (fun _=>rfl) _
              have hne:¬ only lb ab:=fun e=>(H8 ()).2.2.2.1 e
              have a0:=(k9.cell ab _ hal hne).trans a0
              have a1':=(k9.cell ab _ hal hne).trans a1'
              have a5:=(k9.cell ab _ hal hne).trans a5
              have hal:ab < W9.heap.size:=Nat.lt_of_lt_of_le hal k9.size
              have H9:Unit→Sw w W9 N1 A1 (4 * (i + 1)) F ba bc lb nn (fun u=>if u < k + 1 then lvl A1 u else lo u):=fun _=>by
                have h1:=(((HT ()).keepN (H8 ()).1).keepN (HK9 ())).set k e1
                rw [← hW9] at h1
                refine h1.ext (fun u hu=>?_)
                by_cases e:u=k
                · rw [if_pos e,if_pos (by omega),e]; exact (HL3 ()).1
                · rw [if_neg e]
                  by_cases e2:u < k
                  · rw [if_pos e2,if_pos (by omega)]
                  · rw [if_neg e2,if_neg (by omega)]
              have HR9:Unit→RV W9 3 1 ea e5 ec (icells (nd.edges.map (·.2))):=fun _=>((H8 ()).2.1.keep (HK9 ()) (fun _ _ e=>e)).keep k9 (fun b hb e=>(H8 ()).2.2.2.2 (by rw [← (show b=lb from e)]; exact hb))
              rw [← hW9]
              clear hW9 k9 hne y1 yf hll
              go_loopw [18] (fun v wx=>∃ j:Nat,j≤e5∧v=.int .i64 (j:Int)∧Keep nil W9 wx) (fun v _=>e5 - (intOf v).toNat)
              case atStart=>exact ⟨0,Nat.zero_le _,rfl,Keep.refl _ _⟩
              case round =>
                obtain ⟨j,hj,rfl,hkw⟩:=hrel
                have HJ:Unit→Keep nil W9 wr∧j≤e5:=fun _=>⟨hkw,hj⟩
                have a0:=(hkw.cell ab _ hal id).trans a0
                have a1':=(hkw.cell ab _ hal id).trans a1'
                have a5:=(hkw.cell ab _ hal id).trans a5
                have hal:ab < wr.heap.size:=Nat.lt_of_lt_of_le hal hkw.size
                have he9:(e5:Int) < 1000:=by rw [(HL3 ()).2.2.2.2.2]; exact HEL ()
                by_cases hjl:j < e5
                · have hjI:(j:Int) < (e5:Int):=by omega
                  have HJL:Unit→j < e5:=fun _=>hjl
                  by_cases hz:e0=0
                  · --@P slp
                    obtain ⟨hl0,hall⟩:=(HL3 ()).2.2.2.2.1 hz
                    have hrz:=(HR9 ()).keep hkw (fun _ _ e=>e)
                    obtain ⟨g5,o5,hga,hvb⟩:=rv_pos hrz (by omega)
                    obtain ⟨ej,hej⟩:∃ ej,nd.edges[j]?=some ej:=⟨_,List.getElem?_eq_getElem (by have:=(HL3 ()).2.2.2.2.2; omega)⟩
                    have hv:=hvb.cell j _ (icells_get (nd.edges.map (·.2)) j ej.2 (by rw [List.getElem?_map,hej]; rfl))
                    rw [hall ej (List.mem_of_getElem? hej)] at hv
                    have hgl:=hvb.lt
                    rw [hga] at a5
                    rw [hz] at a0
                    rw [hl0] at a1'
                    rw [show ((0:Nat):Int)=0 from rfl] at a0 a1' hv
                    clear hj hjl hkw hz hl0 hall hrz hvb hej hga
                    go_wp2_with fail
                    refine ⟨⟨j + 1,by have:=HJL (); omega,by go_num,(HJ ()).1⟩,by have:=HJL (); simp [intOf]; omega⟩
                  · have hzI:¬ ((e0:Int)=0):=by omega
                    have hzB:((e0:Int) == 0)=false:=beq_eq_false_iff_ne.2 hzI
                    clear hj hjl hkw hz
                    go_wp2_with fail
                    refine ⟨⟨k + 1,by have:=HKL (); omega,by go_num,(H9 ()).keepN (HJ ()).1⟩,by have:=HKL (); simp [intOf]; omega⟩
                · have hjI:¬ ((j:Int) < (e5:Int)):=by omega
                  clear hj hjl hkw
                  go_wp2_with fail
                  refine ⟨⟨k + 1,by have:=HKL (); omega,by go_num,(H9 ()).keepN (HJ ()).1⟩,by have:=HKL (); simp [intOf]; omega⟩
          · have hkI:¬ ((k:Int) < (nn:Int)):=by omega
            clear hk hkl ht
            go_wp2
            refine ⟨⟨i + 1,N1,by have:=HI (); omega,by have:=HI (); omega,by go_num,?_,(H1 ()).2.1⟩,by have:=HI (); simp [intOf]; omega⟩
            rw [← (HA1 ()).2.2]
            exact (HT ()).ext (fun u hu=>by rw [if_pos (by omega)])
      · by_cases h:i < l.length
        · have hiI:(i:Int) < (l.length:Int):=by omega
          have hi9:¬ ((i:Int) < 150):=by omega
          have hi8:i≤150:=by omega
          clear hi hi1 hc h
          go_wp2
          go_meet
          case rel=>exact ⟨i,N,(HQ ()).1,(HQ ()).2.1,hi8,(HQ ()).2.2.1⟩
        · have hiI:¬ ((i:Int) < (l.length:Int)):=by omega
          have hi8:i≤150:=by omega
          clear hi hi1 hc h
          go_wp2
          go_meet
          case rel=>exact ⟨i,N,(HQ ()).1,(HQ ()).2.1,hi8,(HQ ()).2.2.1⟩
  case rest =>
    obtain ⟨i,N,ht,hxb,hi,hil⟩:=hcut
    have hsl:N.sps.length=nn:=by rw [abs_sps ht.xa]; exact (HS () i (by omega) hil).2
    obtain ⟨A1,hA1⟩:∃ A1,A1=Ghs.Sat A0 l i:=⟨_,rfl⟩
    rw [← hA1] at ht
    have HT:Unit→Sw w wc N A1 (4 * i) F ba bc lb nn (lvl A1)∧N.nb=xb∧N.sps.length=nn∧i≤150:=fun _=>⟨ht,hxb,hsl,hi⟩
    have HW:Unit→Calls Tryz.prog 15 #[.pointer (some ⟨xb,0,none⟩),.int .i64 0] wc fun r w'=>∃ v,r=.returned v∧v=.int .i64 0∧∃ N',Sw w w' N' (A1.wake 0) (4 * i) F ba bc lb nn (lvl A1)∧N'.nb=xb∧N'.sps.length=nn:=fun _=>by
      obtain ⟨ht,hxb,hsl,hi⟩:=HT ()
      obtain ⟨s,hs⟩:∃ s,N.sps[0]?=some s:=⟨_,List.getElem?_eq_getElem ht.x.some_⟩
      have h1:=awake (R:=fun v w'=>v=.int .i64 0∧∃ N',Sw w w' N' (A1.wake 0) (4 * i) F ba bc lb nn (lvl A1)∧N'.nb=xb∧N'.sps.length=nn) N.nb ((0:Nat):Int) wc ((mwake_any N 0 s (4 * i) wc ht.x.rep hs ht.x.ok ht.x.st).mono (by
        rintro r w' ⟨rfl,N',b1,b2,b3,b4,b5,b6⟩
        refine ⟨_,rfl,rfl,N',?_,by rw [b3.nb]; exact hxb,by rw [b3.len]; exact hsl⟩
        have h2:=ht.next ⟨b1,b5,b6,es_to ht.x.es b3,by rw [b3.len]; exact ht.x.some_⟩ b3
        rw [b2,ht.xa] at h2
        exact h2))
      rw [hxb] at h1
      exact h1
    clear ht hxb hsl hi hil hA1
    go_wp2_with fail
    refine Calls.mono (HW ()) ?_
    rintro r w1 ⟨v,rfl,rfl,N1,ht,hxb,hsl⟩
    have H1:Unit→Sw w w1 N1 (A1.wake 0) (4 * i) F ba bc lb nn (lvl A1)∧N1.nb=xb∧N1.sps.length=nn:=fun _=>⟨ht,hxb,hsl⟩
    have HV:Unit→Calls Tryz.prog 15 #[.pointer (some ⟨xb,0,none⟩),.int .i64 (nn:Int)] w1 fun r w'=>∃ v,r=.returned v∧v=.int .i64 6∧Keep nil w1 w':=fun _=>by
      obtain ⟨ht,hxb,hsl⟩:=H1 ()
      have h1:=awake (R:=fun v w'=>v=.int .i64 6∧Keep nil w1 w') N1.nb (nn:Int) w1 ((mwake_no N1 (nn:Int) w1 ht.x.rep (by rw [hsl]; omega)).mono (by
        rintro r w' ⟨rfl,k⟩
        exact ⟨_,rfl,rfl,k⟩))
      rw [hxb] at h1
      exact h1
    obtain ⟨s,hs⟩:∃ s,N1.sps[0]?=some s:=⟨_,List.getElem?_eq_getElem ht.x.some_⟩
    have hst:s.n.state≠0:=by
      refine awk_woken 0 A1 s.n ?_
      rw [← ht.xa]
      unfold AN.nods
      rw [List.getElem?_map,abs_spot hs]
      rfl
    have HL1:Unit→∀ w',Keep nil w1 w'→_:=fun _ w' k'=>alook_any N1 0 s (4 * i) w' ((H1 ()).1.keepN k').x.rep hs (H1 ()).1.x.ok
    obtain ⟨nd,hnd⟩:∃ nd,nd=s.n:=⟨_,rfl⟩
    rw [← hnd] at HL1 hst
    rw [hxb,show ((0:Nat):Int)=0 from rfl] at HL1
    clear hnd hs ht hxb hsl s HW
    go_wp2_with fail
    refine Calls.mono (HV ()) ?_
    rintro r w2 ⟨v,rfl,rfl,k2⟩
    have H2:Unit→Keep nil w1 w2:=fun _=>k2
    clear k2 HV
    go_wp2_with fail
    refine Calls.mono (HL1 () w2 (H2 ())) ?_
    rintro r w7 ⟨ea,ec,rfl,r1,k7,n7⟩
    have H7:Unit→Keep nil w w7:=fun _=>((H1 ()).1.keep.trans (H2 ())).trans k7
    clear r1 k7 n7 HL1
    unfold lookv
    obtain ⟨e0,he0⟩:∃ e0,e0=nd.state:=⟨_,rfl⟩
    have hst':¬ ((e0:Int)=0):=by rw [he0]; omega
    rw [← he0]
    clear hst he0
    generalize nd.level=e1
    generalize nd.name=e2
    generalize nd.over=e3
    generalize nd.off.length=e4
    generalize nd.edges.length=e5
    go_wp2
    go_ret
    have hne:¬ e0=0:=by omega
    exact ⟨by simp [hne],by first | exact H7 () | exact (H7 ()).alloc _⟩
end Go.Proofs.YtlfijfodklhplaaGreat
