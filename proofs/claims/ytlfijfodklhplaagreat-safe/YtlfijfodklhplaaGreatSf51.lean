import Derived.Test.YtlfijfodklhplaaGreatSf50
import Derived.Test.YtlfijfodklhplaaGreatSf34
import Derived.Deep.DeepCutAuto
import Derived.Deep.CutBlock
set_option linter.unusedVariables false
set_option linter.unusedSimpArgs false
namespace Go.Proofs.YtlfijfodklhplaaGreat.Ghs
open Go.RowKit
open NMsg
structure AI {G : Gr} (T : Top G) (A : AN) (C : Nat) : Prop where
  sf:Sf T A
  bd:Bd A (fun _=>0) C
  qt:Qt A
  inv:∃ H,LInv G T (lsOf A) H no2 no2
def Up (A A':AN):Prop:=∀ u,((lsOf A).nodes u).level≤((lsOf A').nodes u).level
theorem Up.refl (A:AN):Up A A:=fun u=>Nat.le_refl _
theorem Up.trans {A B C:AN} (h:Up A B) (k:Up B C):Up A C:=fun u=>Nat.le_trans (h u) (k u)
theorem up_eq {A A':AN} (h:(lsOf A').nodes=(lsOf A).nodes):Up A A':=fun u=>by rw [h]; exact Nat.le_refl _
theorem bd_mono {A:AN} {r:Nat→Nat} {C C':Nat} (h:Bd A r C) (hC:C≤C'):Bd A r C':=fun u j s d hs hd=>Nat.le_trans (h u j s d hs hd) hC
theorem AI.mono {G:Gr} {T:Top G} {A:AN} {C C':Nat} (h:AI T A C) (hC:C≤C'):AI T A C':=⟨h.sf,bd_mono h.bd hC,h.qt,h.inv⟩
theorem qt_ps {A:AN} (h:Qt A) {u:Nat} {s:AS} (hs:A.sps[u]?=some s):PS s.n:=fun c hc=>by rw [h u s hs] at hc; cases hc
theorem AI.wake {G:Gr} {T:Top G} (hn:G.n≤1000) {A:AN} {C:Nat} (hA:AI T A C) (hC:C < 65536) {u:Nat} {s:AS} (hs:A.sps[u]?=some s):AI T (A.wake u) C∧Up A (A.wake u)∧(A.wake u).es=A.es:=by
  obtain ⟨H,hI⟩:=hA.inv
  have e1:=nodes_at hs
  have h1:=hI.wake u
  have eA:lsOf (A.modN u Nod.wake)=⟨upd (lsOf A).nodes u s.n.wake,(lsOf A).en,(lsOf A).bag⟩:=ls_modN hs _
  have h2:LInv G T (lsOf (A.modN u Nod.wake)) H no2 no2:=by rw [eA,← e1]; exact h1
  have hs2:(A.modN u Nod.wake).sps[u]?=some { s with n:=s.n.wake }:=by rw [sps_modN,hs]; simp
  have hS:=sf_modN hA.sf hs Nod.wake (wake_well _ (hA.sf.well u s hs))
  have hB:Bd (A.modN u Nod.wake) (fun _=>0) (C + 0):=bd_modN hA.bd hs Nod.wake (by have:=mu_wake s.n; omega) (fun x _=>Nat.le_refl _)
  obtain ⟨H',b1,b2,b3,b4,b5,b6⟩:=post_ls hn hS hs2 (fun x s' hx hs'=>by
    rw [sps_modN] at hs'
    obtain ⟨s0,h3,h4⟩:=Option.map_eq_some_iff.1 hs'
    rw [if_neg (fun c=>hx c.symm)] at h4
    rw [← h4]; exact hA.qt x s0 h3) (ps_wake (qt_ps hA.qt hs)) hB hC h2
  refine ⟨⟨b2,b3,b4,H',b1⟩,fun x=>?_,b6⟩
  show _≤((lsOf ((A.modN u Nod.wake).post u)).nodes x).level
  rw [b5,eA]
  dsimp only
  rw [upd_upd]
  by_cases e:x=u
  · subst e
    rw [upd_at,e1]
    obtain ⟨chan,n1,n2⟩:=hI.net
    show _≤s.n.wake.level
    rw [lev_wake (fun e=>by have:=n1.sleeps (u:=x) (by rw [e1]; exact e); rw [e1] at this; exact this.1)]
    exact Nat.le_refl _
  · rw [upd_ne _ _ e]; exact Nat.le_refl _
theorem takes_ls {G:Gr} {T:Top G} (hn:G.n≤1000) (hdg:∀ u,T.dg u≤30) {v k:Nat} (hk:k < T.dg v):∀ (l:List Fr.Msg) {A:AN} {C:Nat} {H:Nat→Nat→List Fr.Msg},Sf T A→Bd A (fun _=>0) C→Qt A→LInv G T (lsOf A) H (upd2 no2 (T.nb v k) v l) no2→(∀ m ∈ l,MOk m)→C + 32 * l.length < 65536 →
    AI T (A.takes v k l) (C + 32 * l.length)∧Up A (A.takes v k l)∧(A.takes v k l).es=A.es
  | [],A,C,H,hS,hB,hq,hI,hm,hC=>by
    refine ⟨⟨hS,bd_mono hB (by omega),hq,H,hI.Dcongr (fun x j hj=>?_)⟩,Up.refl _,rfl⟩
    simp only [upd2,no2]; split <;> rfl
  | m :: l,A,C,H,hS,hB,hq,hI,hm,hC=>by
    simp only [List.length_cons] at hC
    have p30:(1000:Nat) < 2 ^ 30:=by decide
    obtain ⟨d,s,hd,hd1,hs⟩:=hS.at hk
    have e1:=nodes_at hs
    have hb:=hB v k s d hs hd
    have hW:=hS.well v s hs
    obtain ⟨chan,hN,_⟩:=hI.net
    have hlen:=hN.elen v
    rw [e1] at hlen
    have hmk:=hm m (by simp)
    have hoff:s.n.off.length < 5000:=by unfold mu at hb; omega
    obtain ⟨w1,w2,w3,w4⟩:=take_well s.n k m hW (by rw [hlen]; exact hk) (mok_may hmk) (by omega)
    obtain ⟨h1,hlev⟩:=hI.take (by omega) (fun u=>by have:=hdg u; omega) hk (m:=m) (r:=l) (by simp [upd2])
    have eD:upd2 (upd2 no2 (T.nb v k) v (m :: l)) (T.nb v k) v l=upd2 no2 (T.nb v k) v l:=by
      funext x y; simp only [upd2]; split <;> rfl
    rw [eD] at h1
    have eA:lsOf (A.modN v (fun n=>n.take k m))=⟨upd (lsOf A).nodes v (s.n.take k m),(lsOf A).en,(lsOf A).bag⟩:=ls_modN hs _
    have h2:LInv G T (lsOf (A.modN v (fun n=>n.take k m))) H (upd2 no2 (T.nb v k) v l) no2:=by rw [eA,← e1]; exact h1
    have hs2:(A.modN v (fun n=>n.take k m)).sps[v]?=some { s with n:=s.n.take k m }:=by rw [sps_modN,hs]; simp
    have hS2:=sf_modN hS hs (fun n=>n.take k m) w1
    have hB2:Bd (A.modN v (fun n=>n.take k m)) (fun _=>0) (C + 32):=bd_modN hB hs (fun n=>n.take k m) (by
      have:=mu_take hW.good (by rw [hlen]; exact hdg v) (by rw [hlen]; exact hk) (mok_may hmk)
      omega) (fun x _=>Nat.le_refl _)
    obtain ⟨H',b1,b2,b3,b4,b5,b6⟩:=post_ls hn hS2 hs2 (fun x s' hx hs'=>by
      rw [sps_modN] at hs'
      obtain ⟨s0,h3,h4⟩:=Option.map_eq_some_iff.1 hs'
      rw [if_neg (fun c=>hx c.symm)] at h4
      rw [← h4]; exact hq x s0 h3) (ps_take (qt_ps hq hs) k m) hB2 (by omega) h2
    obtain ⟨c1,c2,c3⟩:=takes_ls hn hdg hk l (A:=A.takeOne v k m) b2 b3 b4 b1 (fun x hx=>hm x (by simp [hx])) (by omega)
    refine ⟨?_,Up.trans (fun x=>?_) c2,c3.trans b6⟩
    · have:C + 32 * (m :: l).length=C + 32 + 32 * l.length:=by simp; omega
      rw [this]; exact c1
    · show _≤((lsOf ((A.modN v (fun n=>n.take k m)).post v)).nodes x).level
      rw [b5,eA]
      dsimp only
      rw [upd_upd]
      by_cases e:x=v
      · subst e
        rw [upd_at]
        exact Nat.le_trans hlev (by rw [e1]; exact Nat.le_refl _)
      · rw [upd_ne _ _ e]; exact Nat.le_refl _
theorem toEdge_eq {G:Gr} {T:Top G} {A:AN} (hS:Sf T A) {v k:Nat} (hk:k < T.dg v):A.toEdge v (T.nb v k)=k:=by
  obtain ⟨d,s,hd,hd1,hs⟩:=hS.at hk
  have hg:∀ i x,s.ss[i]?=some x→i < T.dg v∧x.1=T.nb v i:=fun i x hx=>hS.lt (by rw [side_at,hs]; exact hx)
  have hdk:s.ss[k]?=some d:=by rw [side_at,hs] at hd; exact hd
  have hkl:=(List.getElem?_eq_some_iff.1 hdk).1
  unfold AN.toEdge
  rw [hs]
  dsimp only
  have h1:s.ss.findIdx (fun d=>d.1 == T.nb v k) < s.ss.length:=by
    rw [List.findIdx_lt_length]
    exact ⟨d,List.mem_of_getElem? hdk,by simp [hd1]⟩
  have h2:=List.findIdx_getElem (w:=h1)
  have h3:=hg _ _ (List.getElem?_eq_getElem h1)
  refine T.inj v _ _ h3.1 hk ?_
  rw [← h3.2]
  simpa using h2
theorem AI.less {G:Gr} {T:Top G} {A:AN} {C:Nat} (hA:AI T A C) (bag':List AP) (h1:∀ x ∈ bag',(x.sp=false→∃ f,FrOk f∧x.l=Fr.enc f)∧(x.sp=true→frmOf x.l=none)∧G.adj x.t x.f) (h2:∀ x ∈ bag',∀ f,frmOf x.l=some f→∃ y ∈ A.bag,y.f=x.f∧y.t=x.t∧frmOf y.l=some f):AI T { A with bag:=bag' } C:=by
  obtain ⟨H,hI⟩:=hA.inv
  refine ⟨⟨hA.sf.shp,h1,hA.sf.kept,hA.sf.wait,hA.sf.out,hA.sf.well⟩,hA.bd,hA.qt,H,?_⟩
  refine hI.less (bag'.map (fun x=>(x.f,x.t,frmOf x.l))) (fun u v f hm=>?_)
  obtain ⟨x,hx,e⟩:=List.mem_map.1 hm
  simp only [Prod.mk.injEq] at e
  obtain ⟨e1,e2,e3⟩:=e
  obtain ⟨y,hy,y1,y2,y3⟩:=h2 x hx f e3
  exact List.mem_map.2 ⟨y,hy,by rw [y1,y2,y3,e1,e2]⟩
theorem AI.lose {G:Gr} {T:Top G} {A:AN} {C:Nat} (hA:AI T A C) (k:Nat):AI T (A.lose k) C :=
  hA.less _ (fun x hx=>hA.sf.bg x (List.mem_of_mem_eraseIdx hx)) (fun x hx f hf=>⟨x,List.mem_of_mem_eraseIdx hx,rfl,rfl,hf⟩)
theorem AI.again {G:Gr} {T:Top G} {A:AN} {C:Nat} (hA:AI T A C) (k:Nat):AI T (A.again k) C:=by
  unfold AN.again
  split
  · exact hA
  · rename_i x hx
    have hm:=List.mem_of_getElem? hx
    unfold AN.add
    split
    · refine hA.less _ (fun y hy=>?_) (fun y hy f hf=>?_)
      · rcases List.mem_append.1 hy with h | h
        · exact hA.sf.bg y h
        · rw [List.mem_singleton.1 h]; exact hA.sf.bg x hm
      · rcases List.mem_append.1 hy with h | h
        · exact ⟨y,h,rfl,rfl,hf⟩
        · rw [List.mem_singleton.1 h] at hf ⊢; exact ⟨x,hm,rfl,rfl,hf⟩
    · exact hA
theorem AI.spoil {G:Gr} {T:Top G} {A:AN} {C:Nat} (hA:AI T A C) (k i y:Nat) (hy:y < 256):AI T (A.spoil k i y) C:=by
  unfold AN.spoil
  split
  · exact hA
  · rename_i x hx
    have hm:=List.mem_of_getElem? hx
    split
    · rename_i hc
      obtain ⟨f,f1,f2⟩:=(hA.sf.bg x hm).1 hc.1
      have hno:frmOf (x.l.modify i (fun v=>v ^^^ y))=none:=by
        rw [f2]; exact frmOf_spoilt f1 (by rw [← f2]; exact hc.2.1) hc.2.2 hy
      refine hA.less _ (fun z hz=>?_) (fun z hz g hg=>?_)
      · rcases List.mem_or_eq_of_mem_set hz with h | h
        · exact hA.sf.bg z h
        · rw [h]; exact ⟨(fun e=>by cases e),fun _=>hno,(hA.sf.bg x hm).2.2⟩
      · rcases List.mem_or_eq_of_mem_set hz with h | h
        · exact ⟨z,h,rfl,rfl,hg⟩
        · rw [h] at hg; rw [hno] at hg; cases hg
    · exact hA
theorem AI.tickOne {G:Gr} {T:Top G} {A:AN} {C:Nat} (hA:AI T A C) (hC:C < 65536) {u j:Nat} (hj:j < T.dg u):AI T (A.tickOne u j) C∧(lsOf (A.tickOne u j)).nodes=(lsOf A).nodes∧(A.tickOne u j).es=A.es:=by
  obtain ⟨H,hI⟩:=hA.inv
  obtain ⟨d,s,hd,hd1,hs⟩:=hA.sf.at hj
  have hb:=hA.bd u j s d hs hd
  have e1:=en_at hd
  obtain ⟨bag',b1,b2,b3,b4,b5,b6⟩:=carry_ls hA.sf hd En.tick (show_ok (hA.sf.out u j d hd) (hA.sf.wait u j d hd) (by omega) 0) (hA.sf.kept u j d hd) (hA.sf.wait u j d hd)
  refine ⟨⟨b3,b4 _ _ C hA.bd (Nat.le_refl _) (fun x=>Nat.le_refl _),qt_eq b5 hA.qt,H,?_⟩,nodes_eq b5,b6⟩
  show LInv G T (lsOf ((A.modE u j En.tick).carry u j)) H no2 no2
  rw [b1,← e1]
  exact hI.tick hj bag' (fun x y f hf=>by rw [e1]; exact b2 x y f hf)
theorem AI.ticks {G : Gr} {T : Top G} {C : Nat} (hC : C < 65536) {u : Nat} : ∀ (l : List Nat) {A : AN}, AI T A C → (∀ j ∈ l, j < T.dg u) → AI T (l.foldl (fun A j => A.tickOne u j) A) C ∧ (lsOf (l.foldl (fun A j => A.tickOne u j) A)).nodes = (lsOf A).nodes ∧ (l.foldl (fun A j => A.tickOne u j) A).es = A.es
  | [],A,hA,_=>⟨hA,rfl,rfl⟩
  | j :: l,A,hA,hl=>by
    obtain ⟨a1,a2,a3⟩:=hA.tickOne hC (hl j (by simp))
    obtain ⟨b1,b2,b3⟩:=AI.ticks hC l a1 (fun i hi=>hl i (by simp [hi]))
    exact ⟨b1,b2.trans a2,b3.trans a3⟩
theorem AI.tick {G:Gr} {T:Top G} {A:AN} {C:Nat} (hA:AI T A C) (hC:C < 65536) (u:Nat):AI T (A.tick u) C∧(lsOf (A.tick u)).nodes=(lsOf A).nodes∧(A.tick u).es=A.es:=by
  unfold AN.tick AN.ticks
  refine AI.ticks hC _ hA (fun j hj=>?_)
  have hj':=List.mem_range.1 hj
  cases hs:A.sps[u]? with
  | none=>rw [hs] at hj'; exact absurd hj' (Nat.not_lt_zero _)
  | some s =>
    rw [hs] at hj'
    exact (hA.sf.lt (d:=s.ss[j]'hj') (by rw [side_at,hs]; exact List.getElem?_eq_getElem hj')).1
theorem AI.deliver {G:Gr} {T:Top G} (hn:G.n≤1000) (hdg:∀ u,T.dg u≤30) {A:AN} {C:Nat} (hA:AI T A C) (hC:C + 128 < 65536) (k:Nat):AI T (A.deliver k) (C + 128)∧Up A (A.deliver k)∧(A.deliver k).es=A.es:=by
  unfold AN.deliver
  split
  · exact ⟨hA.mono (by omega),Up.refl _,rfl⟩
  rename_i x hx
  have hm:=List.mem_of_getElem? hx
  obtain ⟨x1,x2,x3⟩:=hA.sf.bg x hm
  obtain ⟨j,hj,ej⟩:=T.sur _ _ x3
  have hA1:=hA.lose k
  have et:(A.lose k).toEdge x.t x.f=j:=by rw [← ej]; exact toEdge_eq hA1.sf hj
  obtain ⟨d,s,hd,hd1,hs⟩:=hA1.sf.at hj
  have hd0:A.side x.t j=some d:=hd
  have hb:=hA1.bd x.t j s d hs hd
  have e1:=en_at hd0
  have e1':=en_at hd
  have ho:=hA1.sf.out x.t j d hd
  have hw:=hA1.sf.wait x.t j d hd
  have hk:=hA1.sf.kept x.t j d hd
  have hsub:∀ p,p ∈ (lsOf (A.lose k)).bag→p ∈ (lsOf A).bag:=fun p hp=>by
    obtain ⟨y,hy,e⟩:=List.mem_map.1 hp
    exact List.mem_map.2 ⟨y,List.mem_of_mem_eraseIdx hy,e⟩
  obtain ⟨H,hI⟩:=hA.inv
  unfold AN.comes AN.tldOf
  dsimp only
  rw [et,hd]
  dsimp only
  cases hf:frmOf x.l with
  | none =>
    obtain ⟨bag',b1,b2,b3,b4,b5,b6⟩:=carry_ls hA1.sf hd (fun e=>e.inn none) (fun g hg=>by rw [show (d.2.inn none)=d.2 from rfl,ho] at hg; cases hg) hk hw
    refine ⟨⟨b3,bd_mono (b4 _ _ C hA1.bd (Nat.le_refl _) (fun x=>Nat.le_refl _)) (by omega),qt_eq b5 hA1.qt,H,?_⟩,up_eq (nodes_eq b5),b6⟩
    show LInv G T (lsOf (((A.lose k).modE x.t j (fun e=>e.inn none)).carry x.t j)) H no2 no2
    rw [b1]
    have e2:upd2 (lsOf (A.lose k)).en x.t j (d.2.inn none).outs=(lsOf A).en:=by
      funext a b
      simp only [upd2]
      split
      · rename_i c
        rw [c.1,c.2,e1]
        show (⟨d.2.first,d.2.wait,d.2.await,d.2.kept,[]⟩:En)=d.2
        rw [← ho]
      · rfl
    rw [e2]
    refine hI.less bag' (fun u v f hf2=>?_)
    rcases b2 u v f hf2 with h | h
    · exact hsub _ h
    · have h3:=h.2.2
      rw [show (d.2.inn none)=d.2 from rfl,ho] at h3; cases h3
  | some f =>
    have hfr:FrOk f:=by
      cases hsp:x.sp with
      | true=>rw [x2 hsp] at hf; cases hf
      | false =>
        obtain ⟨g,g1,g2⟩:=x1 hsp
        rw [g2,frmOf_enc g1] at hf; cases hf; exact g1
    obtain ⟨k1,k2⟩:=kok_inn hk (q:=some f) (fun g hg=>by cases hg; exact hfr)
    have hin:(T.nb x.t j,x.t,some f) ∈ (lsOf A).bag:=by
      rw [ej]; exact List.mem_map.2 ⟨x,hm,by rw [hf]⟩
    cases hfd:f.data with
    | false =>
      have ei:d.2.inn (some f)=d.2.ack f.seq:=by show (if f.data then _ else _)=_; rw [hfd]; rfl
      have el:d.2.tld (some f)=[]:=by show (if f.data then _ else _)=_; rw [hfd]; rfl
      obtain ⟨o1,o2,o3⟩:=ack_ok ho hw (by omega) f.seq
      rw [el]
      obtain ⟨bag',b1,b2,b3,b4,b5,b6⟩:=carry_ls hA1.sf hd (fun e=>e.inn (some f)) (by rw [ei]; exact o1) k1 (by rw [ei]; exact o2)
      rw [ei] at b1 b2 b4
      refine ⟨⟨b3,bd_mono (b4 _ _ C hA1.bd (by omega) (fun x=>Nat.le_refl _)) (by omega),qt_eq b5 hA1.qt,H,?_⟩,up_eq (nodes_eq b5),b6⟩
      show LInv G T (lsOf (((A.lose k).modE x.t j (fun e=>e.inn (some f))).carry x.t j)) H no2 no2
      rw [b1]
      have:=hI.ack hj hin hfd bag' (fun a b g hg=>by
        rw [e1]
        exact (b2 a b g hg).imp_left (hsub _))
      rw [e1] at this
      exact this
    | true =>
      have ei:d.2.inn (some f)=d.2.came f.seq f.m:=by show (if f.data then _ else _)=_; rw [hfd]; rfl
      have el:d.2.tld (some f)=d.2.told f.seq f.m:=by show (if f.data then _ else _)=_; rw [hfd]; rfl
      obtain ⟨o1,o2,o3⟩:=came_ok ho f.seq f.m
      obtain ⟨bag',b1,b2,b3,b4,b5,b6⟩:=carry_ls hA1.sf hd (fun e=>e.inn (some f)) (by rw [ei]; exact o1) k1 (by rw [ei,o2]; exact hw)
      rw [ei] at b1 b2 b4
      have h1:=hI.came hj hin hfd bag' (fun a b g hg=>by
        rw [e1]
        exact (b2 a b g hg).imp_left (hsub _))
      rw [e1] at h1
      have h2:LInv G T (lsOf (((A.lose k).modE x.t j (fun e=>e.inn (some f))).carry x.t j)) H (upd2 no2 (T.nb x.t j) x.t (d.2.told f.seq f.m)) no2:=by
        rw [b1]; exact h1
      have hlen:(d.2.tld (some f)).length≤4:=by
        rw [el]
        obtain ⟨i,hi,ei2⟩:=back T hj
        have hD:=hI.dir (T.nb x.t j) i j hi (by rw [ei2]; exact hj) (by rw [ei2])
        have h4:=hD.four
        rw [ei2,e1] at h4
        have hr:∀ l:List (Option Fr.Msg),(En.ready l).length≤l.length:=by
          intro l
          induction l with
          | nil=>exact Nat.le_refl _
          | cons a r ih =>
            cases a with
            | none=>exact Nat.zero_le _
            | some y=>simp only [En.ready,List.length_cons]; omega
        have h5:=hr (d.2.keep f.seq f.m).kept
        have h6:(d.2.keep f.seq f.m).kept.length=d.2.kept.length:=by
          unfold En.keep
          split
          · split <;> simp
          · rfl
        unfold En.told
        omega
      obtain ⟨c1,c2,c3⟩:=takes_ls hn hdg hj (d.2.tld (some f)) (A:=((A.lose k).modE x.t j (fun e=>e.inn (some f))).carry x.t j) (C:=C) b3 (b4 _ _ C hA1.bd (by rw [o2,o3]; exact Nat.le_refl _) (fun x=>Nat.le_refl _)) (qt_eq b5 hA1.qt) (by rw [el]; exact h2) k2 (by omega)
      exact ⟨c1.mono (by omega),Up.trans (up_eq (nodes_eq b5)) c2,c3.trans b6⟩
def ed3 (e:E3):Ed:=⟨(e.a:Int),(e.b:Int),(e.w:Int)⟩
theorem own_ed3 (u : Nat) : ∀ L : List E3, ownE u (L.map ed3) = (own u L).map ed3
  | []=>rfl
  | e :: L=>by
    have h:=own_ed3 u L
    unfold ownE own at h ⊢
    rw [List.map_cons,List.filter_cons,List.filter_cons]
    by_cases c:e.a=u∨e.b=u
    · have c1:decide ((ed3 e).a=(u:Int)∨(ed3 e).b=(u:Int))=true:=decide_eq_true (by show (e.a:Int)=(u:Int)∨(e.b:Int)=(u:Int); omega)
      have c2:(e.a == u || e.b == u)=true:=by simp; omega
      rw [if_pos c1,if_pos c2,List.map_cons,h]
    · have c1:¬ decide ((ed3 e).a=(u:Int)∨(ed3 e).b=(u:Int))=true:=fun c1=>by
        have c1':(e.a:Int)=(u:Int)∨(e.b:Int)=(u:Int):=of_decide_eq_true c1
        omega
      have c2:¬ (e.a == u || e.b == u)=true:=by simp; omega
      rw [if_neg c1,if_neg c2,h]
theorem fresh_sps (n:Nat) (es:List Ed) (u:Nat):(AN.fresh n es).sps[u]?=if u < n then some (freshS es u) else none:=by
  unfold AN.fresh
  simp only [List.getElem?_map]
  by_cases h:u < n
  · rw [List.getElem?_range h,if_pos h]; rfl
  · rw [if_neg h,List.getElem?_eq_none (by simp; omega)]; rfl
theorem topL_nb {n:Nat} {L:List E3} (h:Simple n L) (u j:Nat) (e:E3) (he:(own u L)[j]?=some e):(topL h).nb u j=other u e:=by
  show (match (own u L)[j]? with | some e=>other u e | none=>0)=_
  rw [he]
theorem fresh_side {n:Nat} {L:List E3} (h:Simple n L) (u j:Nat):(AN.fresh n (L.map ed3)).side u j=if j < (topL h).dg u then some ((topL h).nb u j,En.new) else none:=by
  rw [side_at,fresh_sps]
  have hdg:(topL h).dg u=(own u L).length:=rfl
  rw [hdg]
  by_cases hu:u < n
  · rw [if_pos hu]
    simp only [Option.bind_some,freshS,List.getElem?_map,own_ed3]
    by_cases hj:j < (own u L).length
    · rw [if_pos hj,List.getElem?_eq_getElem hj]
      simp only [Option.map_some,Option.some.injEq,Prod.mk.injEq,and_true]
      rw [topL_nb h u j _ (List.getElem?_eq_getElem hj)]
      unfold other ed3
      dsimp only
      omega
    · rw [if_neg hj,List.getElem?_eq_none (by omega)]; rfl
  · rw [if_neg hu]
    have:(own u L).length=0:=by
      rw [List.length_eq_zero_iff]
      apply List.eq_nil_iff_forall_not_mem.2
      intro e he
      obtain ⟨h1,h2⟩:=own_mem.1 he
      have:=h.ok e h1
      omega
    rw [this,if_neg (Nat.not_lt_zero _)]; rfl
theorem AI.fresh {n:Nat} {L:List E3} (h:Simple n L) (hw:∀ (u:Nat) (s:AS),(AN.fresh n (L.map ed3)).sps[u]?=some s→NWell s.n):AI (topL h) (AN.fresh n (L.map ed3)) 1:=by
  have hg:∀ u j d,(AN.fresh n (L.map ed3)).side u j=some d→d.2=En.new:=fun u j d hd=>by
    rw [fresh_side h] at hd
    split at hd
    · cases hd; rfl
    · cases hd
  have hn:∀ (u:Nat) (s:AS),(AN.fresh n (L.map ed3)).sps[u]?=some s→s.n=Nod.new (wts (ownE u (L.map ed3))):=fun u s hs=>by
    rw [fresh_sps] at hs
    split at hs
    · cases hs; rfl
    · cases hs
  refine ⟨⟨fun u j=>?_,(fun x hx=>by cases hx),fun u j d hd=>?_,fun u j d hd=>?_,fun u j d hd=>?_,hw⟩,fun u j s d hs hd=>?_,fun u s hs=>?_,fun _ _=>[],?_⟩
  · rw [fresh_side h]; split <;> rfl
  · rw [hg u j d hd]
    intro m hm
    simp [En.new] at hm
  · rw [hg u j d hd]
    intro m hm
    simp [En.new] at hm
  · rw [hg u j d hd]; rfl
  · rw [hg u j d hd,hn u s hs]
    exact Nat.le_refl _
  · rw [hn u s hs]; rfl
  · refine LInv.start _ _ _ (fun u=>?_) (fun u j=>?_) rfl
    · unfold lsOf
      dsimp only
      rw [fresh_sps]
      have hdg:(topL h).dg u=(own u L).length:=rfl
      by_cases hu:u < n
      · rw [if_pos hu]
        show Nod.new (wts (ownE u (L.map ed3)))=_
        congr 1
        rw [own_ed3]
        apply List.ext_getElem?
        intro j
        unfold wts
        rw [List.getElem?_map,List.getElem?_map,List.getElem?_map,hdg]
        by_cases hj:j < (own u L).length
        · rw [List.getElem?_range hj,List.getElem?_eq_getElem hj]
          simp only [Option.map_some,Option.some.injEq]
          rw [topL_nb h u j _ (List.getElem?_eq_getElem hj)]
          have:=(w_other h (List.getElem_mem hj)).1
          show (ed3 (own u L)[j]).wt.toNat=wOf L u (other u (own u L)[j])
          rw [this]; rfl
        · rw [List.getElem?_eq_none (by omega),List.getElem?_eq_none (by simp; omega)]; rfl
      · rw [if_neg hu]
        have:(own u L).length=0:=by
          rw [List.length_eq_zero_iff]
          apply List.eq_nil_iff_forall_not_mem.2
          intro e he
          obtain ⟨h1,h2⟩:=own_mem.1 he
          have:=h.ok e h1
          omega
        rw [hdg,this]; rfl
    · unfold lsOf
      dsimp only
      rw [fresh_side h]
      split
      · rename_i d hd
        split at hd
        · cases hd; rfl
        · cases hd
      · rfl
theorem AI.br {n:Nat} {L:List E3} {h:Simple n L} {A:AN} {C:Nat} (hA:AI (topL h) A C) {u j:Nat} (hj:j < (topL h).dg u):A.branch u ((topL h).nb u j)=true ↔ ((lsOf A).nodes u).st j=1:=by
  obtain ⟨d,s,hd,hd1,hs⟩:=hA.sf.at hj
  obtain ⟨H,hI⟩:=hA.inv
  obtain ⟨chan,hN,_⟩:=hI.net
  have hl:=hN.elen u
  rw [nodes_at hs] at hl ⊢
  unfold AN.branch Nod.st
  rw [hs]
  dsimp only
  rw [toEdge_eq hA.sf hj,List.getElem?_eq_getElem (by omega)]
  simp
theorem AI.edge {n:Nat} {L:List E3} {h:Simple n L} {A:AN} {C:Nat} (hA:AI (topL h) A C) {e:E3} (he:e ∈ L) (hb:A.branch e.a e.b=true∨A.branch e.b e.a=true):e ∈ (krs L).2:=by
  obtain ⟨H,hI⟩:=hA.inv
  obtain ⟨chan,hN,_⟩:=hI.net
  have key:∀ u v,(grL h).adj u v→A.branch u v=true→∃ x ∈ (krs L).2,(x.a=u∧x.b=v)∨(x.a=v∧x.b=u):=fun u v ha hb=>by
    obtain ⟨j,hj,ej⟩:=(topL h).sur u v ha
    have h1:=(hA.br hj).1 (by rw [ej]; exact hb)
    have h2:=hN.branch hj h1
    rw [ej] at h2
    rcases h2 with h2 | ⟨x,x1,x2⟩
    · exact h2
    · exact ⟨x,x1,x2.symm⟩
  have fin:(∃ x ∈ (krs L).2,(x.a=e.a∧x.b=e.b)∨(x.a=e.b∧x.b=e.a))→e ∈ (krs L).2:=fun ⟨x,x1,x2⟩=>by
    have hx:x ∈ L:=by
      rcases kr_from L _ x x1 with c | c
      · cases c
      · exact c
    have:x=e:=pw_eq h.one twin_symm hx he x2
    rw [← this]; exact x1
  rcases hb with hb | hb
  · exact fin (key e.a e.b ⟨e,he,Or.inl ⟨rfl,rfl⟩⟩ hb)
  · obtain ⟨x,x1,x2⟩:=key e.b e.a ⟨e,he,Or.inr ⟨rfl,rfl⟩⟩ hb
    exact fin ⟨x,x1,x2.symm⟩
theorem tree_mem {L:List E3} {A:AN} (hes:A.es=L.map ed3) (x:E3) (hx:x ∈ L):ed3 x ∈ A.tree ↔ A.branch x.a x.b=true∨A.branch x.b x.a=true:=by
  unfold AN.tree
  rw [List.mem_filter,hes,Bool.or_eq_true]
  have e1:(ed3 x).a.toNat=x.a:=rfl
  have e2:(ed3 x).b.toNat=x.b:=rfl
  rw [e1,e2]
  exact ⟨fun c=>c.2,fun c=>⟨List.mem_map.2 ⟨x,hx,rfl⟩,c⟩⟩
theorem AI.tree {n:Nat} {L:List E3} {h:Simple n L} {A:AN} {C:Nat} (hA:AI (topL h) A C) (hes:A.es=L.map ed3) {e:Ed} (he:e ∈ A.tree):e ∈ ((krs L).2).map ed3:=by
  have he2:e ∈ L.map ed3:=by rw [← hes]; exact (List.mem_filter.1 he).1
  obtain ⟨x,hx,rfl⟩:=List.mem_map.1 he2
  exact List.mem_map.2 ⟨x,hA.edge hx ((tree_mem hes x hx).1 he),rfl⟩
theorem AI.low {n:Nat} {L:List E3} {h:Simple n L} (hn:n≤8) {A:AN} {C:Nat} (hA:AI (topL h) A C) {u:Nat} (hu:u < n):((lsOf A).nodes u).level≤3:=by
  obtain ⟨H,hI⟩:=hA.inv
  obtain ⟨chan,hN,_⟩:=hI.net
  have h1:2 ^ ((lsOf A).nodes u).level≤n:=hN.low (u:=u) hu
  apply Classical.byContradiction
  intro hc
  have h2:2 ^ 4≤2 ^ ((lsOf A).nodes u).level:=Nat.pow_le_pow_right (by omega) (by omega)
  have:(2:Nat) ^ 4=16:=by decide
  omega
theorem AI.sleeps {n:Nat} {L:List E3} {h:Simple n L} {A:AN} {C:Nat} (hA:AI (topL h) A C) {u:Nat} (hs:((lsOf A).nodes u).state=0):((lsOf A).nodes u).level=0∧∀ e ∈ ((lsOf A).nodes u).edges,e.2=0:=by
  obtain ⟨H,hI⟩:=hA.inv
  obtain ⟨chan,hN,_⟩:=hI.net
  obtain ⟨h1,h2⟩:=hN.sleeps hs
  refine ⟨h1,fun e he=>?_⟩
  obtain ⟨j,hj,rfl⟩:=List.getElem_of_mem he
  have:=h2 j (by rw [← hN.elen u]; exact hj)
  unfold Nod.st at this
  rw [List.getElem?_eq_getElem hj] at this
  exact this
theorem AI.over {n:Nat} {L:List E3} {h:Simple n L} {A:AN} {C:Nat} (hA:AI (topL h) A C) (hes:A.es=L.map ed3) (hconn:∀ S:Nat→Prop,S 0→(∀ e ∈ L,S e.a ↔ S e.b)→∀ k,k < n→S k) {u:Nat} (hu:u < n) (ho:((lsOf A).nodes u).over=true):n≤A.tree.length + 1:=by
  obtain ⟨H,hI⟩:=hA.inv
  obtain ⟨chan,hN,_⟩:=hI.net
  obtain ⟨c,c1,p,p1,p2⟩:=hN.over ho hu (fun S hS hcl z hz=>by
    have hcl2:∀ e ∈ L,S e.a ↔ S e.b:=fun e he=>⟨fun x=>hcl _ _ x ⟨e,he,Or.inl ⟨rfl,rfl⟩⟩,fun x=>hcl _ _ x ⟨e,he,Or.inr ⟨rfl,rfl⟩⟩⟩
    by_cases h0:S 0
    · exact hconn S h0 hcl2 z hz
    · have:=hconn (fun k=>¬ S k) h0 (fun e he=>not_congr (hcl2 e he)) u hu
      exact (this hS).elim)
  have h2:=span_len (E:=L.filter (fun e=>A.branch e.a e.b || A.branch e.b e.a)) c1 p (fun z hz hzc=>by
    obtain ⟨j,hj,ej,es⟩:=p1 z hz hzc
    have hb:=(hA.br hj).2 es
    obtain ⟨e,he,hh⟩:=(topL h).adj z j hj
    rw [ej] at hb hh
    refine ⟨e,List.mem_filter.2 ⟨he,?_⟩,hh⟩
    rw [Bool.or_eq_true]
    rcases hh with ⟨e1,e2⟩ | ⟨e1,e2⟩
    · left; rw [e1,e2]; exact hb
    · right; rw [e1,e2]; exact hb) p2
  have h3:A.tree=(L.filter (fun e=>A.branch e.a e.b || A.branch e.b e.a)).map ed3:=by
    unfold AN.tree
    rw [hes,List.filter_map]
    rfl
  rw [h3,List.length_map]
  exact h2
end Go.Proofs.YtlfijfodklhplaaGreat.Ghs
namespace Go.Proofs.YtlfijfodklhplaaGreat
open Go.RowKit
def nks (N:Nat) (f:Nat→Nat):Array Value:=((List.range N).map (fun i=>Value.int .i64 (f i:Int))).toArray
theorem nks_get {N:Nat} {f:Nat→Nat} {k:Nat} (hk:k < N):(nks N f)[k]?=some (.int .i64 (f k:Int)):=by
  unfold nks
  simp [hk]
theorem nks_ext {N:Nat} {f g:Nat→Nat} (h:∀ k,k < N→f k=g k):nks N f=nks N g:=by
  unfold nks
  congr 1
  refine List.map_congr_left (fun k hk=>?_)
  rw [h k (List.mem_range.1 hk)]
theorem nks_set {N:Nat} {f:Nat→Nat} {k:Nat} (v:Nat):(nks N f).setIfInBounds k (.int .i64 (v:Int))=nks N (fun i=>if i=k then v else f i):=by
  unfold nks
  apply Array.ext
  · simp
  · intro i h1 h2
    simp [List.getElem_set]
    by_cases e:k=i
    · subst e; simp
    · simp [e,Ne.symm e]
theorem mk_ints (N:Nat) (w:World) (h1:1≤N) (h2:N≤8):(Instr.makeSlice 25 (.int .i64 (N:Int)) (.int .i64 (N:Int))).run Tryz.prog w=.ok (.slice (some ⟨w.heap.size,0,none⟩) N N) (w.alloc (.cells (nks N (fun _=>0)) 3)):=by
  obtain rfl | rfl | rfl | rfl | rfl | rfl | rfl | rfl:N=1∨N=2∨N=3∨N=4∨N=5∨N=6∨N=7∨N=8:=by omega
  all_goals
    clear h1 h2
    kernel_rfl
structure LgS (w wx : World) (g N : Nat) (f : Nat → Nat) (F : List Ed) (a : Option Addr) (c : Nat) : Prop where
  blk:Blk wx g (nks N f) 3
  new:w.heap.size≤g
  tre:Tre w wx F a c
  far:¬ inB a g
theorem LgS.keepN {w wx w1:World} {g N:Nat} {f:Nat→Nat} {F:List Ed} {a:Option Addr} {c:Nat} (h:LgS w wx g N f F a c) (k:Keep nil wx w1):LgS w w1 g N f F a c:=⟨h.blk.keep k id,h.new,h.tre.keepN k,h.far⟩
theorem LgS.set {w wx:World} {g N:Nat} {f:Nat→Nat} {F:List Ed} {a:Option Addr} {c:Nat} (h:LgS w wx g N f F a c) (k v:Nat):LgS w (wx.setCell ⟨g,k,none⟩ (.int .i64 (v:Int))) g N (fun i=>if i=k then v else f i) F a c:=by
  have ks:Keep (only g) wx (wx.setCell ⟨g,k,none⟩ (.int .i64 (v:Int))):=(Keep.refl (only g) wx).setCell (p:=⟨g,k,none⟩) (fun _=>rfl) _
  refine ⟨?_,h.new,⟨h.tre.keep.trans' ks (fun i hi e=>by simp only [only] at e; have:=h.new; omega),h.tre.row.keep ks (fun i hi e=>by simp only [only] at e; exact h.far (e ▸ hi)),h.tre.new⟩,h.far⟩
  have:=h.blk.set k (.int .i64 (v:Int))
  rwa [nks_set] at this
theorem LgS.next {w wr w6:World} {g N:Nat} {f:Nat→Nat} {F:List Ed} {a a':Option Addr} {c c':Nat} (h:LgS w wr g N f F a c) (x:Ed) {o:Obj} (hb:RV w6 30 3 a' (F.length + 1) c' (ecells F++[.int .i64 x.a,.int .i64 x.b,.int .i64 x.wt])) (hd:(a'=a∧c'=c)∨(a'=some ⟨(wr.alloc o).heap.size,0,none⟩∧Keep nil (wr.alloc o) w6)) (hk:Keep (inB a) wr w6):LgS w w6 g N f (F++[x]) a' c':=by
  refine ⟨h.blk.keep hk h.far,h.new,h.tre.next x (Keep.refl nil wr) hb hd hk,?_⟩
  rcases hd with ⟨rfl,_⟩ | ⟨rfl,_⟩
  · exact h.far
  · intro e
    have h1:=h.blk.lt
    have h2:=inB_some.1 e
    simp only [World.size_alloc] at h2
    omega
theorem LgS.ext {w wx:World} {g N:Nat} {f f':Nat→Nat} {F:List Ed} {a:Option Addr} {c:Nat} (h:LgS w wx g N f F a c) (e:∀ k,k < N→f k=f' k):LgS w wx g N f' F a c:=⟨by rw [← nks_ext e]; exact h.blk,h.new,h.tre,h.far⟩
def lgW (M:List Ghs.E3) (V:Nat):(Nat→Nat) × List Ghs.E3:=(List.range' 1 V).foldl (fun c w=>M.foldl (fun c e=>if e.w=w then Ghs.krOne c e else c) c) (fun k=>k,[])
def lgI (M:List Ghs.E3) (V i:Nat):(Nat→Nat) × List Ghs.E3:=(M.take i).foldl (fun c e=>if e.w=V + 1 then Ghs.krOne c e else c) (lgW M V)
theorem lgW_succ (M:List Ghs.E3) (V:Nat):lgW M (V + 1)=lgI M V M.length:=by
  unfold lgI
  rw [List.take_length]
  unfold lgW
  rw [List.range'_concat,List.foldl_append]
  simp only [List.foldl_cons,List.foldl_nil,Nat.one_mul,Nat.add_comm 1 V]
theorem lgI_succ {M:List Ghs.E3} (V:Nat) {i:Nat} {e:Ghs.E3} (h:M[i]?=some e):lgI M V (i + 1)=if e.w=V + 1 then Ghs.krOne (lgI M V i) e else lgI M V i:=by
  unfold lgI
  rw [take_succ_get h,List.foldl_append]
  rfl
theorem krOne_len (c:(Nat→Nat) × List Ghs.E3) (e:Ghs.E3):(Ghs.krOne c e).2.length≤c.2.length + 1:=by
  unfold Ghs.krOne; split <;> simp
theorem lgI_len {M:List Ghs.E3} (hl:M.length≤24):∀ V,(lgW M V).2.length≤V * 24∧∀ i,i≤M.length→(lgI M V i).2.length≤V * 24 + i:=by
  have key:∀ V,(lgW M V).2.length≤V * 24→∀ i,i≤M.length→(lgI M V i).2.length≤V * 24 + i:=fun V h i=>by
    induction i with
    | zero=>intro _; unfold lgI; simp; exact h
    | succ i ih =>
      intro hi
      have hg:M[i]?=some M[i]:=List.getElem?_eq_getElem (by omega)
      rw [lgI_succ V hg]
      have:=ih (by omega)
      split
      · have:=krOne_len (lgI M V i) M[i]; omega
      · omega
  intro V
  induction V with
  | zero=>exact ⟨by simp [lgW],key 0 (by simp [lgW])⟩
  | succ V ih =>
    have h1:(lgW M (V + 1)).2.length≤(V + 1) * 24:=by
      rw [lgW_succ]
      have:=ih.2 M.length (Nat.le_refl _)
      omega
    exact ⟨h1,key _ h1⟩
theorem lgW_all (M:List Ghs.E3):lgW M 1000=Ghs.krs (Ghs.inOrder M):=Ghs.krs_loops M
set_option maxRecDepth 100000 in
set_option maxHeartbeats 4000000 in
theorem klight_any (n:Nat) (M:List Ghs.E3) (sa:Option Addr) (sc:Nat) (w:World) (hr:RV w 30 3 sa M.length sc (ecells (M.map Ghs.ed3))) (h1:1≤n) (h8:n≤8) (hl:M.length≤24) (hM:∀ e ∈ M,e.a < n∧e.b < n∧1≤e.w∧e.w≤1000) :
    Calls Tryz.prog 18 #[.int .i64 (n:Int),.slice sa M.length sc] w fun r w'=>∃ a c,r=.returned (.slice a (Ghs.krs (Ghs.inOrder M)).2.length c)∧Tre w w' ((Ghs.krs (Ghs.inOrder M)).2.map Ghs.ed3) a c:=by
  rw [← lgW_all]
  have H:Unit→RV w 30 3 sa M.length sc (ecells (M.map Ghs.ed3))∧1≤n∧n≤8∧M.length≤24∧∀ e ∈ M,e.a < n∧e.b < n∧1≤e.w∧e.w≤1000:=fun _=>⟨hr,h1,h8,hl,hM⟩
  have hmk:=fun w=>mk_ints n w h1 h8
  have hn1:(0:Int) < (n:Int):=by omega
  have hn8:(n:Int)≤8:=by omega
  obtain ⟨ml,hml⟩:∃ ml,ml=M.length:=⟨_,rfl⟩
  have HML:Unit→ml=M.length∧ml≤24:=fun _=>⟨hml,by omega⟩
  rw [← hml]
  clear hr h1 h8 hl hM hml
  go_enter Tryz.func18,Tryz.ntmps18
  go_wp2_with fail
  obtain ⟨W1,hW1⟩:∃ W1,W1=w.alloc (.cells (nks n (fun _=>0)) 3):=⟨_,rfl⟩
  obtain ⟨g,hg⟩:∃ g,g=w.heap.size:=⟨_,rfl⟩
  rw [← hW1,← hg]
  have H1:Unit→LgS w W1 g n (fun _=>0) [] none 0:=fun _=>by
    rw [hW1,hg]
    exact ⟨Blk.new _ _ _,Nat.le_refl _,⟨(Keep.refl nil w).alloc _,RV.nil _ _ _,fun g hg=>(inB_none g hg).elim⟩,fun e=>inB_none _ e⟩
  clear hW1 hg hmk
  go_loopw [6] (fun v wx=>∃ i:Nat,i≤n∧v=.int .i64 (i:Int)∧LgS w wx g n (fun k=>if k < i then k else 0) [] none 0) (fun v _=>n - (intOf v).toNat)
  case atStart=>exact ⟨0,Nat.zero_le _,rfl,(H1 ()).ext (fun k _=>by simp)⟩
  case round =>
    clear H1
    obtain ⟨i,hi,rfl,hs⟩:=hrel
    have HS:Unit→LgS w wr g n (fun k=>if k < i then k else 0) [] none 0:=fun _=>hs
    by_cases hil:i < n
    · have z1:=hs.blk.cell i
      rw [nks_get hil] at z1
      have zf:=hs.blk.frozen i
      have hgl:=hs.blk.lt
      have hiI:(i:Int) < (n:Int):=by omega
      have HIL:Unit→i < n:=fun _=>hil
      clear hs hi hil
      go_wp2_with fail
      refine ⟨⟨i + 1,by have:=HIL (); omega,by go_num,((HS ()).set i i).ext (fun k hk=>?_)⟩,by have:=HIL (); simp [intOf]; omega⟩
      by_cases e:k=i
      · subst e; simp
      · by_cases e2:k < i
        · simp [e,e2]; omega
        · simp [e,e2]; omega
    · have hiI:¬ ((i:Int) < (n:Int)):=by omega
      have HS2:Unit→LgS w wr g n (lgW M 0).1 ((lgW M 0).2.map Ghs.ed3) none 0:=fun _=>hs.ext (fun k hk=>by rw [if_pos (by omega)]; rfl)
      clear hs hi hil HS
      go_wp2_with fail
      go_loopw [7,8] (fun u v wx=>∃ (V:Nat) (a:Option Addr) (c:Nat),(V:Int)≤1000∧v=.int .i64 ((V:Int) + 1)∧u=.slice a (lgW M V).2.length c∧LgS w wx g n (lgW M V).1 ((lgW M V).2.map Ghs.ed3) a c) (fun _ v _=>1001 - (intOf v).toNat)
      case atStart=>exact ⟨0,none,0,by omega,rfl,rfl,HS2 ()⟩
      case round =>
        clear HS2
        obtain ⟨V,a,c,hV,rfl,rfl,hs⟩:=hrel
        by_cases hVl:(V:Int) < 1000
        · --@P w
          have HS:Unit→LgS w wr g n (lgI M V 0).1 ((lgI M V 0).2.map Ghs.ed3) a c:=fun _=>hs
          have hV1:(V:Int) + 1≤1000:=by omega
          have e0:(lgW M V).2.length=(lgI M V 0).2.length:=rfl
          rw [e0]
          have hVw:IntKind.i64.wrap ((V:Int) + 1 + 1)=(V:Int) + 1 + 1:=by rw [IntKind.wrap_i64]; omega
          clear hs hV e0
          go_wp2_with fail
          go_loopw [7,9] (fun u v wx=>∃ (i:Nat) (a:Option Addr) (c:Nat),i≤ml∧v=.int .i64 (i:Int)∧u=.slice a (lgI M V i).2.length c∧LgS w wx g n (lgI M V i).1 ((lgI M V i).2.map Ghs.ed3) a c) (fun _ v _=>ml - (intOf v).toNat)
          case atStart=>exact ⟨0,a,c,Nat.zero_le _,rfl,rfl,HS ()⟩
          case round =>
            clear HS
            obtain ⟨i,a,c,hi,rfl,rfl,hs⟩:=hrel
            have HS:Unit→LgS w wr g n (lgI M V i).1 ((lgI M V i).2.map Ghs.ed3) a c:=fun _=>hs
            by_cases hil:i < ml
            · --@P i
              obtain ⟨e,he⟩:∃ e,M[i]?=some e:=⟨_,List.getElem?_eq_getElem (by have:=HML (); omega)⟩
              have HE:Unit→M[i]?=some e∧i < ml:=fun _=>⟨he,hil⟩
              have hin:=(H ()).2.2.2.2 e (List.mem_of_getElem? he)
              have hmt:(M.map Ghs.ed3)[i]?=some (Ghs.ed3 e):=by rw [List.getElem?_map,he]; rfl
              obtain ⟨b,q,hba,hbl,e0,e1,e2⟩:=edge_at ((H ()).1.keep hs.tre.keep (fun _ _ e=>e)) hmt (by have:=HML (); omega)
              have z1:=hs.blk.cell e.a
              have z2:=hs.blk.cell e.b
              rw [nks_get hin.1] at z1
              rw [nks_get hin.2.1] at z2
              have hgl:=hs.blk.lt
              have hiI:(i:Int) < (ml:Int):=by omega
              have hi9:(i:Int) < 24:=by have:=HML (); omega
              obtain ⟨f,hf⟩:∃ f,f=(lgI M V i).1:=⟨_,rfl⟩
              obtain ⟨F,hF⟩:∃ F,F=(lgI M V i).2:=⟨_,rfl⟩
              have HSC:Unit→lgI M V (i + 1)=if e.w=V + 1 then Ghs.krOne (f,F) e else (f,F):=fun _=>by rw [lgI_succ V (HE ()).1,hf,hF]
              have HFL:Unit→F.length≤24024:=fun _=>by
                have:=(lgI_len (H ()).2.2.2.1 V).2 i (by have:=HML (); omega)
                have:=HML ()
                rw [hF]
                omega
              rw [← hf,← hF] at HS
              rw [← hf] at z1 z2
              rw [← hF]
              clear hf hF
              obtain ⟨x,y,z⟩:=e
              simp only [Ghs.ed3] at e0 e1 e2 z1 z2 hin
              have hxI:(x:Int) < (n:Int):=by omega
              have hyI:(y:Int) < (n:Int):=by omega
              subst hba
              clear hs hi hil he hmt hin
              obtain ⟨fx,hfx⟩:∃ fx,fx=f x:=⟨_,rfl⟩
              obtain ⟨fy,hfy⟩:∃ fy,fy=f y:=⟨_,rfl⟩
              have HF:Unit→fx=f x∧fy=f y:=fun _=>⟨hfx,hfy⟩
              rw [← hfx] at z1
              rw [← hfy] at z2
              clear hfx hfy
              obtain ⟨fl,hfl⟩:∃ fl,fl=F.length:=⟨_,rfl⟩
              have HFF:Unit→fl=F.length:=fun _=>hfl
              rw [← hfl]
              clear hfl
              go_wp2_with fail
              obtain ⟨W2,hW2⟩:∃ W2,W2=wr.alloc (.cells #[.int .i64 (x:Int),.int .i64 (y:Int),.int .i64 (z:Int)] 30):=⟨_,rfl⟩
              obtain ⟨eb,heb⟩:∃ eb,eb=wr.heap.size:=⟨_,rfl⟩
              have hb2:Blk W2 eb #[.int .i64 (x:Int),.int .i64 (y:Int),.int .i64 (z:Int)] 30:=by rw [hW2,heb]; exact Blk.new _ _ _
              have k2:Keep nil wr W2:=by rw [hW2]; exact (Keep.refl nil wr).alloc _
              rw [← hW2,← heb]
              have H2:Unit→LgS w W2 g n f (F.map Ghs.ed3) a c:=fun _=>(HS ()).keepN k2
              have hfe:¬ inB a eb:=fun e=>by have:=(HS ()).tre.row.lt eb e; omega
              have c0:W2.cell? ⟨eb,0,none⟩=some (.int .i64 (x:Int)):=by rw [hb2.cell]; rfl
              have c1:W2.cell? ⟨eb,1,none⟩=some (.int .i64 (y:Int)):=by rw [hb2.cell]; rfl
              have c2:W2.cell? ⟨eb,2,none⟩=some (.int .i64 (z:Int)):=by rw [hb2.cell]; rfl
              have hel:=hb2.lt
              have HB2:Unit→Blk W2 eb #[.int .i64 (x:Int),.int .i64 (y:Int),.int .i64 (z:Int)] 30:=fun _=>hb2
              have z1:=(k2.cell g _ hgl id).trans z1
              have z2:=(k2.cell g _ hgl id).trans z2
              have hgl:g < W2.heap.size:=Nat.lt_of_lt_of_le hgl k2.size
              clear hW2 heb hb2 k2 HS e0 e1 e2 hbl
              by_cases hzw:z=V + 1
              · have HZW:Unit→z=V + 1:=fun _=>hzw
                have hzI:(z:Int)=(V:Int) + 1:=by omega
                rw [hzI] at c2
                clear hzw hzI
                by_cases hff:fx=fy
                · --@P eq
                  have HFE:Unit→fx=fy:=fun _=>hff
                  rw [← hff] at z2
                  clear hff
                  go_quiet (fail)
                  have HK2:Unit→Keep nil W2 (W2.drewN nq):=fun _=>(Keep.refl nil W2).drewN nq
                  clear c0 c1 c2 z1 z2 hel hgl
                  go_wp2
                  have h1:lgI M V (i + 1)=(f,F):=by
                    rw [HSC (),if_pos (HZW ())]
                    unfold Ghs.krOne
                    rw [if_pos (by dsimp only; rw [← (HF ()).1,← (HF ()).2]; exact HFE ())]
                  refine ⟨⟨i + 1,a,c,by have:=HE (); omega,by go_num,by rw [h1,HFF ()],by rw [h1]; exact (H2 ()).keepN (HK2 ())⟩,by have:=HE (); simp [intOf]; omega⟩
                · --@P ne
                  have HFE:Unit→¬ fx=fy:=fun _=>hff
                  have hffB:((fx:Int) == (fy:Int))=false:=by rw [nat_beq]; simpa using hff
                  clear hff
                  go_quiet (fail)
                  obtain ⟨W3,hW3⟩:∃ W3,W3=W2.drewN nq:=⟨_,rfl⟩
                  have k3:Keep nil W2 W3:=by rw [hW3]; exact (Keep.refl nil W2).drewN nq
                  rw [← hW3]
                  have H3:Unit→LgS w W3 g n f (F.map Ghs.ed3) a c∧Blk W3 eb #[.int .i64 (x:Int),.int .i64 (y:Int),.int .i64 (z:Int)] 30:=fun _=>⟨(H2 ()).keepN k3,(HB2 ()).keep k3 id⟩
                  have c0:=(k3.cell eb _ hel id).trans c0
                  have c1:=(k3.cell eb _ hel id).trans c1
                  have c2:=(k3.cell eb _ hel id).trans c2
                  have hel:eb < W3.heap.size:=Nat.lt_of_lt_of_le hel k3.size
                  have z1:=(k3.cell g _ hgl id).trans z1
                  have z2:=(k3.cell g _ hgl id).trans z2
                  have hgl:g < W3.heap.size:=Nat.lt_of_lt_of_le hgl k3.size
                  clear hW3 k3 H2 HB2
                  have HR3:Unit→RV W3 30 3 a fl c (ecells (F.map Ghs.ed3)):=fun _=>by
                    have h1:=(H3 ()).1.tre.row
                    rw [List.length_map,← HFF ()] at h1
                    exact h1
                  obtain ⟨ls,hls⟩:∃ ls,ls=ecells (F.map Ghs.ed3):=⟨_,rfl⟩
                  rw [← hls] at HR3
                  have HLS:Unit→ls=ecells (F.map Ghs.ed3):=fun _=>hls
                  have hga:¬ inB a g:=(H3 ()).1.far
                  clear hls
                  go_wp2_with (at_builtin; refine wpList_append_rvS _ rfl (.tmp 56) (.tmp 58) 26 rfl 30 (.agg #[.int .i64 0,.int .i64 0,.int .i64 0]) 3 24 Tryz.underlying26 edge_info rfl a fl c rfl ls ((HR3 ()).alloc _) ⟨W3.heap.size,0,none⟩ 1 1 (by omega) rfl [.int .i64 (x:Int),.int .i64 (y:Int),.int .i64 ((V:Int) + 1)] rfl (cells_elist W3 [.int .i64 (x:Int),.int .i64 (y:Int),.int .i64 ((V:Int) + 1)] 30 _ rfl) (by intro u hu; simp at hu; rcases hu with rfl | rfl | rfl <;> rfl) (by have:=HFL (); have:=HFF (); omega) (by have:=HFL (); have:=HFF (); omega) ?_; intro a' c' w6 hb6 hd6 hk6; have hk7:Keep (inB a) W3 w6:=((Keep.refl (inB a) W3).alloc _).trans hk6; have c0:=(hk7.cell eb _ hel hfe).trans c0; have c1:=(hk7.cell eb _ hel hfe).trans c1; have hel:eb < w6.heap.size:=Nat.lt_of_lt_of_le hel hk7.size; have z1:=(hk7.cell g _ hgl hga).trans z1; have z2:=(hk7.cell g _ hgl hga).trans z2; have hgl:g < w6.heap.size:=Nat.lt_of_lt_of_le hgl hk7.size)
                  have H6:Unit→LgS w w6 g n f ((F++[Ghs.E3.mk x y z]).map Ghs.ed3) a' c':=fun _=>by
                    rw [List.map_append]
                    refine (H3 ()).1.next (Ghs.ed3 ⟨x,y,z⟩) ?_ hd6 hk7
                    rw [List.length_map,← HFF (),← HLS ()]
                    have e9:(Ghs.ed3 ⟨x,y,z⟩).wt=(V:Int) + 1:=by show (z:Int)=_; have:=HZW (); omega
                    rw [e9]
                    exact hb6
                  clear hb6 hd6 hk6 hk7 c0 c1 z1 z2 hel H3 HR3 HLS
                  go_loopw [13] (fun v wx=>∃ k:Nat,k≤n∧v=.int .i64 (k:Int)∧LgS w wx g n (fun j=>if j < k∧f j=fy then fx else f j) ((F++[Ghs.E3.mk x y z]).map Ghs.ed3) a' c') (fun v _=>n - (intOf v).toNat)
                  case atStart=>exact ⟨0,Nat.zero_le _,rfl,(H6 ()).ext (fun k _=>by simp)⟩
                  case round =>
                    clear H6
                    obtain ⟨k,hk,rfl,hs⟩:=hrel
                    have HS:Unit→LgS w wr g n (fun j=>if j < k∧f j=fy then fx else f j) ((F++[Ghs.E3.mk x y z]).map Ghs.ed3) a' c':=fun _=>hs
                    by_cases hkl:k < n
                    · have y1:=hs.blk.cell k
                      rw [nks_get hkl,if_neg (by omega)] at y1
                      have yf:=hs.blk.frozen k
                      have hgl:=hs.blk.lt
                      have hkI:(k:Int) < (n:Int):=by omega
                      have HKL:Unit→k < n:=fun _=>hkl
                      obtain ⟨fk,hfk⟩:∃ fk,fk=f k:=⟨_,rfl⟩
                      rw [← hfk] at y1
                      have HFK:Unit→fk=f k:=fun _=>hfk
                      clear hs hk hkl hfk
                      by_cases hfy:fk=fy
                      · have HFY:Unit→fk=fy:=fun _=>hfy
                        rw [hfy] at y1
                        clear hfy
                        go_wp2_with fail
                        refine ⟨⟨k + 1,by have:=HKL (); omega,by go_num,((HS ()).set k fx).ext (fun j hj=>?_)⟩,by have:=HKL (); simp [intOf]; omega⟩
                        by_cases e:j=k
                        · rw [if_pos e,if_pos ⟨by omega,by rw [e,← HFK ()]; exact HFY ()⟩]
                        · rw [if_neg e]
                          by_cases e2:j < k∧f j=fy
                          · rw [if_pos e2,if_pos ⟨by omega,e2.2⟩]
                          · rw [if_neg e2,if_neg (fun e3=>e2 ⟨by omega,e3.2⟩)]
                      · have HFY:Unit→¬ fk=fy:=fun _=>hfy
                        have hfB:((fk:Int) == (fy:Int))=false:=by rw [nat_beq]; simpa using hfy
                        have hfI:¬ ((fk:Int)=(fy:Int)):=by omega
                        clear hfy
                        go_wp2_with fail
                        refine ⟨⟨k + 1,by have:=HKL (); omega,by go_num,(HS ()).ext (fun j hj=>?_)⟩,by have:=HKL (); simp [intOf]; omega⟩
                        by_cases e2:j < k∧f j=fy
                        · rw [if_pos e2,if_pos ⟨by omega,e2.2⟩]
                        · rw [if_neg e2,if_neg (fun e3=>by
                            by_cases e:j=k
                            · exact HFY () (by rw [HFK (),← e]; exact e3.2)
                            · exact e2 ⟨by omega,e3.2⟩)]
                    · have hkI:¬ ((k:Int) < (n:Int)):=by omega
                      have HS2:Unit→LgS w wr g n (lgI M V (i + 1)).1 ((lgI M V (i + 1)).2.map Ghs.ed3) a' c'∧(lgI M V (i + 1)).2.length=fl + 1:=fun _=>by
                        have h1:lgI M V (i + 1)=(fun j=>if f j=f y then f x else f j,F++[Ghs.E3.mk x y z]):=by
                          rw [HSC (),if_pos (HZW ())]
                          unfold Ghs.krOne
                          rw [if_neg (by dsimp only; rw [← (HF ()).1,← (HF ()).2]; exact HFE ())]
                        rw [h1]
                        refine ⟨hs.ext (fun j hj=>?_),by simp [HFF ()]⟩
                        dsimp only
                        rw [← (HF ()).1,← (HF ()).2]
                        by_cases e:f j=fy
                        · rw [if_pos e,if_pos ⟨by omega,e⟩]
                        · rw [if_neg e,if_neg (fun e2=>e e2.2)]
                      clear hs hk hkl HS
                      go_wp2
                      refine ⟨⟨i + 1,a',c',by have:=HE (); omega,by go_num,by rw [(HS2 ()).2],(HS2 ()).1⟩,by have:=HE (); simp [intOf]; omega⟩
              · --@P wt
                have HZW:Unit→¬ z=V + 1:=fun _=>hzw
                have hzI:((z:Int) == (V:Int) + 1)=false:=beq_eq_false_iff_ne.2 (by omega)
                have hzN:((z:Int) != (V:Int) + 1)=true:=by simp only [bne,hzI]; rfl
                have hzD:decide ((z:Int)=(V:Int) + 1)=false:=decide_eq_false (by omega)
                clear hzw
                go_quiet (fail)
                have HK2:Unit→Keep nil W2 (W2.drewN nq):=fun _=>(Keep.refl nil W2).drewN nq
                clear c0 c1 c2 z1 z2 hel hgl
                go_wp2
                have h1:lgI M V (i + 1)=(f,F):=by rw [HSC (),if_neg (HZW ())]
                refine ⟨⟨i + 1,a,c,by have:=HE (); omega,by go_num,by rw [h1,HFF ()],by rw [h1]; exact (H2 ()).keepN (HK2 ())⟩,by have:=HE (); simp [intOf]; omega⟩
            · have hiI:¬ ((i:Int) < (ml:Int)):=by omega
              have hie:i=M.length:=by have:=HML (); omega
              have h1:lgI M V i=lgW M (V + 1):=by rw [hie]; exact (lgW_succ M V).symm
              rw [h1] at HS ⊢
              clear hs hi hil hie h1
              go_wp2
              refine ⟨⟨V + 1,a,c,by omega,by rw [Int.natCast_add]; rfl,rfl,HS ()⟩,?_⟩
              simp [intOf]
              omega
        · have hVe:V=1000:=by omega
          subst hVe
          have HS:Unit→LgS w wr g n (lgW M 1000).1 ((lgW M 1000).2.map Ghs.ed3) a c:=fun _=>hs
          rw [show ((1000:Nat):Int) + 1=1001 from rfl]
          clear hs hV hVl
          go_wp2
          go_ret
          exact ⟨a,c,rfl,(HS ()).tre⟩
end Go.Proofs.YtlfijfodklhplaaGreat
