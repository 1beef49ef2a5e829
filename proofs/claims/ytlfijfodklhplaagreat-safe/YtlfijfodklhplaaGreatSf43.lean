import Derived.Test.YtlfijfodklhplaaGreatSf42
set_option linter.unusedVariables false
set_option linter.unusedSimpArgs false
namespace Go.Proofs.YtlfijfodklhplaaGreat.Ghs
open Go.RowKit
open NMsg
theorem kX_upd (q:Nat→Nat→List NMsg) (a b:Nat) (l:List NMsg):kX (upd2 q a b l)=upd2 (kX q) a b (l.filter isRoot):=by
  funext u v; simp only [kX,upd2]; split <;> rfl
theorem ev_rootSend {G:Gr} {s:St} {g:Gh} {h:Gs} (hI:Inv G s g h) {u c:Nat} (ht:h.tk u) (hb:s.best u=some c) (hs:s.se u c=1) :
    Inv G { s with q:=addq s.q u c root } g { h with tk:=fun z=>z≠u∧h.tk z }:=by
  obtain ⟨q0,st,rp,ts,bs,pa⟩:=hI
  obtain ⟨k1,k2,k3,k4,k5,k6⟩:=bs.k1 u ht
  obtain ⟨p1,p2,p3⟩:=pa.k3 u ht
  have hadj:=(st.sa u c (by omega)).1
  have hL:1≤g.L u:=by
    by_cases e:g.L u=0
    · by_cases e2:s.se c u=1
      · have:=(st.db u c ⟨hs,e2⟩).1
        have:=st.f5 u c e this
        subst this
        exact (G.irr _ hadj).elim
      · have:=(st.hf u c ⟨hs,e2⟩).1; omega
    · omega
  obtain ⟨k7,k8⟩:=k5 hL
  obtain ⟨v,d1,d2,d3⟩:=bs.bb u hL k4 (by omega) k8
  have hv:v=c:=by rw [hb] at d1; cases d1; rfl
  subst hv
  have hk:kid g u v∧s.lev v=g.L v∧s.fnd v=false∧s.bw v=s.bw u:=by
    rcases d3 with d3 | d3 | d3
    · exact (p2 d3).elim
    · omega
    · exact d3
  obtain ⟨m1,m2,m3,m4⟩:=hk
  have f:=(st.db v u (st.pr v u m1.1)).1
  have f4:=st.f4 v u f
  have e1:kX (addq s.q u v root)=upd2 (kX s.q) u v (kX s.q u v++[root]):=by
    unfold addq; rw [kX_upd]; congr 1; simp [kX,isRoot]
  have c0:(kX s.q u v).countP isRoot=0:=List.countP_eq_zero.2 fun m hm=>by
    cases m <;> simp [isRoot]
    exact k6 v hm
  refine ⟨q0_add q0 hadj k1,?_,?_,?_,?_,?_⟩
  · rw [kS_add rfl]; exact st
  · rw [kR_add rfl]; exact rp
  · rw [kT_add rfl]; exact ts
  · rw [e1]
    refine ⟨bs.bb,?_,?_,bs.ov⟩
    · intro z hz
      have h9:=bs.k1 z hz.2
      refine ⟨h9.1,h9.2.1,h9.2.2.1,h9.2.2.2.1,h9.2.2.2.2.1,fun v' hm=>?_⟩
      simp only [upd2] at hm
      have:=h9.2.2.2.2.2 v'
      grind
    · intro z c hm
      simp only [upd2] at hm ⊢
      by_cases e:z=u∧c=v
      · obtain ⟨rfl,rfl⟩:=e
        refine ⟨k2,k3,hb,m1,m2,by omega,by omega,?_⟩
        simp only [and_self,if_true,List.countP_append,c0]
        rfl
      · rw [if_neg e] at hm
        rw [if_neg e]
        exact bs.k2 z c hm
  · rw [e1]
    refine ⟨pa.p1,pa.u1,fun z hz=>pa.k3 z hz.2,?_⟩
    intro z c hm
    simp only [upd2] at hm
    by_cases e:z=u∧c=v
    · obtain ⟨rfl,rfl⟩:=e
      exact ⟨k2,p3 c hb m1,m4.symm⟩
    · rw [if_neg e] at hm
      exact pa.k4 z c hm
theorem ev_rootRecv {G:Gr} {s:St} {g:Gh} {h:Gs} (hI:Inv G s g h) {y c:Nat} {A B:List NMsg} (hq:s.q y c=A++root :: B) :
    Inv G { s with q:=upd2 s.q y c (A++B) } { g with par:=upd (upd g.par y (some c)) c none,dep:=fun z=>if z=c then 0 else g.dep z + 1 } { h with tk:=fun z=>z=c∨h.tk z,ps:=fun z=>z=y∨h.ps z }:=by
  obtain ⟨q0,st,rp,ts,bs,pa⟩:=hI
  have hm:root ∈ kX s.q y c:=by simp only [kX,hq]; simp [isRoot]
  obtain ⟨k1,k2,k3,k4,k5,k6,k7,k8⟩:=bs.k2 y c hm
  obtain ⟨p1,p2,p3⟩:=pa.k4 y c hm
  have e1:kX (upd2 s.q y c (A++B))=upd2 (kX s.q) y c ((A++B).filter isRoot):=kX_upd _ _ _ _
  have c0:((A++B).filter isRoot).countP isRoot=0:=by
    simp only [kX,hq,List.filter_append,List.countP_append,List.filter_cons,isRoot,if_true,List.countP_cons] at k8
    simp only [List.filter_append,List.countP_append]
    omega
  have nr:root ∉ (A++B).filter isRoot:=fun hm=>by have:=cnt0 c0 _ hm; simp [isRoot] at this
  have hd:=st.pr c y k4.1
  have fcy:=(st.db c y hd).1
  have f4:=st.f4 c y fcy
  have f2:=st.f2
  have f3:=st.f3
  have hyc:y≠c:=by rintro rfl; exact k4.2 k4.1
  have hpc:=k4.1
  have ph1:∀ z,g.fr y z→g.ph z=1:=fun z hz=>by have:=st.f4 y z hz; omega
  have nocore:∀ a b,core g a b→a≠y∧a≠c∧b≠y∧b≠c:=fun a b hc=>by
    have h0:=(st.co a b hc).1
    have h1:=(st.co b a ⟨hc.2,hc.1⟩).1
    refine ⟨?_,?_,?_,?_⟩ <;> rintro rfl <;> omega
  have hupc:=st.up k4 k5
  refine ⟨q0_rem q0 hq,?_,?_,?_,?_,?_⟩
  · rw [kS_rem hq rfl]
    refine ⟨st.qa,st.sa,?_,st.f1,st.f2,st.f3,st.f4,st.f5,st.l1,st.l2,st.se2,st.se3,?_,?_,?_,?_,st.c1,?_,?_,?_,?_,?_,?_,?_,st.nm1,st.nm2,st.nm3,st.de,st.sz,st.mst,st.oc⟩
    · intro u hu
      have:=st.asl u hu
      simp only [upd]; grind
    · intro u v hd
      have:=st.db u v hd
      simp only [upd]; grind
    · intro u v hp
      simp only [upd] at hp
      have:=st.pr u v
      unfold dbl at *
      grind
    · intro u v hh
      have:=st.hf u v hh
      have:u≠y:=by rintro rfl; omega
      simp only [upd]; grind
    · intro u v l hm
      have h9:=st.cn u v l hm
      refine ⟨h9.1,fun e=>?_,h9.2.2⟩
      have h8:=h9.2.1 e
      have:=nocore u v h8.1
      unfold core at *
      simp only [upd]; grind
    · intro u v hc
      unfold core at hc
      simp only [upd] at hc
      have hc':core g u v:=by unfold core; grind
      exact st.co u v hc'
    · intro u v a b hc1 hc2 hf
      unfold core at hc1 hc2
      simp only [upd] at hc1 hc2
      exact st.cu u v a b (by unfold core; grind) (by unfold core; grind) hf
    · intro a b hk
      unfold kid at hk
      simp only [upd] at hk
      by_cases e:b=y
      · subst e
        have ha:a=c:=by grind
        subst ha
        obtain ⟨i1,i2⟩:=st.ch b a k4
        rw [hupc.1] at i2 ⊢
        rw [i1]
        refine ⟨rfl,?_⟩
        have:(s.lev a,s.nam a)=(s.lev b,s.nam b):=i2
        show (s.lev b,s.nam b)=(s.lev a,s.nam a)
        exact this.symm
      · exact st.ch a b ⟨by grind,by grind⟩
    · intro a b l n f hm2
      have:=st.i1 a b l n f hm2
      have:b≠c:=fun e=>st.noIni k5 (by rw [e] at hm2; exact hm2)
      simp only [upd]; grind
    · intro u v a1 a2 a3
      simp only [upd] at a1 a2
      have r1:=st.rt u v
      have r2:=st.rt u y
      have r3:=st.rt v y
      grind
    · intro u hu
      have:=st.p0 u hu
      have:u≠c:=by rintro rfl; have:=ph1 u (f2 _ _ fcy); dsimp only at hu; omega
      simp only [upd]; grind
    · intro a b hk
      unfold kid at hk
      simp only [upd] at hk
      dsimp only
      have hb:b≠c:=by grind
      rw [if_neg hb]
      by_cases e:a=c
      · simp [e]
      · rw [if_neg e]
        have:=st.dp a b ⟨by grind,by grind⟩
        omega
  · rw [kR_rem hq rfl]
    have kk:∀ a b,kid { g with par:=upd (upd g.par y (some c)) c none,dep:=fun z=>if z=c then 0 else g.dep z + 1 } a b→g.ph a=0→kid g a b:=by
      intro a b hk hp
      unfold kid at *
      simp only [upd] at hk
      have:a≠c:=by rintro rfl; have:=ph1 a (f2 _ _ fcy); omega
      have:a≠y:=by rintro rfl; omega
      grind
    have kk2:∀ a b,kid g a b→g.ph a=0→kid { g with par:=upd (upd g.par y (some c)) c none,dep:=fun z=>if z=c then 0 else g.dep z + 1 } a b:=by
      intro a b hk hp
      have f:=(st.db b a (st.pr b a hk.1)).1
      have f4:=st.f4 b a f
      unfold kid at *
      simp only [upd]
      have:a≠c:=by rintro rfl; have:=ph1 a (f2 _ _ fcy); omega
      have:a≠y:=by rintro rfl; omega
      have:b≠c:=by rintro rfl; have:=ph1 b (f2 _ _ fcy); omega
      have:b≠y:=by rintro rfl; omega
      grind
    refine ⟨rp.s1,rp.s2,fun a b a1 a2 a3=>rp.s3 a b a1 (kk a b a2 a1) a3,fun a b a1 a2=>rp.s14 a b a1 (kk a b a2 a1),rp.s4,?_,rp.s6,rp.s9,?_,?_,?_,rp.r2,fun a b a1 a2=>rp.hd a b a1 (kk a b a2 (rp.s1 a a1).1),?_,rp.bm,fun u v hc=>rp.s15 u v (by unfold core at *; simp only [upd] at hc; grind)⟩
    · intro a b l n hm
      have h9:=rp.s5 a b l n hm
      refine ⟨h9.1,h9.2.1,h9.2.2.1,fun hk=>h9.2.2.2 ?_⟩
      have:g.par b=some a:=(st.i1 a b l n true (ini_RS.1 hm)).1
      have f:=(st.db b a (st.pr b a this)).1
      have f4:=st.f4 b a f
      exact kk a b hk (by omega)
    · intro u a1 a2
      have:=rp.si u a1 a2
      have:u≠c:=by rintro rfl; have:=ph1 u (f2 _ _ fcy); dsimp only at a1; omega
      have:u≠y:=by rintro rfl; dsimp only at a1; omega
      simp only [upd]; grind
    · intro u v hc a2 a3
      unfold core at hc
      simp only [upd] at hc
      exact rp.s13 u v (by unfold core; grind) a2 a3
    · intro a b w hm
      rcases rp.r1 a b w hm with ⟨d1,d2,d3,d4,d5,d6,d7,d8⟩ | ⟨d1,d2,d3,d4,d5,d6,d7⟩
      · left
        have f:=(st.db b a (st.pr b a d2)).1
        have f4:=st.f4 b a f
        have:b≠c:=by rintro rfl; have:=ph1 b (f2 _ _ fcy); omega
        have:b≠y:=by rintro rfl; omega
        refine ⟨d1,by simp only [upd]; grind,d3,d4,d5,d6,fun hk=>d7 (kk a b hk (by omega)),d8⟩
      · right
        refine ⟨?_,d2,d3,d4,d5,d6,d7⟩
        have hac:a≠c:=by
          rintro rfl
          have:b=y:=by have:=d1.1; rw [hpc] at this; cases this; rfl
          subst this
          have:=d6 k5
          omega
        have hay:a≠y:=by rintro rfl; have:=d1.1; rw [k2] at this; cases this
        unfold kid at *
        simp only [upd]; grind
    · intro a ha
      have hp:=(rp.s1 a ha).1
      obtain ⟨l,l1,l2,l3⟩:=rp.ct a ha
      refine ⟨l,l1,l2,fun z=>?_⟩
      rw [l3 z]
      have:kid { g with par:=upd (upd g.par y (some c)) c none,dep:=fun z=>if z=c then 0 else g.dep z + 1 } a z ↔ kid g a z:=⟨fun hk=>kk a z hk hp,fun hk=>kk2 a z hk hp⟩
      rw [this]
  · rw [kT_rem hq rfl]; exact ⟨ts.t0,ts.t1,ts.t2,ts.t3,ts.t4,ts.t5,ts.t6,ts.t7⟩
  · rw [e1]
    refine ⟨?_,?_,?_,bs.ov⟩
    · intro z a1 a2 a3 a4
      obtain ⟨v',d1,d2,d3⟩:=bs.bb z a1 a2 a3 a4
      refine ⟨v',d1,d2,?_⟩
      by_cases e:z=y
      · exact Or.inl (Or.inl e)
      · rcases d3 with d3 | d3 | d3
        · exact Or.inl (Or.inr d3)
        · exact Or.inr (Or.inl d3)
        · right; right
          refine ⟨?_,d3.2⟩
          have hk:=d3.1
          unfold kid at *
          have:v'≠c:=by rintro rfl; rw [hpc] at hk; grind
          have:v'≠y:=by rintro rfl; rw [k2] at hk; grind
          simp only [upd]; grind
    · intro u hu
      rcases hu with rfl | hu
      · refine ⟨(st.sa u y (by unfold dbl at hd; omega)).2,by dsimp only; omega,by simp [upd],k5,fun _=>⟨k6,k7⟩,fun v hm=>?_⟩
        simp only [upd2] at hm
        have:=(bs.k2 u v)
        grind
      · have h9:=bs.k1 u hu
        have:u≠y:=by rintro rfl; exact (h9.2.2.2.2.2 c) hm
        have:u≠c:=by rintro rfl; rw [hpc] at h9; grind
        refine ⟨h9.1,h9.2.1,by simp only [upd]; grind,h9.2.2.2.1,h9.2.2.2.2.1,fun v hm2=>?_⟩
        simp only [upd2] at hm2
        have:=h9.2.2.2.2.2 v
        grind
    · intro z c' hr
      simp only [upd2] at hr
      by_cases e:z=y∧c'=c
      · rw [if_pos e] at hr; exact (nr hr).elim
      · rw [if_neg e] at hr
        have h9:=bs.k2 z c' hr
        have hz:z≠y:=by rintro rfl; rw [k3] at h9; grind
        have hzc:z≠c:=by rintro rfl; rw [hpc] at h9; grind
        have hc1:c'≠c:=by rintro rfl; have:=h9.2.2.2.1.1; rw [hpc] at this; grind
        have hc2:c'≠y:=by rintro rfl; have:=h9.2.2.2.1.1; rw [k2] at this; cases this
        unfold kid at *
        simp only [upd,upd2,if_neg hz,if_neg hzc,if_neg hc1,if_neg hc2]
        grind
  · rw [e1]
    refine ⟨?_,?_,?_,?_⟩
    · intro z hz; have:=pa.p1 z; grind
    · intro z v a1 a2 a3 a4
      unfold kid at a4
      simp only [upd] at a3 a4
      have:=pa.u1 z v
      unfold kid at this
      grind
    · intro u hu
      rcases hu with rfl | hu
      · refine ⟨by dsimp only; omega,by grind,fun v hb hk=>?_⟩
        obtain ⟨v2,d1,d2,d3⟩:=bs.bb u (by
          have:=st.f5 u y
          by_cases e:g.L u=0
          · have:=this e fcy; exact (hyc this.symm).elim
          · omega) k5 (by omega) k7
        have hv:v=v2:=by rw [hb] at d1; cases d1; rfl
        subst hv
        have hvy:v≠y:=by
          rintro rfl
          unfold dbl at hd
          rcases d3 with d3 | d3 | d3
          · exact p2 d3
          · omega
          · have:=d3.1.1; rw [k2] at this; cases this
        have hk2:kid g u v:=by
          unfold kid at *
          simp only [upd] at hk
          have:v≠u:=by rintro rfl; exact G.irr _ d2
          refine ⟨by grind,by rw [hpc]; grind⟩
        have:=pa.u1 u v p2 (by omega) (by rw [hpc]; simp) hk2
        grind
      · have h9:=pa.k3 u hu
        have h8:=bs.k1 u hu
        have hy:u≠y:=by rintro rfl; exact (h8.2.2.2.2.2 c) hm
        have hc:u≠c:=by rintro rfl; rw [hpc] at h8; grind
        refine ⟨h9.1,by grind,fun v hv hk=>?_⟩
        have hvy:v≠y:=by
          unfold kid at hk
          simp only [upd] at hk
          grind
        have:=h9.2.2 v hv (by unfold kid at *; simp only [upd] at hk; grind)
        grind
    · intro z c' hr
      simp only [upd2] at hr
      by_cases e:z=y∧c'=c
      · rw [if_pos e] at hr; exact (nr hr).elim
      · rw [if_neg e] at hr
        have h9:=pa.k4 z c' hr
        have h8:=bs.k2 z c' hr
        have hc2:c'≠y:=by rintro rfl; have:=h8.2.2.2.1.1; rw [k2] at this; cases this
        exact ⟨h9.1,by grind,h9.2.2⟩
theorem kS_upd (q:Nat→Nat→List NMsg) (a b:Nat) (l:List NMsg):kS (upd2 q a b l)=upd2 (kS q) a b (l.filter (fun m=>isCon m || isIni m)):=by
  funext u v; simp only [kS,upd2]; split <;> rfl
theorem kS_addT {q:Nat→Nat→List NMsg} {a b:Nat} {m:NMsg} (hp:(isCon m || isIni m)=true):kS (addq q a b m)=upd2 (kS q) a b (kS q a b++[m]):=by
  unfold addq; rw [kS_upd]; congr 1; simp [kS,hp]
theorem Str.cutEdge {G:Gr} {aw:Nat→Bool} {lev nam:Nat→Nat} {se:Nat→Nat→Nat} {k:Nat→Nat→List NMsg} {g:Gh} (h:Str G aw lev nam se k g) {u v:Nat} (ha:G.adj u v) (hp:g.ph u≠0) (hw:G.w u v=g.W u) (hf:¬ g.fr u v):G.mst u v:=by
  refine G.cut (g.fr u) u v ha (h.f1 u) hf ?_
  intro x y hxy hx hy
  have:=h.de u x y hp hx hxy (fun e=>hy (h.f3 _ _ _ hx e))
  omega
open Classical in
theorem ev_conn {G:Gr} {s:St} {g:Gh} {h:Gs} (hI:Inv G s g h) {u v:Nat} (ht:h.tk u) (ha:G.adj u v) (h0:s.se u v=0) (h1:s.se v u≠1) (hw:G.w u v=g.W u) (hf:¬ g.fr u v) (hl:g.L u≤s.lev v) :
    Inv G { s with se:=upd2 s.se u v 1,q:=addq s.q u v (connect (s.lev u)) } { g with ph:=fun z=>if g.fr u z then 2 else g.ph z } { h with tk:=fun z=>z≠u∧h.tk z,ps:=fun z=>h.ps z∧¬ g.fr u z }:=by
  have hrp:=root_ph hI
  obtain ⟨q0,st,rp,ts,bs,pa⟩:=hI
  obtain ⟨k1,k2,k3,k4,k5,k6⟩:=bs.k1 u ht
  have hm:=st.cutEdge ha (by omega) hw hf
  have ph1:∀ z,g.fr u z→g.ph z=1:=fun z hz=>by have:=st.f4 u z hz; omega
  have f2:=st.f2
  have f3:=st.f3
  have huv:u≠v:=by rintro rfl; exact G.irr _ ha
  have nc:∀ l,connect l ∉ kS s.q u v:=fun l hm=>by have:=(st.cn u v l hm).1; omega
  have ni:∀ l n f,initiate l n f ∉ kS s.q u v:=fun l n f hm=>by
    have hp:=(st.i1 u v l n f hm).1
    exact hf (f2 _ _ (st.db v u (st.pr v u hp)).1)
  have nfu:s.fnd u=false:=by
    cases e:s.fnd u
    · rfl
    · have:=(rp.s1 u e).1; omega
  have hd:∀ a b,dbl (upd2 s.se u v 1) a b ↔ dbl s.se a b:=by intro a b; simp only [dbl,upd2]; grind
  have hmono:∀ a b,s.se a b=1→upd2 s.se u v 1 a b=1:=by intro a b; simp only [upd2]; grind
  have roots:∀ z,g.par z=none→g.fr u z→z=u:=fun z hz e=>(st.rt u z k3 hz e).symm
  refine ⟨q0_add q0 ha k1,?_,?_,?_,?_,?_⟩
  · rw [kS_addT rfl]
    have ei:∀ a b,inits (upd2 (kS s.q) u v (kS s.q u v++[connect (s.lev u)]) a b)=inits (kS s.q a b):=by
      intro a b; simp only [upd2]; split
      · rename_i e; rw [e.1,e.2,inits_app]; simp [inits]
      · rfl
    have em:∀ a b l n f,initiate l n f ∈ upd2 (kS s.q) u v (kS s.q u v++[connect (s.lev u)]) a b ↔ initiate l n f ∈ kS s.q a b:=by
      intro a b l n f; rw [← mem_inits,ei,mem_inits]
    have ec:∀ a b l,connect l ∈ upd2 (kS s.q) u v (kS s.q u v++[connect (s.lev u)]) a b ↔ (connect l ∈ kS s.q a b∨(a=u∧b=v∧l=s.lev u)):=by
      intro a b l; simp only [upd2]; split
      · rename_i e; rw [e.1,e.2]; simp
      · rename_i e; grind
    refine ⟨?_,?_,?_,st.f1,st.f2,st.f3,?_,st.f5,st.l1,st.l2,?_,?_,?_,?_,?_,?_,?_,?_,st.cu,?_,?_,st.rt,?_,st.dp,?_,?_,?_,?_,st.sz,?_,?_⟩
    · intro a b m hm; simp only [upd2] at hm; have:=st.qa a b m; grind
    · intro a b; simp only [upd2]; have:=st.sa a b; grind
    · intro z hz
      have:=st.asl z hz
      have:¬ g.fr u z:=fun e=>by have:=ph1 z e; omega
      dsimp only; grind
    · intro a b hab; have:=st.f4 a b hab; dsimp only; grind
    · intro a b; simp only [upd2]; have:=st.se2 a b; grind
    · intro a b; simp only [upd2]; have:=st.se3 a b; grind
    · intro a b; rw [hd]; exact st.db a b
    · intro a b hp; rw [hd]; exact st.pr a b hp
    · intro a b hh
      by_cases e:a=u∧b=v
      · obtain ⟨rfl,rfl⟩:=e
        refine ⟨by simp [st.f1 a],k3,hf,?_,hw,hl,k4⟩
        rw [ec]; right; exact ⟨rfl,rfl,k4.symm⟩
      · have hh':half s.se a b:=by unfold half at *; simp only [upd2] at hh; grind
        have h9:=st.hf a b hh'
        have:¬ g.fr u a:=fun e=>by have:=ph1 a e; omega
        refine ⟨by dsimp only; grind,h9.2.1,h9.2.2.1,?_,h9.2.2.2.2⟩
        rw [ec]; exact Or.inl h9.2.2.2.1
    · intro a b l hm
      rw [ec] at hm
      rcases hm with hm | ⟨rfl,rfl,rfl⟩
      · have h9:=st.cn a b l hm
        refine ⟨hmono _ _ h9.1,?_,?_⟩
        · intro e
          simp only [upd2] at e
          refine h9.2.1 ?_
          by_cases e2:b=u∧a=v
          · obtain ⟨rfl,rfl⟩:=e2; exact (h1 h9.1).elim
          · rw [if_neg e2] at e; exact e
        · intro e
          exact h9.2.2 (fun e2=>e (hmono _ _ e2))
      · refine ⟨by simp [upd2],fun e=>?_,fun _=>k4⟩
        simp only [upd2] at e
        rw [if_neg (by grind)] at e
        exact (h1 e).elim
    · intro a b; simp only [upd2]; split
      · rw [List.countP_append]
        have:(kS s.q u v).countP isCon=0:=List.countP_eq_zero.2 fun m hm=>by cases m <;> simp [isCon]; exact nc _ hm
        rw [this]; simp [isCon]
      · exact st.c1 a b
    · intro a b hc
      have h9:=st.co a b hc
      have hn:¬ g.fr u a:=fun e=>by have:=ph1 a e; omega
      rw [ei]
      have nn:¬ (b=u∧a=v):=by
        rintro ⟨rfl,rfl⟩
        exact hf (st.db _ _ (st.pr _ _ hc.2)).1
      refine ⟨by dsimp only; rw [if_neg hn]; exact h9.1,h9.2.1,?_⟩
      simp only [ec]
      rcases h9.2.2 with h8 | h8 | h8
      · exact Or.inl ⟨h8.1,h8.2.1,by grind⟩
      · exact Or.inr (Or.inl ⟨h8.1,h8.2.1,by grind⟩)
      · exact Or.inr (Or.inr ⟨h8.1,h8.2.1,Or.inl h8.2.2⟩)
    · intro a b hk; rw [ei,ei]; exact st.ch a b hk
    · intro a b l n f hm; rw [em] at hm; exact st.i1 a b l n f hm
    · intro z hz
      dsimp only at hz
      refine st.p0 z ?_
      grind
    · intro z hz; simp only [hd]; exact st.nm1 z hz
    · intro a b l n f hm; rw [em] at hm; simp only [hd]; exact st.nm2 a b l n f hm
    · intro z hz; simp only [hd]; exact st.nm3 z hz
    · intro a z b a1 a2 a3 a4
      dsimp only at a1 ⊢
      refine st.de a z b ?_ a2 a3 a4
      intro e
      by_cases e2:g.fr u a
      · have:=ph1 a e2; omega
      · rw [if_neg e2] at a1; exact a1 e
    · intro a b e
      simp only [upd2] at e
      by_cases e2:a=u∧b=v
      · obtain ⟨rfl,rfl⟩:=e2; exact Or.inl hm
      · rw [if_neg e2] at e; exact st.mst a b e
    · intro a b A B l n f hAB l'
      simp only [upd2] at hAB
      by_cases e:a=u∧b=v
      · rw [if_pos e] at hAB
        exfalso
        have:initiate l n f ∈ kS s.q u v++[connect (s.lev u)]:=by rw [hAB]; simp
        simp at this
        exact ni _ _ _ this
      · rw [if_neg e] at hAB
        exact st.oc a b A B l n f hAB l'
  · rw [kR_add rfl]
    refine ⟨?_,?_,?_,?_,?_,?_,rp.s6,?_,?_,rp.s13,?_,rp.r2,rp.hd,rp.ct,rp.bm,rp.s15⟩
    · intro z hz; have:=rp.s1 z hz; have:=ph1 z; dsimp only; grind
    · intro z a1; have:=rp.s2 z; dsimp only at a1 ⊢; grind
    · intro a b a1 a2 a3; exact rp.s3 a b (by dsimp only at a1; grind) a2 a3
    · intro a b a1 a2 a3 a4; exact rp.s14 a b (by dsimp only at a1; grind) a2 a3 a4
    · intro a b l n hm a1; have:=rp.s4 a b l n hm; dsimp only at a1 ⊢; grind
    · intro a b l n hm
      have h9:=rp.s5 a b l n hm
      have:=ph1 b
      exact ⟨by dsimp only; grind,h9.2.1,h9.2.2.1,h9.2.2.2⟩
    · intro a b a1; have:=rp.s9 a b; dsimp only at a1 ⊢; grind
    · intro a a1; have:=rp.si a; dsimp only at a1 ⊢; grind
    · intro a b w hm
      rcases rp.r1 a b w hm with ⟨d1,d2,d3,d4,d5,d6,d7,d8⟩ | ⟨d1,d2,d3,d4,d5,d6,d7⟩
      · left
        have:=ph1 b
        refine ⟨by dsimp only; grind,d2,d3,d4,d5,d6,d7,d8⟩
      · right
        refine ⟨d1,d2,d3,d4,d5,fun e=>?_,d7⟩
        have:=d6 e
        dsimp only; grind
  · rw [kT_add rfl]
    have htu:=(ts.t0 u nfu).1
    refine ⟨ts.t0,?_,?_,ts.t3,?_,ts.t5,?_,ts.t7⟩
    · intro y x hx
      have:=ts.t1 y x hx
      have:=hmono y x
      have:=hmono x y
      have h9:¬ (y=u∧x=v)→upd2 s.se u v 1 y x=s.se y x:=fun e=>by simp only [upd2,if_neg e]
      have h8:∀ z,G.adj y z→upd2 s.se u v 1 y z=0→s.se y z=0:=fun z _=>by simp only [upd2]; grind
      grind
    · intro y x a1 a2 a3 a4 a5; simp only [upd2] at a5; have:=ts.t2 y x; grind
    · intro y x l n hm; have:=ts.t4 y x l n hm; simp only [upd2]; grind
    · intro y x hm; have:=ts.t6 y x hm; simp only [upd2]; grind
  · rw [kX_add rfl]
    refine ⟨?_,?_,?_,bs.ov⟩
    · intro z a1 a2 a3 a4
      dsimp only at a3
      have hn:¬ g.fr u z:=by grind
      have hzu:z≠u:=by rintro rfl; exact hn (st.f1 _)
      rw [if_neg hn] at a3
      obtain ⟨v',d1,d2,d3⟩:=bs.bb z a1 a2 a3 a4
      refine ⟨v',d1,d2,?_⟩
      rcases d3 with d3 | d3 | d3
      · exact Or.inl ⟨d3,hn⟩
      · refine Or.inr (Or.inl ⟨?_,d3.2⟩)
        simp only [upd2]; grind
      · exact Or.inr (Or.inr d3)
    · intro z hz
      have h9:=bs.k1 z hz.2
      have hn:¬ g.fr u z:=fun e=>hz.1 (roots z h9.2.2.1 e)
      exact ⟨h9.1,by dsimp only; rw [if_neg hn]; exact h9.2.1,h9.2.2⟩
    · intro z c hr
      have h9:=bs.k2 z c hr
      have hn:¬ g.fr u z:=fun e=>by
        have:=roots z h9.2.1 e
        subst this
        exact k6 c hr
      exact ⟨by dsimp only; rw [if_neg hn]; exact h9.1,h9.2⟩
  · rw [kX_add rfl]
    refine ⟨?_,?_,?_,?_⟩
    · intro z hz; have:=pa.p1 z hz.1; dsimp only; grind
    · intro z b a1 a2 a3 a4
      dsimp only at a2
      have hn:¬ g.fr u z:=by grind
      rw [if_neg hn] at a2
      have:=pa.u1 z b (by grind) a2 a3 a4
      grind
    · intro z hz
      have h9:=pa.k3 z hz.2
      have h8:=bs.k1 z hz.2
      have hn:¬ g.fr u z:=fun e=>hz.1 (roots z h8.2.2.1 e)
      refine ⟨by dsimp only; rw [if_neg hn]; exact h9.1,by grind,fun b b1 b2=>?_⟩
      have:=h9.2.2 b b1 b2
      grind
    · intro z c hr
      have h9:=pa.k4 z c hr
      have h8:=bs.k2 z c hr
      have hn:¬ g.fr u z:=fun e=>by
        have:=roots z h8.2.1 e
        subst this
        exact k6 c hr
      exact ⟨by dsimp only; rw [if_neg hn]; exact h9.1,by grind,h9.2.2⟩
theorem ev_wake {G:Gr} {s:St} {g:Gh} {h:Gs} (hI:Inv G s g h) {u:Nat} (ha:s.aw u=false) (W':Nat) (hW:∀ v,G.adj u v→W'≤G.w u v) :
    Inv G { s with aw:=upd s.aw u true } { g with ph:=upd g.ph u 1,W:=upd g.W u W' } { h with tk:=fun z=>z=u∨h.tk z }:=by
  have hrp:=root_ph hI
  obtain ⟨q0,st,rp,ts,bs,pa⟩:=hI
  obtain ⟨a1,a2,a3,a4,a5⟩:=st.asl u ha
  have hone:∀ z,g.fr u z→z=u:=fun z hz=>(st.f5 u z a2 hz).symm
  have hone2:∀ z,g.fr z u→z=u:=fun z hz=>hone z (st.f2 _ _ hz)
  have hse:∀ v,s.se u v=0:=fun v=>by
    apply Classical.byContradiction
    intro e
    have:=(st.sa u v e).2
    rw [ha] at this; cases this
  have mono:∀ z,s.aw z=true→upd s.aw u true z=true:=fun z hz=>by simp only [upd]; grind
  have np:∀ v,g.par v≠some u:=fun v hp=>by
    have:=(st.pr v u hp).2
    have:=hse v
    omega
  refine ⟨fun a b m hm=>⟨(q0 a b m hm).1,mono a (q0 a b m hm).2⟩,?_,?_,⟨ts.t0,ts.t1,ts.t2,ts.t3,ts.t4,ts.t5,ts.t6,ts.t7⟩,?_,?_⟩
  · refine ⟨fun a b m hm=>⟨(st.qa a b m hm).1,mono a (st.qa a b m hm).2⟩,fun a b e=>⟨(st.sa a b e).1,mono a (st.sa a b e).2⟩,?_,st.f1,st.f2,st.f3,?_,st.f5,st.l1,st.l2,st.se2,st.se3,st.db,st.pr,?_,st.cn,st.c1,?_,st.cu,st.ch,st.i1,st.rt,?_,st.dp,st.nm1,st.nm2,st.nm3,?_,st.sz,st.mst,st.oc⟩
    · intro z hz
      simp only [upd] at hz ⊢
      have:=st.asl z
      grind
    · intro a b hab
      have:=st.f4 a b hab
      have:=hone b
      have:=hone2 a
      simp only [upd]
      by_cases e:a=u
      · subst e; have:=hone b hab; subst this; simp
      · by_cases e2:b=u
        · subst e2; exact (e (hone2 a hab)).elim
        · simp [e,e2]; grind
    · intro a b hh
      have h9:=st.hf a b hh
      have:a≠u:=by rintro rfl; have h1:=hh.1; dsimp only at h1; have:=hse b; omega
      simp only [upd,if_neg this]; exact h9
    · intro a b hc
      have h9:=st.co a b hc
      have:a≠u:=by rintro rfl; omega
      simp only [upd,if_neg this]; exact h9
    · intro z hz
      have:z≠u:=by rintro rfl; simp [upd] at hz
      simp only [upd,if_neg this] at hz
      exact st.p0 z hz
    · intro a z b b1 b2 b3 b4
      by_cases e:a=u
      · subst e
        have:=hone z b2
        subst this
        simp only [upd,if_true]
        exact hW b b3
      · simp only [upd,if_neg e] at b1 ⊢
        exact st.de a z b b1 b2 b3 b4
  · have hp0:∀ z,upd g.ph u 1 z=0 ↔ g.ph z=0:=fun z=>by simp only [upd]; grind
    refine ⟨?_,?_,?_,?_,?_,?_,rp.s6,?_,?_,rp.s13,?_,rp.r2,rp.hd,rp.ct,rp.bm,rp.s15⟩
    · intro z hz; exact ⟨(hp0 z).2 (rp.s1 z hz).1,(rp.s1 z hz).2⟩
    · intro z b1; exact rp.s2 z ((hp0 z).1 b1)
    · intro a b b1; exact rp.s3 a b ((hp0 a).1 b1)
    · intro a b b1; exact rp.s14 a b ((hp0 a).1 b1)
    · intro a b l n hm b1; exact rp.s4 a b l n hm ((hp0 b).1 b1)
    · intro a b l n hm; have h9:=rp.s5 a b l n hm; exact ⟨(hp0 b).2 h9.1,h9.2⟩
    · intro a b b1; exact rp.s9 a b ((hp0 a).1 b1)
    · intro a b1; exact rp.si a ((hp0 a).1 b1)
    · intro a b w hm
      rcases rp.r1 a b w hm with ⟨d1,d2⟩ | ⟨d1,d2,d3,d4,d5,d6,d7⟩
      · exact Or.inl ⟨(hp0 b).2 d1,d2⟩
      · exact Or.inr ⟨d1,d2,d3,d4,d5,fun e=>⟨(d6 e).1,(d6 e).2.1,fun e2=>(d6 e).2.2 ((hp0 a).1 e2)⟩,d7⟩
  · refine ⟨?_,?_,?_,bs.ov⟩
    · intro z b1 b2 b3 b4
      have:z≠u:=by rintro rfl; dsimp only at b1; omega
      simp only [upd,if_neg this] at b3
      exact bs.bb z b1 b2 b3 b4
    · intro z hz
      rcases hz with rfl | hz
      · refine ⟨by simp [upd],by simp [upd],a3,by dsimp only; omega,fun e=>by dsimp only at e; omega,fun v hm=>?_⟩
        have hm2:root ∈ s.q z v:=by unfold kX at hm; exact (List.mem_filter.1 hm).1
        have:=(q0 z v root hm2).2
        rw [ha] at this; cases this
      · have h9:=bs.k1 z hz
        have:z≠u:=by rintro rfl; omega
        refine ⟨mono z h9.1,by simp only [upd,if_neg this]; exact h9.2.1,h9.2.2.1,h9.2.2.2.1,?_,h9.2.2.2.2.2⟩
        simp only [upd,if_neg this]; exact h9.2.2.2.2.1
    · intro z c hr
      have h9:=bs.k2 z c hr
      have h8:=hrp z c hr
      have:z≠u:=by rintro rfl; omega
      have h7:c≠u:=by rintro rfl; omega
      simp only [upd,if_neg this,if_neg h7]; exact h9
  · refine ⟨?_,?_,?_,?_⟩
    · intro z hz
      have:=pa.p1 z hz
      simp only [upd]; grind
    · intro z b b1 b2 b3 b4
      have:z≠u:=by rintro rfl; exact b3 a3
      simp only [upd,if_neg this] at b2
      exact pa.u1 z b b1 b2 b3 b4
    · intro z hz
      rcases hz with rfl | hz
      · refine ⟨by simp [upd],fun e=>by have:=pa.p1 z e; omega,fun v _ hk=>(np v hk.1).elim⟩
      · have h9:=pa.k3 z hz
        have:z≠u:=by rintro rfl; omega
        simp only [upd,if_neg this]; exact h9
    · intro z c hr
      have h9:=pa.k4 z c hr
      have:z≠u:=by rintro rfl; omega
      simp only [upd,if_neg this]; exact h9
theorem ev_lone {G:Gr} {s:St} {g:Gh} {h:Gs} (hI:Inv G s g h) {u:Nat} (hL:g.L u=0) (hn:∀ v,¬ G.adj u v):Inv G { s with over:=upd s.over u true } g h:=by
  obtain ⟨q0,st,rp,ts,bs,pa⟩:=hI
  refine ⟨q0,st,rp,ts,⟨bs.bb,bs.k1,bs.k2,?_⟩,pa⟩
  intro z hz a b b1 b2
  by_cases e:z=u
  · subst e
    have:=st.f5 z a hL b1
    subst this
    exact (hn b b2).elim
  · simp only [upd,if_neg e] at hz
    exact bs.ov z hz a b b1 b2
theorem kS_out {q:Nat→Nat→List NMsg} {a b l:Nat} {A B:List NMsg} (hq:q a b=A++connect l :: B):∃ X,kS (upd2 q a b (A++B))=upd2 (kS q) a b X∧inits X=inits (kS q a b)∧connect l ∈ kS q a b∧(kS q a b).countP isCon=X.countP isCon + 1∧(∀ x,x ∈ X→x ∈ kS q a b)∧∀ A B l n f,X=A++initiate l n f :: B→∃ A' B',kS q a b=A'++initiate l n f :: B'∧∀ m,m ∈ B→m ∈ B':=by
  refine ⟨A.filter (fun m=>isCon m || isIni m)++B.filter (fun m=>isCon m || isIni m),?_,?_,?_,?_,?_,?_⟩
  · rw [kS_upd,List.filter_append]
  · simp only [kS,hq,List.filter_append,List.filter_cons,isCon,Bool.true_or,if_true,inits_app]; rfl
  · simp only [kS,hq]; simp [isCon]
  · simp only [kS,hq,List.filter_append,List.countP_append,List.filter_cons,List.countP_cons,isCon,Bool.true_or,if_true]
    omega
  · intro x hx; simp only [kS,hq]; simp at hx ⊢; grind
  · intro C D l' n f hX
    have e:kS q a b=A.filter (fun m=>isCon m || isIni m)++connect l :: B.filter (fun m=>isCon m || isIni m):=by
      simp only [kS,hq,List.filter_append,List.filter_cons,isCon,Bool.true_or,if_true]
    generalize A.filter (fun m=>isCon m || isIni m)=P at hX e
    generalize B.filter (fun m=>isCon m || isIni m)=Q at hX e
    rcases List.append_eq_append_iff.1 hX with ⟨c,d1,d2⟩ | ⟨c,d1,d2⟩
    · refine ⟨P++connect l :: c,D,?_,fun m hm=>hm⟩
      rw [e,d2]; simp
    · cases c with
      | nil =>
        refine ⟨P++[connect l],D,?_,fun m hm=>hm⟩
        rw [e]
        simp at d2
        simp [← d2]
      | cons m t =>
        simp at d2
        refine ⟨C,t++connect l :: Q,?_,fun m hm=>?_⟩
        · rw [e,d1,← d2.1]; simp
        · rw [d2.2] at hm; simp at hm ⊢; grind
theorem ev_core {G:Gr} {s:St} {g:Gh} {h:Gs} (hI:Inv G s g h) {u v l:Nat} {A B:List NMsg} (hq:s.q u v=A++connect l :: B) (hs:s.se v u=1) :
    Inv G { s with q:=addq (upd2 s.q u v (A++B)) v u (initiate (s.lev v + 1) (G.w v u) true) } g h:=by
  obtain ⟨X,x1,x2,x3,x4,x5,x6⟩:=kS_out hq
  obtain ⟨q0,st,rp,ts,bs,pa⟩:=hI
  obtain ⟨c1,c2,c3⟩:=st.cn u v l x3
  obtain ⟨d1,d2,d3,d4⟩:=c2 hs
  have hadj:=(st.qa u v _ x3).1
  have huv:u≠v:=by rintro rfl; exact G.irr _ hadj
  have hav:=(st.sa v u (by omega)).2
  have hc:=st.co v u ⟨d1.2,d1.1⟩
  have hf:=(st.db u v ⟨c1,hs⟩).1
  have f4:=st.f4 u v hf
  have e3:s.lev u + 1=g.L u∧inits (kS s.q v u)=[]:=by grind
  have hN:g.N u=G.w v u:=by rw [f4.2.1]; exact hc.2.1
  have X0:∀ l,connect l ∉ X:=fun l hm=>by
    have h1:=st.c1 u v
    have:=cnt0 (show X.countP isCon=0 by omega) _ hm
    simp [isCon] at this
  have ekS:kS (addq (upd2 s.q u v (A++B)) v u (initiate (s.lev v + 1) (G.w v u) true))=upd2 (upd2 (kS s.q) u v X) v u (kS s.q v u++[initiate (s.lev v + 1) (G.w v u) true]):=by
    rw [kS_addT rfl,x1]; congr 1; simp [upd2,huv.symm]
  have ekR:kR (addq (upd2 s.q u v (A++B)) v u (initiate (s.lev v + 1) (G.w v u) true))=upd2 (kR s.q) v u (kR s.q v u++[initiate (s.lev v + 1) (G.w v u) true]):=by
    rw [kR_addT rfl,kR_rem hq rfl]
  have hlv:s.lev v + 1=g.L v:=by omega
  refine ⟨q0_add (q0_rem q0 hq) (G.sym _ _ hadj) hav,?_,?_,?_,?_,?_⟩
  · rw [ekS]
    have ei:∀ a b,inits (upd2 (upd2 (kS s.q) u v X) v u (kS s.q v u++[initiate (s.lev v + 1) (G.w v u) true]) a b)=if a=v∧b=u then [(s.lev v + 1,G.w v u,true)] else inits (kS s.q a b):=by
      intro a b
      simp only [upd2]
      split
      · rw [inits_app,e3.2]; rfl
      · split
        · rename_i e; rw [e.1,e.2,x2]
        · rfl
    have em:∀ a b l' n f,initiate l' n f ∈ upd2 (upd2 (kS s.q) u v X) v u (kS s.q v u++[initiate (s.lev v + 1) (G.w v u) true]) a b→(a=v∧b=u∧l'=s.lev v + 1∧n=G.w v u∧f=true)∨initiate l' n f ∈ kS s.q a b:=by
      intro a b l' n f hm
      rw [← mem_inits,ei] at hm
      split at hm
      · rename_i e; simp at hm; grind
      · exact Or.inr ((mem_inits _).1 hm)
    have ec:∀ a b l',connect l' ∈ upd2 (upd2 (kS s.q) u v X) v u (kS s.q v u++[initiate (s.lev v + 1) (G.w v u) true]) a b ↔ connect l' ∈ kS s.q a b∧¬ (a=u∧b=v):=by
      intro a b l'
      simp only [upd2]
      split
      · rename_i e; simp [e.1,e.2,huv.symm]
      · split
        · rename_i e; have:=X0 l'; grind
        · grind
    refine ⟨?_,st.sa,st.asl,st.f1,st.f2,st.f3,st.f4,st.f5,st.l1,st.l2,st.se2,st.se3,st.db,st.pr,?_,?_,?_,?_,st.cu,?_,?_,st.rt,st.p0,st.dp,st.nm1,?_,st.nm3,st.de,st.sz,st.mst,?_⟩
    · intro a b m hm
      simp only [upd2] at hm
      have:=st.qa a b m
      have:=G.sym u v hadj
      grind
    · intro a b hh
      have h9:=st.hf a b hh
      refine ⟨h9.1,h9.2.1,h9.2.2.1,?_,h9.2.2.2.2⟩
      rw [ec]
      refine ⟨h9.2.2.2.1,?_⟩
      rintro ⟨rfl,rfl⟩
      unfold half at hh; omega
    · intro a b l' hm
      rw [ec] at hm
      exact st.cn a b l' hm.1
    · intro a b
      simp only [upd2]
      split
      · rename_i e; rw [List.countP_append]; have:=st.c1 v u; simpa [isCon] using this
      · split
        · have:=st.c1 u v; omega
        · exact st.c1 a b
    · intro a b hcr
      have h9:=st.co a b hcr
      refine ⟨h9.1,h9.2.1,?_⟩
      rw [ei]
      simp only [ec]
      by_cases e:a=v∧b=u
      · obtain ⟨rfl,rfl⟩:=e
        right; left
        refine ⟨e3.1,?_,fun l' hm=>hm.2 ⟨rfl,rfl⟩⟩
        rw [if_pos ⟨rfl,rfl⟩,hN]
        congr 2
        omega
      · rw [if_neg e]
        rcases h9.2.2 with h8 | h8 | h8
        · exact Or.inl ⟨h8.1,h8.2.1,fun l' hm=>h8.2.2 l' hm.1⟩
        · exact Or.inr (Or.inl ⟨h8.1,h8.2.1,fun l' hm=>h8.2.2 l' hm.1⟩)
        · right; right
          refine ⟨h8.1,h8.2.1,h8.2.2,?_⟩
          rintro ⟨rfl,rfl⟩
          exact e ⟨rfl,rfl⟩
    · intro a b hk
      have h9:=st.ch a b hk
      have n1:¬ (a=v∧b=u):=by rintro ⟨rfl,rfl⟩; exact hk.2 d1.2
      have n2:¬ (b=v∧a=u):=by rintro ⟨rfl,rfl⟩; exact hk.2 d1.1
      rw [ei,ei,if_neg n1,if_neg n2]
      exact h9
    · intro a b l' n f hm
      rcases em a b l' n f hm with ⟨rfl,rfl,rfl,rfl,rfl⟩ | hm
      · exact ⟨d1.1,by omega,fun _=>hN.symm⟩
      · exact st.i1 a b l' n f hm
    · intro a b l' n f hm
      rcases em a b l' n f hm with ⟨rfl,rfl,rfl,rfl,rfl⟩ | hm
      · exact ⟨a,b,G.sym _ _ hadj,⟨hs,c1⟩,rfl,hf⟩
      · exact st.nm2 a b l' n f hm
    · intro a b C D l' n f hAB l2 hm
      simp only [upd2] at hAB
      by_cases e:a=v∧b=u
      · rw [if_pos e] at hAB
        have hno:∀ l n f,initiate l n f ∉ kS s.q v u:=fun l n f hm=>by
          have:=(mem_inits _).2 hm; rw [e3.2] at this; cases this
        rcases List.append_eq_append_iff.1 hAB with ⟨c,w1,w2⟩ | ⟨c,w1,w2⟩
        · cases c with
          | nil=>simp at w2; rw [w2.2] at hm; cases hm
          | cons m t=>simp at w2
        · cases c with
          | nil=>simp at w2; rw [w2.2] at hm; cases hm
          | cons m t =>
            simp at w2
            refine hno l' n f ?_
            rw [w1,← w2.1]; simp
      · rw [if_neg e] at hAB
        by_cases e2:a=u∧b=v
        · rw [if_pos e2] at hAB
          refine X0 l2 ?_
          rw [hAB]; simp [hm]
        · rw [if_neg e2] at hAB
          exact st.oc a b C D l' n f hAB l2 hm
  · rw [ekR]
    have em:∀ a b l' n f,initiate l' n f ∈ upd2 (kR s.q) v u (kR s.q v u++[initiate (s.lev v + 1) (G.w v u) true]) a b→(a=v∧b=u∧l'=s.lev v + 1∧f=true)∨initiate l' n f ∈ kR s.q a b:=by
      intro a b l' n f hm
      simp only [upd2] at hm
      split at hm
      · rename_i e; simp at hm; grind
      · exact Or.inr hm
    have er:∀ a b w,report w ∈ upd2 (kR s.q) v u (kR s.q v u++[initiate (s.lev v + 1) (G.w v u) true]) a b ↔ report w ∈ kR s.q a b:=by
      intro a b w
      simp only [upd2]
      split
      · rename_i e; rw [e.1,e.2]; simp
      · rfl
    refine ⟨rp.s1,rp.s2,rp.s3,rp.s14,?_,?_,rp.s6,rp.s9,rp.si,rp.s13,?_,?_,?_,?_,rp.bm,rp.s15⟩
    · intro a b l' n hm b1 b2
      rcases em a b l' n false hm with ⟨_,_,_,e⟩ | hm
      · cases e
      · exact rp.s4 a b l' n hm b1 b2
    · intro a b l' n hm
      rcases em a b l' n true hm with ⟨rfl,rfl,rfl,_⟩ | hm
      · refine ⟨?_,by omega,rp.s15 b a d1 (by omega),fun hk=>(hk.2 d1.2).elim⟩
        have:=hc.1; omega
      · exact rp.s5 a b l' n hm
    · intro a b w hm
      rw [er] at hm
      rcases rp.r1 a b w hm with ⟨w1,w2,w3,w4,w5,w6,w7,w8⟩ | ⟨w1,w2,w3,w4,w5,w6,w7⟩
      · left
        refine ⟨w1,w2,w3,w4,w5,w6,w7,?_⟩
        have:¬ (b=v∧a=u):=by rintro ⟨rfl,rfl⟩; omega
        simp only [upd2,if_neg this]; exact w8
      · right
        have:¬ (b=v∧a=u):=by rintro ⟨rfl,rfl⟩; exact w1.2 d1.2
        refine ⟨w1,w2,w3,w4,w5,w6,?_⟩
        simp only [upd2,if_neg this]; exact w7
    · intro a b
      simp only [upd2]
      split
      · rw [List.countP_append]; have:=rp.r2 u v; simpa [isRep] using this
      · exact rp.r2 a b
    · intro a b b1 b2 b3 b4
      exact rp.hd a b b1 b2 b3 (fun w hm=>b4 w ((er b a w).2 hm))
    · intro a ha
      obtain ⟨li,l1,l2,l3⟩:=rp.ct a ha
      refine ⟨li,l1,l2,fun z=>?_⟩
      rw [l3 z]
      simp only [er]
  · rw [kT_add rfl,kT_rem hq rfl]; exact ts
  · rw [kX_add rfl,kX_rem hq rfl]; exact bs
  · rw [kX_add rfl,kX_rem hq rfl]; exact pa
def initq (q:Nat→Nat→List NMsg) (se:Nat→Nat→Nat) (x y:Nat) (R:List NMsg) (m:NMsg):Nat→Nat→List NMsg :=
  fun a b=>if a=x∧b=y then R else if a=y∧b≠x∧se y b=1 then q y b++[m] else q a b
theorem initq_fil (p:NMsg→Bool) {q:Nat→Nat→List NMsg} {se:Nat→Nat→Nat} {x y:Nat} {A B:List NMsg} {m:NMsg} (hq:q x y=A++m :: B) (hp:p m=false):(fun a b=>(initq q se x y (A++B) m a b).filter p)=fun a b=>(q a b).filter p:=by
  funext a b
  simp only [initq]
  split
  · rename_i e; rw [e.1,e.2,hq]; simp [hp]
  · split
    · rename_i e; rw [e.1]; simp [hp]
    · rfl
theorem chain_snoc {l n:Nat} {f:Bool} (I:List (Nat × Nat × Bool)):∀ (p p':Nat × Nat),chain p I p'→p'.1 < l→chain p (I++[(l,n,f)]) (l,n):=by
  induction I with
  | nil=>intro p p' h1 h2; simp only [chain] at h1; subst h1; exact ⟨h2,rfl⟩
  | cons a t ih =>
    obtain ⟨a1,a2,a3⟩:=a
    intro p p' h1 h2
    exact ⟨h1.1,ih _ _ h1.2 h2⟩
theorem split_last {X C D:List NMsg} {m r:NMsg} (h:X++[m]=C++r :: D):(X=C∧D=[]∧m=r)∨∃ D',X=C++r :: D'∧D=D'++[m]:=by
  rcases List.append_eq_append_iff.1 h with ⟨c,w1,w2⟩ | ⟨c,w1,w2⟩
  · cases c with
    | nil=>simp at w1 w2; exact Or.inl ⟨w1.symm,w2.2,w2.1⟩
    | cons a t=>simp at w2
  · cases c with
    | nil=>simp at w1 w2; exact Or.inl ⟨w1,w2.2,w2.1.symm⟩
    | cons a t =>
      simp at w2
      right
      refine ⟨t,by rw [w1,w2.1],w2.2⟩
theorem ev_init {G : Gr} {s : St} {g : Gh} {h : Gs} (hI : Inv G s g h) {x y l n : Nat} {f : Bool} {A B : List NMsg} (hq : s.q x y = A ++ initiate l n f :: B) (hA0 : inits A = []) (hA1 : ∀ l, connect l ∉ A) (hA2 : ∀ w, report w ∉ A) (c' : Nat)
    (hc:(f=false∧c'=0)∨(f=true∧∃ kl:List Nat,kl.Nodup∧kl.length=c'∧∀ z,z ∈ kl ↔ (z≠x∧s.se y z=1))) :
    s.fnd y=false∧s.lev y < l∧Inv G { s with lev:=upd s.lev y l,nam:=upd s.nam y n,inn:=upd s.inn y (some x),best:=upd s.best y none,bw:=upd s.bw y 1001,fnd:=upd s.fnd y f,cnt:=upd s.cnt y c',q:=initq s.q s.se x y (A++B) (initiate l n f) } g { h with tg:=fun z=>(z=y∧f=true)∨h.tg z }:=by
  have hrp:=root_ph hI
  obtain ⟨q0,st,rp,ts,bs,pa⟩:=hI
  have hmS:initiate l n f ∈ kS s.q x y:=by simp only [kS,hq]; simp [isIni]
  have hmR:initiate l n f ∈ kR s.q x y:=ini_RS.2 hmS
  obtain ⟨hpar,hlL,hnN⟩:=st.i1 x y l n f hmS
  have hd:=st.pr y x hpar
  have hadj:=(st.sa y x (by unfold dbl at hd; omega)).1
  have haw:=(st.sa y x (by unfold dbl at hd; omega)).2
  have hxy:x≠y:=by rintro rfl; exact G.irr _ hadj
  have hne:s.lev y≠g.L y:=fun e=>st.noIni e hmS
  have hfy:s.fnd y=false:=by
    cases e:s.fnd y
    · rfl
    · exact (hne (rp.s1 y e).2.1).elim
  obtain ⟨ht1,ht2⟩:=ts.t0 y hfy
  have eSq:kS s.q x y=A.filter (fun m=>isCon m || isIni m)++initiate l n f :: B.filter (fun m=>isCon m || isIni m):=by
    simp only [kS,hq,List.filter_append,List.filter_cons,isIni,Bool.or_true,if_true]
  have eI:inits (kS s.q x y)=(l,n,f) :: inits B:=by
    rw [eSq,inits_app,inits_fil _ (by intros; rfl) A,hA0]
    simp only [inits,List.nil_append]
    rw [inits_fil _ (by intros; rfl) B]
  have noconS:∀ l',connect l' ∉ kS s.q x y:=fun l' hm=>by
    rw [eSq] at hm
    rcases List.mem_append.1 hm with hm | hm
    · exact hA1 l' (List.mem_filter.1 hm).1
    · simp only [List.mem_cons] at hm
      rcases hm with hm | hm
      · cases hm
      · exact st.oc x y _ _ l n f eSq l' hm
  have hcase:(kid g x y∧s.lev y < l∧chain (l,n) (inits B) (s.lev x,s.nam x))∨(core g x y∧s.lev y + 1=g.L y∧l=g.L y∧n=g.N y∧f=true∧inits B=[]∧∀ l',connect l' ∉ kS s.q y x):=by
    by_cases e:g.par x=some y
    · right
      have:=st.co x y ⟨e,hpar⟩
      rw [eI] at this
      refine ⟨⟨e,hpar⟩,?_⟩
      rcases this.2.2 with h8 | h8 | h8
      · cases h8.2.1
      · have h9:=h8.2.1
        simp only [List.cons.injEq,Prod.mk.injEq] at h9
        exact ⟨h8.1,h9.1.1,h9.1.2.1,h9.1.2.2,h9.2,h8.2.2⟩
      · cases h8.2.1
    · left
      have h9:=(st.ch x y ⟨hpar,e⟩).2
      rw [eI] at h9
      exact ⟨⟨hpar,e⟩,h9.1,h9.2⟩
  have hlt:s.lev y < l:=by rcases hcase with h9 | h9 <;> omega
  refine ⟨hfy,hlt,?_⟩
  have hfr:g.fr y x:=(st.db y x hd).1
  have f4x:=st.f4 y x hfr
  have kids:∀ z,z≠x→s.se y z=1→kid g y z:=fun z hz hs=>by
    have h2:s.se z y=1:=by
      apply Classical.byContradiction
      intro e
      have:=(st.hf y z ⟨hs,e⟩).2.1
      rw [hpar] at this; cases this
    have:=(st.db y z ⟨hs,h2⟩).2
    unfold kid
    rw [hpar] at this ⊢
    grind
  have kids2:∀ z,kid g y z→z≠x∧s.se y z=1:=fun z hk=>by
    have:=st.pr z y hk.1
    refine ⟨?_,this.2⟩
    rintro rfl
    exact hk.2 hpar
  have levz:∀ z,kid g y z→s.lev z≠g.L z:=fun z hk e=>hne (st.up hk e).2
  have fz:∀ z,kid g y z→g.fr y z:=fun z hk=>st.f2 _ _ (st.db z y (st.pr z y hk.1)).1
  have ekS:∀ a b,inits (kS (initq s.q s.se x y (A++B) (initiate l n f)) a b)=if a=x∧b=y then inits B else if a=y∧b≠x∧s.se y b=1 then inits (kS s.q y b)++[(l,n,f)] else inits (kS s.q a b):=by
    intro a b
    simp only [kS,initq]
    rw [inits_fil _ (by intros; rfl)]
    split
    · rw [inits_app,hA0]; rfl
    · split
      · rw [inits_app,inits_fil _ (by intros; rfl)]; rfl
      · rw [inits_fil _ (by intros; rfl)]
  have em:∀ a b l' n' f',initiate l' n' f' ∈ kS (initq s.q s.se x y (A++B) (initiate l n f)) a b→initiate l' n' f' ∈ kS s.q a b∨(a=y∧kid g y b∧l'=l∧n'=n∧f'=f):=by
    intro a b l' n' f' hm
    rw [← mem_inits,ekS] at hm
    split at hm
    · rename_i e
      left
      rw [e.1,e.2,← mem_inits,eI]
      simp [hm]
    · split at hm
      · rename_i e
        rcases List.mem_append.1 hm with hm | hm
        · left; rw [e.1]; exact (mem_inits _).1 hm
        · right
          simp only [List.mem_singleton,Prod.mk.injEq] at hm
          exact ⟨e.1,kids b e.2.1 e.2.2,hm.1,hm.2.1,hm.2.2⟩
      · left; exact (mem_inits _).1 hm
  have ec:∀ a b,(kS (initq s.q s.se x y (A++B) (initiate l n f)) a b).filter isCon=(kS s.q a b).filter isCon:=by
    intro a b
    have:=congrFun (congrFun (initq_fil isCon (se:=s.se) hq rfl) a) b
    simp only [kS,List.filter_filter] at this ⊢
    have e1:∀ L:List NMsg,L.filter (fun a=>isCon a && (isCon a || isIni a))=L.filter isCon:=fun L=>by
      congr 1; funext m; cases m <;> rfl
    rw [e1,e1]; exact this
  have ecm:∀ a b l',connect l' ∈ kS (initq s.q s.se x y (A++B) (initiate l n f)) a b ↔ connect l' ∈ kS s.q a b:=by
    intro a b l'
    have:=ec a b
    constructor
    · intro hm
      have h2:connect l' ∈ (kS s.q a b).filter isCon:=by rw [← this]; exact List.mem_filter.2 ⟨hm,rfl⟩
      exact (List.mem_filter.1 h2).1
    · intro hm
      have h2:connect l' ∈ (kS (initq s.q s.se x y (A++B) (initiate l n f)) a b).filter isCon:=by rw [this]; exact List.mem_filter.2 ⟨hm,rfl⟩
      exact (List.mem_filter.1 h2).1
  have ekT:kT (initq s.q s.se x y (A++B) (initiate l n f))=kT s.q:=initq_fil (fun m=>isTest m || isAns m) hq rfl
  have ekX:kX (initq s.q s.se x y (A++B) (initiate l n f))=kX s.q:=initq_fil isRoot hq rfl
  have lmono:∀ z,s.lev z≤upd s.lev y l z:=fun z=>by simp only [upd]; split; (rename_i e; subst e; omega); exact Nat.le_refl _
  refine ⟨?_,?_,?_,?_,?_,?_⟩
  · intro a b m hm
    simp only [initq] at hm
    have h9:=q0 a b m
    split at hm
    · rename_i e; rw [e.1,e.2]; exact ⟨G.sym _ _ hadj,(q0 x y (initiate l n f) (by rw [hq]; simp)).2⟩
    · split at hm
      · rename_i e
        rw [e.1]
        exact ⟨(st.sa y b (by omega)).1,haw⟩
      · exact h9 hm
  · dsimp only
    refine ⟨?_,st.sa,?_,st.f1,st.f2,st.f3,st.f4,st.f5,?_,?_,st.se2,st.se3,st.db,st.pr,?_,?_,?_,?_,st.cu,?_,?_,st.rt,st.p0,st.dp,?_,?_,st.nm3,st.de,st.sz,st.mst,?_⟩
    · intro a b m hm
      simp only [kS,initq] at hm
      have hm:=(List.mem_filter.1 hm).1
      have h9:=q0 a b m
      split at hm
      · rename_i e; rw [e.1,e.2]; exact ⟨G.sym _ _ hadj,(q0 x y (initiate l n f) (by rw [hq]; simp)).2⟩
      · split at hm
        · rename_i e
          rw [e.1]
          exact ⟨(st.sa y b (by omega)).1,haw⟩
        · exact h9 hm
    · intro z hz
      have:z≠y:=by rintro rfl; rw [haw] at hz; cases hz
      simp only [upd,if_neg this]
      exact st.asl z hz
    · intro z; simp only [upd]; have:=st.l1 z; grind
    · intro z; simp only [upd]; have:=st.l2 z; grind
    · intro a b hh
      have h9:=st.hf a b hh
      have:a≠y:=by rintro rfl; rw [hpar] at h9; grind
      refine ⟨h9.1,h9.2.1,h9.2.2.1,(ecm a b _).2 h9.2.2.2.1,h9.2.2.2.2.1,Nat.le_trans h9.2.2.2.2.2.1 (lmono b),?_⟩
      simp only [upd,if_neg this]; exact h9.2.2.2.2.2.2
    · intro a b l' hm
      rw [ecm] at hm
      have h9:=st.cn a b l' hm
      refine ⟨h9.1,fun e=>?_,h9.2.2⟩
      have h8:=h9.2.1 e
      have hay:a≠y:=by
        rintro rfl
        have hb:b=x:=by have:=h8.1.1; rw [hpar] at this; cases this; rfl
        subst hb
        rcases hcase with h7 | h7
        · exact h7.1.2 h8.1.2
        · exact h7.2.2.2.2.2.2 l' hm
      have hby:b≠y:=by
        rintro rfl
        have ha:a=x:=by have:=h8.1.2; rw [hpar] at this; cases this; rfl
        subst ha
        exact noconS l' hm
      simp only [upd,if_neg hay,if_neg hby]
      exact h8
    · intro a b
      have e1:∀ L:List NMsg,L.countP isCon=(L.filter isCon).length:=fun L=>by rw [List.countP_eq_length_filter]
      rw [e1,ec,← e1]
      exact st.c1 a b
    · intro a b hcr
      have h9:=st.co a b hcr
      refine ⟨h9.1,h9.2.1,?_⟩
      rw [ekS]
      simp only [ecm]
      by_cases e:a=x∧b=y
      · obtain ⟨rfl,rfl⟩:=e
        rcases hcase with h7 | h7
        · exact (h7.1.2 hcr.1).elim
        · left
          rw [if_pos ⟨rfl,rfl⟩]
          simp only [upd,if_true]
          exact ⟨h7.2.2.1,h7.2.2.2.2.2.1,h7.2.2.2.2.2.2⟩
      · rw [if_neg e]
        have e2:¬ (a=y∧b≠x∧s.se y b=1):=by
          rintro ⟨rfl,e3,_⟩
          have:=hcr.1; rw [hpar] at this; cases this; exact e3 rfl
        rw [if_neg e2]
        have hby:b≠y:=by
          rintro rfl
          have:=hcr.2; rw [hpar] at this; cases this; exact e ⟨rfl,rfl⟩
        simp only [upd,if_neg hby]
        exact h9.2.2
    · intro a b hk
      have h9:=st.ch a b hk
      rw [ekS,ekS]
      by_cases e:b=y
      · subst e
        have ha:a=x:=by have:=hk.1; rw [hpar] at this; cases this; rfl
        subst ha
        rw [if_neg (by grind),if_neg (by grind),if_pos ⟨rfl,rfl⟩]
        simp only [upd,if_true,if_neg hxy]
        refine ⟨h9.1,?_⟩
        rcases hcase with h7 | h7
        · exact h7.2.2
        · exact (hk.2 h7.1.1).elim
      · by_cases e2:a=y
        · subst e2
          obtain ⟨w1,w2⟩:=kids2 b hk
          rw [if_neg (by grind),if_neg (by grind),if_neg (by grind),if_pos ⟨rfl,w1,w2⟩]
          simp only [upd,if_true,if_neg e]
          exact ⟨h9.1,chain_snoc _ _ _ h9.2 hlt⟩
        · rw [if_neg (by grind),if_neg (by grind),if_neg (by grind),if_neg (by grind)]
          simp only [upd,if_neg e,if_neg e2]
          exact h9
    · intro a b l' n' f' hm
      rcases em a b l' n' f' hm with hm | ⟨rfl,hk,rfl,rfl,rfl⟩
      · exact st.i1 a b l' n' f' hm
      · have f4:=st.f4 a b (fz b hk)
        refine ⟨hk.1,by omega,fun e=>?_⟩
        rw [← f4.2.1]; exact hnN (by omega)
    · intro z hz
      by_cases e:z=y
      · subst e
        simp only [upd,if_true]
        exact st.nm2 x z l n f hmS
      · simp only [upd,if_neg e] at hz ⊢
        exact st.nm1 z hz
    · intro a b l' n' f' hm
      rcases em a b l' n' f' hm with hm | ⟨rfl,hk,rfl,rfl,rfl⟩
      · exact st.nm2 a b l' n' f' hm
      · obtain ⟨p,r,w1,w2,w3,w4⟩:=st.nm2 x a l' n' f' hmS
        exact ⟨p,r,w1,w2,w3,st.f3 _ _ _ (st.f2 _ _ (fz b hk)) w4⟩
    · intro a b C D l' n' f' hAB l2 hm
      have hcon:connect l2 ∈ kS (initq s.q s.se x y (A++B) (initiate l n f)) a b:=by rw [hAB]; simp [hm]
      rw [ecm] at hcon
      by_cases e:a=x∧b=y
      · obtain ⟨rfl,rfl⟩:=e
        exact noconS l2 hcon
      · by_cases e2:a=y∧b≠x∧s.se y b=1
        · have:kS (initq s.q s.se x y (A++B) (initiate l n f)) a b=kS s.q a b++[initiate l n f]:=by
            unfold kS initq
            rw [if_neg e,if_pos e2,e2.1,List.filter_append]; rfl
          rw [this] at hAB
          rcases split_last hAB with ⟨_,w2,_⟩ | ⟨D',w1,w2⟩
          · rw [w2] at hm; cases hm
          · rw [w2] at hm
            have hm':connect l2 ∈ D':=by simpa using hm
            exact st.oc a b C D' l' n' f' w1 l2 hm'
        · have:kS (initq s.q s.se x y (A++B) (initiate l n f)) a b=kS s.q a b:=by
            simp only [kS,initq,if_neg e,if_neg e2]
          rw [this] at hAB
          exact st.oc a b C D l' n' f' hAB l2 hm
  · dsimp only
    have er:∀ a b w,report w ∈ kR (initq s.q s.se x y (A++B) (initiate l n f)) a b ↔ report w ∈ kR s.q a b:=by
      intro a b w
      simp only [kR,initq,List.mem_filter]
      split
      · rename_i e; rw [e.1,e.2,hq]; simp
      · split
        · rename_i e; rw [e.1]; simp
        · rfl
    have emR:∀ a b l' n' f',initiate l' n' f' ∈ kR (initq s.q s.se x y (A++B) (initiate l n f)) a b→initiate l' n' f' ∈ kR s.q a b∨(a=y∧kid g y b∧l'=l∧n'=n∧f'=f):=by
      intro a b l' n' f' hm
      rcases em a b l' n' f' (ini_RS.1 hm) with h9 | h9
      · exact Or.inl (ini_RS.2 h9)
      · exact Or.inr h9
    have hft:f=true→g.ph y=0∧l=g.L y∧¬ h.Z y:=fun e=>by
      subst e
      have:=rp.s5 x y l n hmR
      exact ⟨this.1,this.2.1,this.2.2.1⟩
    have hff:f=false→g.ph y=0→l=g.L y→h.Z y:=fun e=>by
      subst e
      exact rp.s4 x y l n hmR
    refine ⟨?_,?_,rp.s3,?_,?_,?_,?_,rp.s9,?_,?_,?_,?_,?_,?_,?_,?_⟩
    · intro z hz
      simp only [upd] at hz ⊢
      have:=rp.s1 z
      grind
    · intro z b1 b2 b3
      simp only [upd] at b2 b3
      have:=rp.s2 z b1
      grind
    · intro a b b1 b2 b3 b4
      simp only [upd] at b4
      have:=rp.s14 a b b1 b2 b3
      grind
    · intro a b l' n' hm b1 b2
      rcases emR a b l' n' false hm with hm | ⟨rfl,hk,rfl,rfl,hf'⟩
      · exact rp.s4 a b l' n' hm b1 b2
      · have f4:=st.f4 a b (fz b hk)
        exact (rp.s3 a b (by omega) hk (hff hf'.symm (by omega) (by omega))).1
    · intro a b l' n' hm
      rcases emR a b l' n' true hm with hm | ⟨rfl,hk,rfl,rfl,hf'⟩
      · have h9:=rp.s5 a b l' n' hm
        refine ⟨h9.1,h9.2.1,h9.2.2.1,fun hk=>?_⟩
        have:=h9.2.2.2 hk
        simp only [upd]
        by_cases e:a=y
        · subst e; rw [hfy] at this; cases this
        · rw [if_neg e]; exact this
      · have f4:=st.f4 a b (fz b hk)
        have h9:=hft hf'.symm
        refine ⟨by omega,by omega,rp.s14 a b h9.1 hk h9.2.2 hfy,fun _=>?_⟩
        simp only [upd,if_true]; exact hf'.symm
    · intro z hz
      simp only [upd] at hz ⊢
      have:=rp.s6 z
      grind
    · intro z b1 b2
      simp only [upd] at b2 ⊢
      have:=rp.si z b1
      grind
    · intro a b hcr b2 b3
      simp only [upd] at b2 b3 ⊢
      by_cases e:a=y
      · subst e
        rcases hcase with h7 | h7
        · have:=hcr.1; rw [hpar] at this; cases this
          exact (h7.1.2 hcr.2).elim
        · rw [if_pos rfl,h7.2.2.2.2.1] at b3; cases b3
      · rw [if_neg e] at b2 b3 ⊢
        exact rp.s13 a b hcr b2 b3
    · intro a b w hm
      rw [er] at hm
      by_cases exy:b=x∧a=y
      · obtain ⟨rfl,rfl⟩:=exy
        rcases rp.r1 a b w hm with ⟨w1,w2,w3,w4,w5,w6,w7,w8⟩ | ⟨w1,w2,w3,w4,w5,w6,w7⟩
        · left
          have hcr:core g b a:=⟨w2,hpar⟩
          simp only [upd,if_neg hxy]
          refine ⟨w1,w2,w3,w4,w5,w6,fun hk=>(hk.2 hpar).elim,?_⟩
          intro C D hCD
          have hi:inits (kR (initq s.q s.se b a (A++B) (initiate l n f)) b a)=[]:=by
            rw [inits_RS,ekS,if_pos ⟨rfl,rfl⟩]
            rcases hcase with h7 | h7
            · exact (h7.1.2 hcr.1).elim
            · exact h7.2.2.2.2.2.1
          rw [hCD,inits_app] at hi
          have:=List.append_eq_nil_iff.1 hi
          simpa [inits] using this.2
        · exfalso
          have eR:kR s.q b a=A.filter (fun m=>isRep m || isIni m)++initiate l n f :: B.filter (fun m=>isRep m || isIni m):=by
            simp only [kR,hq,List.filter_append,List.filter_cons,isIni,Bool.or_true,if_true]
          rw [eR] at hm
          rcases List.mem_append.1 hm with hm | hm
          · exact hA2 w (List.mem_filter.1 hm).1
          · simp only [List.mem_cons] at hm
            rcases hm with hm | hm
            · cases hm
            · obtain ⟨P,Q,hPQ⟩:=List.append_of_mem hm
              have:=w7 (A.filter (fun m=>isRep m || isIni m)++initiate l n f :: P) Q (by rw [eR,hPQ]; simp)
              rw [inits_app] at this
              have:=(List.append_eq_nil_iff.1 this).2
              simp [inits] at this
      · by_cases eb:b=y
        · subst eb
          rcases rp.r1 a b w hm with ⟨w1,w2,w3,w4,w5,w6,w7,w8⟩ | ⟨w1,w2,w3,w4,w5,w6,w7⟩
          · exact (hne w3).elim
          · right
            have hab:a≠b:=by rintro rfl; exact w1.2 w1.1
            simp only [upd,if_neg hab,if_true]
            refine ⟨w1,w2,w3,w4,w5,fun e=>(levz a w1 e).elim,?_⟩
            intro C D hCD
            obtain ⟨v1,v2⟩:=kids2 a w1
            have:kR (initq s.q s.se x b (A++B) (initiate l n f)) b a=kR s.q b a++[initiate l n f]:=by
              unfold kR initq
              rw [if_neg (by grind),if_pos ⟨rfl,v1,v2⟩,List.filter_append]; rfl
            rw [this] at hCD
            rcases split_last hCD with ⟨_,_,v3⟩ | ⟨D',v3,_⟩
            · cases v3
            · exact w7 C D' v3
        · have hq':kR (initq s.q s.se x y (A++B) (initiate l n f)) b a=kR s.q b a:=by
            simp only [kR,initq]
            rw [if_neg exy,if_neg (by grind)]
          rw [hq']
          rcases rp.r1 a b w hm with ⟨w1,w2,w3,w4,w5,w6,w7,w8⟩ | ⟨w1,w2,w3,w4,w5,w6,w7⟩
          · left
            simp only [upd,if_neg eb]
            refine ⟨w1,w2,w3,w4,w5,w6,fun hk=>?_,w8⟩
            by_cases ea:a=y
            · subst ea; have:=w7 hk; rw [hfy] at this; cases this
            · rw [if_neg ea]; exact w7 hk
          · right
            have ea:a≠y:=by
              rintro rfl
              have:=w1.1; rw [hpar] at this; cases this
              exact exy ⟨rfl,rfl⟩
            simp only [upd,if_neg eb,if_neg ea]
            exact ⟨w1,w2,w3,w4,w5,w6,w7⟩
    · intro a b
      have e1:∀ L:List NMsg,L.countP isRep=(L.filter isRep).length:=fun L=>by rw [List.countP_eq_length_filter]
      have h9:=congrFun (congrFun (initq_fil isRep (se:=s.se) hq rfl) b) a
      have e2:∀ L:List NMsg,(L.filter (fun m=>isRep m || isIni m)).filter isRep=L.filter isRep:=fun L=>by
        rw [List.filter_filter]; congr 1; funext m; cases m <;> rfl
      rw [e1]
      simp only [kR,e2]
      have:=rp.r2 a b
      rw [e1] at this
      simp only [kR,e2] at this
      rw [h9]; exact this
    · intro a b b1 b2 b3 b4
      simp only [upd] at b1 ⊢
      by_cases e:a=y
      · subst e
        rw [if_pos rfl] at b1
        have h9:=hft b1
        exact (rp.s14 a b h9.1 b2 h9.2.2 hfy b3).elim
      · rw [if_neg e] at b1 ⊢
        exact rp.hd a b b1 b2 b3 (fun w hm=>b4 w ((er b a w).2 hm))
    · intro a ha
      simp only [upd] at ha ⊢
      by_cases e:a=y
      · subst e
        rw [if_pos rfl] at ha ⊢
        rcases hc with ⟨e2,_⟩ | ⟨_,kl,l1,l2,l3⟩
        · rw [ha] at e2; cases e2
        · refine ⟨kl,l1,l2,fun z=>?_⟩
          rw [l3 z]
          have h9:=hft ha
          constructor
          · rintro ⟨v1,v2⟩
            have hk:=kids z v1 v2
            exact ⟨hk,Or.inl (rp.s14 a z h9.1 hk h9.2.2 hfy)⟩
          · rintro ⟨hk,_⟩; exact kids2 z hk
      · rw [if_neg e] at ha ⊢
        obtain ⟨li,l1,l2,l3⟩:=rp.ct a ha
        refine ⟨li,l1,l2,fun z=>?_⟩
        rw [l3 z]
        simp only [er]
    · intro z; simp only [upd]; have:=rp.bm z; grind
    · intro a b hcr b2
      simp only [upd] at b2
      by_cases e:a=y
      · subst e
        rw [if_pos rfl] at b2
        rcases hcase with h7 | h7
        · have:=hcr.1; rw [hpar] at this; cases this
          exact (h7.1.2 hcr.2).elim
        · exact (b2 h7.2.2.1).elim
      · rw [if_neg e] at b2
        exact rp.s15 a b hcr b2
  · rw [ekT]
    dsimp only
    refine ⟨?_,ts.t1,?_,?_,?_,?_,ts.t6,ts.t7⟩
    · intro z hz; simp only [upd] at hz; have:=ts.t0 z; grind
    · intro z b b1 b2 b3 b4 b5
      simp only [upd] at b1 ⊢
      have:=ts.t2 z b
      grind
    · intro z hz; have:=ts.t3 z; grind
    · intro z b l' n' hm
      have h9:=ts.t4 z b l' n' hm
      simp only [upd]
      have:=lmono b
      grind
    · intro z b hm
      have h9:=ts.t5 z b hm
      exact ⟨h9.1,h9.2.1,Nat.le_trans h9.2.2 (lmono b)⟩
  · rw [ekX]
    dsimp only
    refine ⟨?_,?_,?_,bs.ov⟩
    · intro z b1 b2 b3 b4
      by_cases e:z=y
      · subst e; simp [upd] at b4
      · simp only [upd,if_neg e] at b2 b4
        obtain ⟨v',d1,d2,d3⟩:=bs.bb z b1 b2 b3 b4
        refine ⟨v',by simp only [upd,if_neg e]; exact d1,d2,?_⟩
        rcases d3 with d3 | d3 | d3
        · exact Or.inl d3
        · exact Or.inr (Or.inl ⟨d3.1,by simp only [upd,if_neg e]; exact d3.2.1,d3.2.2.1,Nat.le_trans d3.2.2.2 (lmono v')⟩)
        · right; right
          have:v'≠y:=by rintro rfl; exact hne d3.2.1
          simp only [upd,if_neg e,if_neg this]
          exact d3
    · intro z hz
      have h9:=bs.k1 z hz
      have:z≠y:=by rintro rfl; rw [hpar] at h9; grind
      simp only [upd,if_neg this]
      exact h9
    · intro z c hr
      have h9:=bs.k2 z c hr
      have e1:z≠y:=by rintro rfl; rw [hpar] at h9; grind
      have e2:c≠y:=by rintro rfl; exact hne h9.2.2.2.2.1
      simp only [upd,if_neg e1,if_neg e2]
      exact h9
  · rw [ekX]
    refine ⟨pa.p1,pa.u1,?_,?_⟩
    · intro z hz
      have h9:=pa.k3 z hz
      have h8:=bs.k1 z hz
      have:z≠y:=by rintro rfl; rw [hpar] at h8; grind
      simp only [upd,if_neg this]
      exact h9
    · intro z c hr
      have h9:=pa.k4 z c hr
      have h8:=bs.k2 z c hr
      have e1:z≠y:=by rintro rfl; rw [hpar] at h8; grind
      have e2:c≠y:=by rintro rfl; exact hne h8.2.2.2.2.1
      simp only [upd,if_neg e1,if_neg e2]
      exact h9
end Go.Proofs.YtlfijfodklhplaaGreat.Ghs
