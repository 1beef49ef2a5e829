import Derived.Test.YtlfijfodklhplaaGreatSf43
set_option linter.unusedVariables false
set_option linter.unusedSimpArgs false
namespace Go.Proofs.YtlfijfodklhplaaGreat.Ghs
open Go.RowKit
open NMsg
open Classical in
theorem ev_absorb {G:Gr} {s:St} {g:Gh} {h:Gs} (hI:Inv G s g h) {u v l:Nat} {A B:List NMsg} (hq:s.q u v=A++connect l :: B) (hl:l < s.lev v) (cnt':Nat→Nat) (hcnt:(s.fnd v=true∧cnt'=upd s.cnt v (s.cnt v + 1))∨(s.fnd v=false∧cnt'=s.cnt)) :
    Inv G { s with se := upd2 s.se v u 1, cnt := cnt', q := addq (upd2 s.q u v (A ++ B)) v u (initiate (s.lev v) (s.nam v) (s.fnd v)) }
      { fr:=fun a b=>g.fr a b∨((g.fr u a∨g.fr v a)∧(g.fr u b∨g.fr v b)),L:=fun z=>if g.fr u z then g.L v else g.L z,N:=fun z=>if g.fr u z then g.N v else g.N z,ph:=fun z=>if g.fr u z then g.ph v else g.ph z,W:=fun z=>if g.fr u z then g.W v else g.W z,par:=upd g.par u (some v),dep:=fun z=>if g.fr u z then g.dep v + 1 + g.dep z else g.dep z }
      { h with Z:=fun z=>if g.fr u z then h.Z v else h.Z z,be:=fun z=>if g.fr u z then G.w u v else h.be z,ps:=fun z=>h.ps z∧¬ g.fr u z }:=by
  obtain ⟨X,x1,x2,x3,x4,x5,x6⟩:=kS_out hq
  obtain ⟨q0,st,rp,ts,bs,pa⟩:=hI
  obtain ⟨c1,c2,c3⟩:=st.cn u v l x3
  have hs:s.se v u≠1:=fun e=>by have:=c2 e; omega
  obtain ⟨b1,b2,b3,b4,b5,b6,b7⟩:=st.hf u v ⟨c1,hs⟩
  have hlu:=c3 hs
  have hadj:=(st.qa u v _ x3).1
  have hadj':=G.sym _ _ hadj
  have huv:u≠v:=by rintro rfl; exact G.irr _ hadj
  have hau:=(st.qa u v _ x3).2
  have lv:=st.l1 v
  have hav:s.aw v=true:=by
    cases e:s.aw v
    · have:=st.asl v e; omega
    · rfl
  have f1:=st.f1
  have f2:=st.f2
  have f3:=st.f3
  have fH:∀ a b,g.fr a b→(g.fr u a ↔ g.fr u b):=fun a b e=>⟨fun x=>f3 _ _ _ x e,fun x=>f3 _ _ _ x (f2 _ _ e)⟩
  have fK:∀ a b,g.fr a b→(g.fr v a ↔ g.fr v b):=fun a b e=>⟨fun x=>f3 _ _ _ x e,fun x=>f3 _ _ _ x (f2 _ _ e)⟩
  have HK:∀ z,g.fr u z→¬ g.fr v z:=fun z a b=>b3 (f3 _ _ _ a (f2 _ _ b))
  have hH:∀ z,g.fr u z→g.L z=g.L u∧g.ph z=2∧s.lev z≤g.L u∧s.lev z < g.L v∧s.fnd z=false:=fun z hz=>by
    have f4:=st.f4 u z hz
    have:=st.l1 z
    refine ⟨f4.1.symm,by omega,by omega,by omega,?_⟩
    cases e:s.fnd z
    · rfl
    · have:=rp.s1 z e; omega
  have hK:∀ z,g.fr v z→g.L z=g.L v∧g.N z=g.N v∧g.ph z=g.ph v∧g.W z=g.W v:=fun z hz=>by
    have f4:=st.f4 v z hz
    exact ⟨f4.1.symm,f4.2.1.symm,f4.2.2.1.symm,f4.2.2.2.symm⟩
  have hvu:¬ g.fr u v:=b3
  have rH:∀ z,g.fr u z→g.par z=none→z=u:=fun z hz e=>(st.rt u z b2 e hz).symm
  have parf:∀ a b,g.par a=some b→g.fr a b:=fun a b e=>(st.db a b (st.pr a b e)).1
  have npvu:g.par v≠some u:=fun e=>hvu (f2 _ _ (parf _ _ e))
  have hp':∀ a b,upd g.par u (some v) a=some b ↔ (g.par a=some b∨(a=u∧b=v)):=fun a b=>by simp only [upd]; grind
  have kidf:∀ x y,kid g x y→g.fr x y:=fun x y e=>f2 _ _ (parf _ _ e.1)
  have corf:∀ x y,core g x y→g.fr x y:=fun x y e=>parf _ _ e.1
  have core0:∀ x y,core g x y→¬ g.fr u x∧¬ g.fr u y:=fun x y e=>by
    have:=(st.co x y e).1
    have h1:=fH x y (corf x y e)
    have h2:=hH x
    grind
  have se0:s.se v u=0:=by
    have:=st.se3 v u
    have:=st.se2 v u
    have:=f2 v u
    grind
  have hse:∀ a b,upd2 s.se v u 1 a b=1 ↔ (s.se a b=1∨(a=v∧b=u)):=fun a b=>by simp only [upd2]; grind
  have hse0:∀ a b,upd2 s.se v u 1 a b=0 ↔ (s.se a b=0∧¬ (a=v∧b=u)):=fun a b=>by simp only [upd2]; grind
  have hse2:∀ a b,upd2 s.se v u 1 a b=2 ↔ s.se a b=2:=fun a b=>by simp only [upd2]; grind
  have hd:∀ a b,dbl (upd2 s.se v u 1) a b ↔ (dbl s.se a b∨(a=v∧b=u)∨(a=u∧b=v)):=fun a b=>by simp only [dbl,hse]; grind
  have hh:∀ a b,half (upd2 s.se v u 1) a b→half s.se a b∧¬ g.fr u a:=fun a b e=>by
    have e1:half s.se a b∧¬ (a=u∧b=v):=by
      unfold half at *; rw [hse,ne_eq,hse] at e; grind
    refine ⟨e1.1,fun e2=>e1.2 ?_⟩
    have h9:=st.hf a b e1.1
    have:=rH a e2 h9.2.1
    subst this
    have h8:=(st.sa a b (by have:=e1.1.1; omega)).1
    have:=G.wd a b a v h8 hadj (by omega)
    refine ⟨rfl,?_⟩
    rcases this with x | x
    · exact x.2
    · exact (huv x.1).elim
  have X0:∀ l,connect l ∉ X:=fun l hm=>by
    have h1:=st.c1 u v
    have:=cnt0 (show X.countP isCon=0 by omega) _ hm
    simp [isCon] at this
  have c0:∀ l,connect l ∉ kS s.q v u:=fun l hm=>hs (st.cn v u l hm).1
  have i0:inits (kS s.q v u)=[]:=by
    apply List.eq_nil_iff_forall_not_mem.2
    rintro ⟨l,n,f⟩ hm
    have:=(st.i1 v u l n f ((mem_inits _).1 hm)).1
    rw [b2] at this; cases this
  have i0':inits (kS s.q u v)=[]:=by
    apply List.eq_nil_iff_forall_not_mem.2
    rintro ⟨l,n,f⟩ hm
    exact npvu (st.i1 u v l n f ((mem_inits _).1 hm)).1
  have ekS:kS (addq (upd2 s.q u v (A++B)) v u (initiate (s.lev v) (s.nam v) (s.fnd v)))=upd2 (upd2 (kS s.q) u v X) v u (kS s.q v u++[initiate (s.lev v) (s.nam v) (s.fnd v)]):=by
    rw [kS_addT rfl,x1]; congr 1; simp [upd2,huv.symm]
  have ekR:kR (addq (upd2 s.q u v (A++B)) v u (initiate (s.lev v) (s.nam v) (s.fnd v)))=upd2 (kR s.q) v u (kR s.q v u++[initiate (s.lev v) (s.nam v) (s.fnd v)]):=by
    rw [kR_addT rfl,kR_rem hq rfl]
  have l2v:=st.l2 v
  refine ⟨q0_add (q0_rem q0 hq) hadj' hav,?_,?_,?_,?_,?_⟩
  · rw [ekS]
    have ei:∀ a b,inits (upd2 (upd2 (kS s.q) u v X) v u (kS s.q v u++[initiate (s.lev v) (s.nam v) (s.fnd v)]) a b)=if a=v∧b=u then [(s.lev v,s.nam v,s.fnd v)] else inits (kS s.q a b):=by
      intro a b
      simp only [upd2]
      split
      · rw [inits_app,i0]; rfl
      · split
        · rename_i e; rw [e.1,e.2,x2]
        · rfl
    have em:∀ a b l' n f,initiate l' n f ∈ upd2 (upd2 (kS s.q) u v X) v u (kS s.q v u++[initiate (s.lev v) (s.nam v) (s.fnd v)]) a b→(a=v∧b=u∧l'=s.lev v∧n=s.nam v∧f=s.fnd v)∨initiate l' n f ∈ kS s.q a b:=by
      intro a b l' n f hm
      rw [← mem_inits,ei] at hm
      split at hm
      · rename_i e; simp at hm; grind
      · exact Or.inr ((mem_inits _).1 hm)
    have ec:∀ a b l',connect l' ∈ upd2 (upd2 (kS s.q) u v X) v u (kS s.q v u++[initiate (s.lev v) (s.nam v) (s.fnd v)]) a b ↔ connect l' ∈ kS s.q a b∧¬ (a=u∧b=v):=by
      intro a b l'
      simp only [upd2]
      split
      · rename_i e; simp [e.1,e.2,huv.symm]
      · split
        · rename_i e; have:=X0 l'; grind
        · grind
    have corg:∀ a b,(upd g.par u (some v) a=some b∧upd g.par u (some v) b=some a)→core g a b:=fun a b e=>by
      rw [hp',hp'] at e; unfold core; grind
    have kidg:∀ a b,(upd g.par u (some v) b=some a∧upd g.par u (some v) a≠some b)→kid g a b∨(a=v∧b=u):=fun a b e=>by
      rw [ne_eq,hp',hp'] at e; unfold kid; grind
    refine ⟨?_,?_,?_,?_,?_,?_,?_,?_,?_,?_,?_,?_,?_,?_,?_,?_,?_,?_,?_,?_,?_,?_,?_,?_,?_,?_,?_,?_,?_,?_,?_⟩
    · -- qa
      intro a b m hm
      simp only [upd2] at hm
      have:=st.qa a b m
      grind
    · intro a b; simp only [upd2]; have:=st.sa a b; grind
    · -- asl
      intro z hz
      have h9:=st.asl z hz
      have:¬ g.fr u z:=fun e=>by
        have:=st.f5 z u h9.2.1 (f2 _ _ e)
        subst this
        dsimp only at hz
        rw [hau] at hz; cases hz
      have:z≠u:=by rintro rfl; exact this (f1 _)
      simp only [upd]; grind
    · intro a; exact Or.inl (f1 a)
    · intro a b e; have:=f2 a b; dsimp only at e ⊢; grind
    · -- f3
      intro a b c e1 e2
      dsimp only at e1 e2 ⊢
      have w1:=fH a b
      have w2:=fK a b
      have w3:=fH b c
      have w4:=fK b c
      have w5:=f3 a b c
      grind
    · -- f4
      intro a b e
      dsimp only at e ⊢
      have w1:=fH a b
      have w2:=st.f4 a b
      have w3:=hK a
      have w4:=hK b
      grind
    · -- f5
      intro a b e1 e2
      dsimp only at e1 e2
      have w1:=st.f5 a b
      have w2:=hK a
      grind
    · intro z; have:=hH z; have:=st.l1 z; dsimp only; grind
    · intro z e1 e2
      dsimp only at e1 e2 ⊢
      have:=hH z; have:=st.l2 z; grind
    · intro a b e; rw [hse2] at e; exact Or.inl (st.se2 a b e)
    · intro a b; simp only [upd2]; have:=st.se3 a b; grind
    · -- db
      intro a b e
      rw [hd] at e
      dsimp only
      rw [hp',hp']
      have:=st.db a b
      have:=f1 u
      have:=f1 v
      grind
    · -- pr
      intro a b e
      rw [hp'] at e
      rw [hd]
      have:=st.pr a b
      grind
    · -- hf
      intro a b e
      obtain ⟨e1,e2⟩:=hh a b e
      have h9:=st.hf a b e1
      have w1:=hH b
      have w2:=hK a
      have w3:=f3 a v b
      have w4:=f2 v a
      have n1:a≠u:=by rintro rfl; exact e2 (f1 _)
      refine ⟨?_,?_,?_,?_,?_,?_,?_⟩
      · dsimp only; rw [if_neg e2]; exact h9.1
      · simp only [upd,if_neg n1]; exact h9.2.1
      · dsimp only; grind
      · dsimp only; rw [ec,if_neg e2]; exact ⟨h9.2.2.2.1,fun e=>n1 e.1⟩
      · dsimp only; rw [if_neg e2]; exact h9.2.2.2.2.1
      · dsimp only; rw [if_neg e2]; exact h9.2.2.2.2.2.1
      · dsimp only; rw [if_neg e2]; exact h9.2.2.2.2.2.2
    · -- cn
      intro a b l' hm
      rw [ec] at hm
      have h9:=st.cn a b l' hm.1
      have n1:¬ (a=v∧b=u):=by rintro ⟨rfl,rfl⟩; exact c0 _ hm.1
      have e1:upd2 s.se v u 1 b a=s.se b a:=by simp only [upd2]; grind
      have e2:upd2 s.se v u 1 a b=s.se a b:=by simp only [upd2]; grind
      dsimp only
      rw [e1]
      refine ⟨by rw [e2]; exact h9.1,fun e=>?_,fun e=>?_⟩
      · have h8:=h9.2.1 e
        have h7:=core0 a b h8.1
        refine ⟨⟨(hp' _ _).2 (Or.inl h8.1.1),(hp' _ _).2 (Or.inl h8.1.2)⟩,?_⟩
        rw [if_neg h7.1]; exact h8.2
      · have h8:=h9.2.2 e
        have h7:=(hh a b ⟨by rw [e2]; exact h9.1,by rw [e1]; exact e⟩).2
        rw [if_neg h7]; exact h8
    · -- c1
      intro a b
      simp only [upd2]
      split
      · rw [List.countP_append]; have:=st.c1 v u; simpa [isCon] using this
      · split
        · have:=st.c1 u v; omega
        · exact st.c1 a b
    · -- co
      intro a b e
      have hc:=corg a b e
      have h9:=st.co a b hc
      have h7:=core0 a b hc
      have n1:¬ (a=v∧b=u):=by rintro ⟨rfl,rfl⟩; exact h7.2 (f1 _)
      have n2:¬ (b=u∧a=v):=fun e=>n1 ⟨e.2,e.1⟩
      have n3:¬ (b=v∧a=u):=by rintro ⟨rfl,rfl⟩; exact h7.1 (f1 _)
      dsimp only
      rw [ei,if_neg n1,if_neg h7.1,if_neg h7.1,if_neg h7.2,if_neg h7.2]
      simp only [ec]
      refine ⟨h9.1,h9.2.1,?_⟩
      rcases h9.2.2 with h8 | h8 | h8
      · exact Or.inl ⟨h8.1,h8.2.1,fun l' hm=>h8.2.2 l' hm.1⟩
      · exact Or.inr (Or.inl ⟨h8.1,h8.2.1,fun l' hm=>h8.2.2 l' hm.1⟩)
      · exact Or.inr (Or.inr ⟨h8.1,h8.2.1,h8.2.2,by grind⟩)
    · -- cu
      intro a b x y e1 e2 e3
      have hc1:=corg a b e1
      have hc2:=corg x y e2
      have h7:=core0 a b hc1
      have h8:=core0 x y hc2
      refine st.cu a b x y hc1 hc2 ?_
      have:=f3 a v x
      have:=f2 v a
      dsimp only at e3
      grind
    · -- ch
      intro x y e
      rw [ei,ei]
      rcases kidg x y e with hk | ⟨rfl,rfl⟩
      · have h9:=st.ch x y hk
        have n1:¬ (x=v∧y=u):=by rintro ⟨rfl,rfl⟩; have:=hk.1; rw [b2] at this; cases this
        have n2:¬ (y=v∧x=u):=by rintro ⟨rfl,rfl⟩; exact npvu hk.1
        rw [if_neg n1,if_neg n2]; exact h9
      · rw [if_neg (by grind),if_pos ⟨rfl,rfl⟩]
        refine ⟨i0',?_⟩
        simp only [chain]
        exact ⟨by omega,trivial⟩
    · -- i1
      intro x y l' n f hm
      dsimp only
      rw [hp']
      rcases em x y l' n f hm with ⟨rfl,rfl,rfl,rfl,rfl⟩ | hm
      · rw [if_pos (f1 _),if_pos (f1 _)]
        refine ⟨Or.inr ⟨rfl,rfl⟩,lv,fun e=>l2v e (by omega)⟩
      · have h9:=st.i1 x y l' n f hm
        have:=hH y
        refine ⟨Or.inl h9.1,?_,?_⟩
        · grind
        · grind
    · -- rt
      intro a b e1 e2 e3
      have n1:a≠u∧g.par a=none:=by simp only [upd] at e1; grind
      have n2:b≠u∧g.par b=none:=by simp only [upd] at e2; grind
      refine st.rt a b n1.2 n2.2 ?_
      have:=rH a
      have:=rH b
      have:=f3 a v b
      have:=f2 v a
      dsimp only at e3
      grind
    · -- p0
      intro z e
      dsimp only at e ⊢
      have h9:=st.p0 z
      have h8:=rH z
      simp only [upd]
      grind
    · -- dp
      intro x y e
      dsimp only
      rcases kidg x y e with hk | ⟨rfl,rfl⟩
      · have h9:=st.dp x y hk
        have:=fH x y (kidf x y hk)
        grind
      · rw [if_neg hvu,if_pos (f1 _)]; omega
    · -- nm1
      intro z e
      obtain ⟨a,b,d1,d2,d3,d4⟩:=st.nm1 z e
      exact ⟨a,b,d1,(hd _ _).2 (Or.inl d2),d3,Or.inl d4⟩
    · -- nm2
      intro x y l' n f hm
      rcases em x y l' n f hm with ⟨rfl,rfl,rfl,rfl,rfl⟩ | hm
      · obtain ⟨a,b,d1,d2,d3,d4⟩:=st.nm1 x (by omega)
        exact ⟨a,b,d1,(hd _ _).2 (Or.inl d2),d3,Or.inr ⟨Or.inl (f1 _),Or.inr d4⟩⟩
      · obtain ⟨a,b,d1,d2,d3,d4⟩:=st.nm2 x y l' n f hm
        exact ⟨a,b,d1,(hd _ _).2 (Or.inl d2),d3,Or.inl d4⟩
    · -- nm3
      intro z e
      dsimp only at e ⊢
      by_cases hz:g.fr u z
      · obtain ⟨a,b,d1,d2,d3,d4⟩:=st.nm3 v (by omega)
        rw [if_pos hz]
        exact ⟨a,b,d1,(hd _ _).2 (Or.inl d2),d3,Or.inr ⟨Or.inl hz,Or.inr d4⟩⟩
      · rw [if_neg hz] at e ⊢
        obtain ⟨a,b,d1,d2,d3,d4⟩:=st.nm3 z e
        exact ⟨a,b,d1,(hd _ _).2 (Or.inl d2),d3,Or.inl d4⟩
    · -- de
      intro a z b e1 e2 e3 e4
      dsimp only at e1 e2 e4 ⊢
      have w1:=st.de a z b
      have w2:=st.de v z b
      have w3:=st.de u z b (by omega)
      have w4:=st.de v v u
      have w5:=G.ws u v
      have w6:=hK a
      have w7:=fH a z
      have w8:=f1 v
      have w9:=f2 v u
      grind
    · -- sz
      intro z e
      dsimp only
      by_cases hz:g.fr u z
      · obtain ⟨li,d1,d2,d3⟩:=st.sz v (G.lt _ _ hadj')
        rw [if_pos hz]
        exact ⟨li,d1,d2,fun x hx=>⟨Or.inr ⟨Or.inl hz,Or.inr (d3 x hx).1⟩,(d3 x hx).2⟩⟩
      · obtain ⟨li,d1,d2,d3⟩:=st.sz z e
        rw [if_neg hz]
        exact ⟨li,d1,d2,fun x hx=>⟨Or.inl (d3 x hx).1,(d3 x hx).2⟩⟩
    · -- mst
      intro a b e
      rw [hse] at e
      rcases e with e | ⟨rfl,rfl⟩
      · exact st.mst a b e
      · exact (st.mst _ _ c1).symm
    · -- oc
      intro a b C D l' n f hAB l2 hm
      have:connect l2 ∈ upd2 (upd2 (kS s.q) u v X) v u (kS s.q v u++[initiate (s.lev v) (s.nam v) (s.fnd v)]) a b:=by rw [hAB]; simp [hm]
      rw [ec] at this
      have n1:¬ (a=v∧b=u):=by rintro ⟨rfl,rfl⟩; exact c0 _ this.1
      simp only [upd2,if_neg n1,if_neg this.2] at hAB
      exact st.oc a b C D l' n f hAB l2 hm
  · rw [ekR]
    have kidg:∀ a b,(upd g.par u (some v) b=some a∧upd g.par u (some v) a≠some b) ↔ (kid g a b∨(a=v∧b=u)):=fun a b=>by
      rw [ne_eq,hp',hp']; unfold kid; grind
    have corg:∀ a b,(upd g.par u (some v) a=some b∧upd g.par u (some v) b=some a)→core g a b:=fun a b e=>by
      rw [hp',hp'] at e; unfold core; grind
    have em:∀ a b l' n f,initiate l' n f ∈ upd2 (kR s.q) v u (kR s.q v u++[initiate (s.lev v) (s.nam v) (s.fnd v)]) a b→(a=v∧b=u∧l'=s.lev v∧f=s.fnd v)∨initiate l' n f ∈ kR s.q a b:=by
      intro a b l' n f hm
      simp only [upd2] at hm
      split at hm
      · rename_i e; simp at hm; grind
      · exact Or.inr hm
    have er:∀ a b w,report w ∈ upd2 (kR s.q) v u (kR s.q v u++[initiate (s.lev v) (s.nam v) (s.fnd v)]) a b ↔ report w ∈ kR s.q a b:=by
      intro a b w
      simp only [upd2]
      split
      · rename_i e; rw [e.1,e.2]; simp
      · rfl
    have nkvu:¬ kid g v u:=fun e=>by have:=e.1; rw [b2] at this; cases this
    refine ⟨?_,?_,?_,?_,?_,?_,?_,?_,?_,?_,?_,?_,?_,?_,rp.bm,?_⟩
    · intro z e
      have:=rp.s1 z e
      have:=hH z
      dsimp only at e ⊢
      grind
    · intro z e1 e2 e3
      have:=rp.s2 z
      have:=hH z
      dsimp only at e1 e2 e3 ⊢
      grind
    · -- s3
      intro x y e1 e2 e3
      rcases (kidg x y).1 e2 with hk | ⟨rfl,rfl⟩
      · have:=rp.s3 x y
        have:=fH x y (kidf x y hk)
        dsimp only at e1 e3 ⊢
        grind
      · dsimp only at e1 e3 ⊢
        have w1:=rp.s9 x y
        have w2:=f1 y
        have w3:=f2 x y
        have w4:=G.ws x y
        grind
    · -- s14
      intro x y e1 e2 e3 e4
      rcases (kidg x y).1 e2 with hk | ⟨rfl,rfl⟩
      · have:=rp.s14 x y
        have:=fH x y (kidf x y hk)
        dsimp only at e1 e3 e4 ⊢
        grind
      · dsimp only at e1 e3 e4 ⊢
        have w2:=f1 y
        grind
    · -- s4
      intro x y l' n hm e1 e2
      dsimp only at e1 e2 ⊢
      rcases em x y l' n false hm with ⟨rfl,rfl,rfl,w⟩ | hm
      · have w2:=f1 y
        have:=rp.s2 x
        grind
      · have:=rp.s4 x y l' n hm
        have:=st.i1 x y l' n false (ini_RS.1 hm)
        have:=hH y
        grind
    · -- s5
      intro x y l' n hm
      rcases em x y l' n true hm with ⟨rfl,rfl,rfl,w⟩ | hm
      · have:=rp.s1 x w.symm
        dsimp only
        rw [if_pos (f1 _),if_pos (f1 _),if_pos (f1 _)]
        exact ⟨this.1,this.2.1,this.2.2,fun _=>w.symm⟩
      · have h9:=rp.s5 x y l' n hm
        have h8:¬ g.fr u y:=fun e=>by have:=hH y e; omega
        refine ⟨by dsimp only; rw [if_neg h8]; exact h9.1,by dsimp only; rw [if_neg h8]; exact h9.2.1,by dsimp only; rw [if_neg h8]; exact h9.2.2.1,fun e=>?_⟩
        rcases (kidg x y).1 e with hk | ⟨rfl,rfl⟩
        · exact h9.2.2.2 hk
        · exact (h8 (f1 _)).elim
    · -- s6
      intro z e
      have:=rp.s6 z
      dsimp only at e ⊢
      rcases hcnt with ⟨w1,rfl⟩ | ⟨w1,rfl⟩
      · simp only [upd]; grind
      · grind
    · -- s9
      intro a b e1 e2 e3 e4
      dsimp only at e1 e2 e4 ⊢
      have:=rp.s9 a b
      have:=st.de u a b (by omega)
      grind
    · -- si
      intro z e1 e2
      dsimp only at e1 e2 ⊢
      have:=rp.si z
      have:=hH z
      have:=f1 u
      simp only [upd]; grind
    · -- s13
      intro a b e1 e2 e3
      have hc:=corg a b e1
      have h7:=core0 a b hc
      have:=rp.s13 a b hc
      dsimp only at e2 e3 ⊢
      grind
    · -- r1
      intro x y w hm
      rw [er] at hm
      rcases rp.r1 x y w hm with ⟨w1,w2,w3,w4,w5,w6,w7,w8⟩ | ⟨w1,w2,w3,w4,w5,w6,w7⟩
      · left
        have h8:¬ g.fr u y:=fun e=>by have:=hH y e; omega
        have n1:¬ (y=v∧x=u):=by rintro ⟨rfl,rfl⟩; exact npvu w2
        refine ⟨by dsimp only; rw [if_neg h8]; exact w1,(hp' _ _).2 (Or.inl w2),by dsimp only; rw [if_neg h8]; exact w3,w4,w5,by dsimp only; rw [if_neg h8]; exact w6,fun e=>?_,?_⟩
        · rcases (kidg x y).1 e with hk | ⟨rfl,rfl⟩
          · exact w7 hk
          · exact (h8 (f1 _)).elim
        · simp only [upd2,if_neg n1]; exact w8
      · right
        have n1:¬ (y=v∧x=u):=by rintro ⟨rfl,rfl⟩; exact nkvu w1
        refine ⟨(kidg y x).2 (Or.inl w1),w2,w3,w4,w5,fun e=>?_,?_⟩
        · dsimp only at e ⊢
          have:=hH x
          have:=fH y x (kidf y x w1)
          grind
        · simp only [upd2,if_neg n1]; exact w7
    · -- r2
      intro a b
      simp only [upd2]
      split
      · rw [List.countP_append]; have:=rp.r2 u v; simpa [isRep] using this
      · exact rp.r2 a b
    · -- hd
      intro x y e1 e2 e3 e4
      have e5:∀ w,report w ∉ kR s.q y x:=fun w hm=>e4 w ((er y x w).2 hm)
      dsimp only at e1 e3 ⊢
      rcases (kidg x y).1 e2 with hk | ⟨rfl,rfl⟩
      · have:=rp.hd x y e1 hk
        have:=fH x y (kidf x y hk)
        have:=hH x
        grind
      · have:=rp.s1 x e1
        have:=f1 y
        grind
    · -- ct
      intro x e
      dsimp only at e
      obtain ⟨li,l1,l2,l3⟩:=rp.ct x e
      have hx:¬ g.fr u x:=fun e2=>by have:=hH x e2; rw [e] at this; simp at this
      have hZ:∀ y,kid g x y→¬ g.fr u y:=fun y hk e2=>hx ((fH x y (kidf x y hk)).2 e2)
      by_cases hxv:x=v
      · subst hxv
        have hc:cnt'=upd s.cnt x (s.cnt x + 1):=by grind
        refine ⟨u :: li,?_,?_,fun y=>?_⟩
        · refine List.nodup_cons.2 ⟨fun hm=>nkvu ((l3 u).1 hm).1,l1⟩
        · simp [hc,upd,l2]
        · rw [List.mem_cons,l3]
          simp only [er]
          have w1:=kidg x y
          have w2:=hZ y
          have w3:=f1 u
          have w4:=rp.s1 x e
          have w5:kid { fr:=fun a b=>g.fr a b∨((g.fr u a∨g.fr x a)∧(g.fr u b∨g.fr x b)),L:=fun z=>if g.fr u z then g.L x else g.L z,N:=fun z=>if g.fr u z then g.N x else g.N z,ph:=fun z=>if g.fr u z then g.ph x else g.ph z,W:=fun z=>if g.fr u z then g.W x else g.W z,par:=upd g.par u (some x),dep:=fun z=>if g.fr u z then g.dep x + 1 + g.dep z else g.dep z } x y ↔ (kid g x y∨(x=x∧y=u)):=w1
          rw [w5]
          constructor
          · rintro (rfl | ⟨y1,y2⟩)
            · refine ⟨Or.inr ⟨rfl,rfl⟩,Or.inl ?_⟩
              rw [if_pos w3]; exact w4.2.2
            · refine ⟨Or.inl y1,?_⟩
              rw [if_neg (w2 y1)]; exact y2
          · rintro ⟨y1 | ⟨_,rfl⟩,y2⟩
            · rw [if_neg (w2 y1)] at y2
              exact Or.inr ⟨y1,y2⟩
            · exact Or.inl rfl
      · have hc:cnt' x=s.cnt x:=by
          rcases hcnt with ⟨_,rfl⟩ | ⟨_,rfl⟩
          · simp only [upd,if_neg hxv]
          · rfl
        refine ⟨li,l1,by rw [l2]; exact hc.symm,fun y=>?_⟩
        rw [l3]
        simp only [er]
        have w1:=kidg x y
        have w2:=hZ y
        constructor
        · rintro ⟨y1,y2⟩
          refine ⟨w1.2 (Or.inl y1),?_⟩
          rw [if_neg (w2 y1)]; exact y2
        · rintro ⟨y1,y2⟩
          rcases w1.1 y1 with y1 | ⟨y1,_⟩
          · rw [if_neg (w2 y1)] at y2
            exact ⟨y1,y2⟩
          · exact (hxv y1).elim
    · -- s15
      intro a b e1 e2
      have hc:=corg a b e1
      have h7:=core0 a b hc
      have:=rp.s15 a b hc
      dsimp only at e2 ⊢
      grind
  · rw [kT_add rfl,kT_rem hq rfl]
    have htu:=(ts.t0 u (hH u (f1 u)).2.2.2.2).1
    refine ⟨ts.t0,?_,?_,ts.t3,?_,?_,?_,ts.t7⟩
    · intro y x hx
      dsimp only at hx ⊢
      have w1:=ts.t1 y x hx
      refine ⟨w1.1,?_,fun z z1 z2=>w1.2.2 z z1 ((hse0 _ _).1 z2).1⟩
      rw [hse0,hse,hse]
      grind
    · intro y x e1 e2 e3 e4 e5
      dsimp only at e5
      rw [hse0] at e5
      exact ts.t2 y x e1 e2 e3 e4 e5.1
    · intro y x l' n hm
      have w1:=ts.t4 y x l' n hm
      dsimp only
      rcases w1 with w1 | w1
      · exact Or.inl w1
      · refine Or.inr ⟨w1.1,w1.2.1,Or.inl w1.2.2.1,w1.2.2.2.1,w1.2.2.2.2.1,?_⟩
        rw [ne_eq,hse0]; exact fun e=>w1.2.2.2.2.2 e.1
    · intro y x hm
      have w1:=ts.t5 y x hm
      have w2:s.fnd y=true:=by
        cases e:s.fnd y
        · have:=(ts.t0 y e).1; rw [w1.1] at this; cases this
        · rfl
      have hy:¬ g.fr u y:=fun e2=>by have:=hH y e2; rw [w2] at this; simp at this
      have w3:=hH x
      have w4:=hK y
      have w5:=f3 y v x
      have w6:=f2 v y
      dsimp only
      grind
    · intro y x hm
      have w1:=ts.t6 y x hm
      dsimp only
      refine ⟨w1.1,Or.inl w1.2.1,?_⟩
      rw [ne_eq,hse0]; exact fun e=>w1.2.2 e.1
  · rw [kX_add rfl,kX_rem hq rfl]
    have kidg:∀ a b,(upd g.par u (some v) b=some a∧upd g.par u (some v) a≠some b) ↔ (kid g a b∨(a=v∧b=u)):=fun a b=>by
      rw [ne_eq,hp',hp']; unfold kid; grind
    refine ⟨?_,?_,?_,?_⟩
    · intro y e1 e2 e3 e4
      dsimp only at e1 e2 e3 e4 ⊢
      have hy:¬ g.fr u y:=fun e=>by have:=hH y e; rw [if_pos e] at e2; omega
      rw [if_neg hy] at e1 e2 e3
      obtain ⟨v',d1,d2,d3⟩:=bs.bb y e1 e2 e3 e4
      refine ⟨v',d1,d2,?_⟩
      rcases d3 with d3 | d3 | d3
      · exact Or.inl ⟨d3,hy⟩
      · refine Or.inr (Or.inl ?_)
        rw [hse0,if_neg hy]
        have w3:=hH v'
        have w4:=hK y
        have w5:=f3 y v v'
        have w6:=f2 v y
        have w7:=f1 u
        have w8:=f1 v
        grind
      · refine Or.inr (Or.inr ⟨(kidg y v').2 (Or.inl d3.1),?_,d3.2.2⟩)
        have:=fH y v' (kidf _ _ d3.1)
        rw [if_neg (fun e=>hy (this.2 e))]; exact d3.2.1
    · intro z hz
      have w:=bs.k1 z hz
      have hy:¬ g.fr u z:=fun e=>by have:=hH z e; omega
      have n1:z≠u:=by rintro rfl; exact hy (f1 _)
      dsimp only
      rw [if_neg hy,if_neg hy,if_neg hy,upd_ne _ _ n1]
      exact w
    · intro y c hr
      have w:=bs.k2 y c hr
      have hy:¬ g.fr u y:=fun e=>by have:=hH y e; omega
      have hc:¬ g.fr u c:=fun e=>hy ((fH y c (kidf _ _ w.2.2.2.1)).2 e)
      have n1:y≠u:=by rintro rfl; exact hy (f1 _)
      dsimp only
      rw [if_neg hy,if_neg hc,if_neg hc,upd_ne _ _ n1]
      exact ⟨w.1,w.2.1,w.2.2.1,(kidg y c).2 (Or.inl w.2.2.2.1),w.2.2.2.2⟩
    · intro z hz a b e1 e2
      have w:=bs.ov z hz
      dsimp only at e1 ⊢
      have w1:=w a b
      have w2:=w u v
      have w3:=w v u
      have w4:=f2 u z
      have w5:=f2 v z
      have w6:=f2 v u
      grind
  · rw [kX_add rfl,kX_rem hq rfl]
    have kidg:∀ a b,(upd g.par u (some v) b=some a∧upd g.par u (some v) a≠some b) ↔ (kid g a b∨(a=v∧b=u)):=fun a b=>by
      rw [ne_eq,hp',hp']; unfold kid; grind
    refine ⟨?_,?_,?_,?_⟩
    · intro z hz
      have:=pa.p1 z hz.1
      dsimp only; rw [if_neg hz.2]; exact this
    · intro z x e1 e2 e3 e4
      dsimp only at e1 e2 e3 ⊢
      rcases (kidg z x).1 e4 with hk | ⟨rfl,rfl⟩
      · have w1:=fH z x (kidf z x hk)
        have w2:=pa.u1 z x
        have w3:=f1 u
        have w4:z≠u→g.par z≠none:=fun n1=>by rw [upd_ne _ _ n1] at e3; exact e3
        grind
      · exact fun e=>e.2 (f1 _)
    · intro z hz
      have w:=pa.k3 z hz
      have hy:¬ g.fr u z:=fun e=>by have:=hH z e; omega
      dsimp only
      rw [if_neg hy]
      refine ⟨w.1,fun e=>w.2.1 e.1,fun x e1 e2=>?_⟩
      rcases (kidg z x).1 e2 with hk | ⟨rfl,rfl⟩
      · exact fun e=>w.2.2 x e1 hk e.1
      · exact fun e=>e.2 (f1 _)
    · intro y c hr
      have w:=pa.k4 y c hr
      have hy:¬ g.fr u y:=fun e=>by have:=hH y e; omega
      dsimp only
      rw [if_neg hy]
      exact ⟨w.1,fun e=>w.2.1 e.1,w.2.2⟩
open Classical in
theorem ev_merge {G:Gr} {s:St} {g:Gh} {h:Gs} (hI:Inv G s g h) {u v:Nat} (ht:h.tk u) (ha:G.adj u v) (h0:s.se u v=0) (h1:s.se v u=1) (hw:G.w u v=g.W u) (hf:¬ g.fr u v) (hl:g.L u≤s.lev v) :
    Inv G { s with se := upd2 s.se u v 1, q := addq s.q u v (connect (s.lev u)) }
      { fr:=fun a b=>g.fr a b∨((g.fr u a∨g.fr v a)∧(g.fr u b∨g.fr v b)),L:=fun z=>if g.fr u z∨g.fr v z then g.L u + 1 else g.L z,N:=fun z=>if g.fr u z∨g.fr v z then G.w u v else g.N z,ph:=fun z=>if g.fr u z∨g.fr v z then 0 else g.ph z,W:=fun z=>if g.fr u z∨g.fr v z then 0 else g.W z,par:=upd (upd g.par u (some v)) v (some u),dep:=g.dep }
      { h with Z:=fun z=>h.Z z∧¬ (g.fr u z∨g.fr v z),be:=fun z=>if g.fr u z∨g.fr v z then 0 else h.be z,tk:=fun z=>z≠u∧h.tk z,ps:=fun z=>h.ps z∧¬ (g.fr u z∨g.fr v z) }:=by
  obtain ⟨q0,st,rp,ts,bs,pa⟩:=hI
  obtain ⟨k1,k2,k3,k4,k5,k6⟩:=bs.k1 u ht
  have hmst:=st.cutEdge ha (by omega) hw hf
  obtain ⟨b1,b2,b3,b4,b5,b6,b7⟩:=st.hf v u ⟨h1,by omega⟩
  have hLv:g.L v=g.L u:=by omega
  have hlu:s.lev u=g.L u:=by omega
  have hlv:s.lev v=g.L u:=by omega
  have hav:=(st.sa v u (by omega)).2
  have ha':=G.sym _ _ ha
  have huv:u≠v:=by rintro rfl; exact G.irr _ ha
  have hws:=G.ws u v
  have f1:=st.f1
  have f2:=st.f2
  have f3:=st.f3
  have hM:∃ M:Nat→Prop,∀ z,M z ↔ (g.fr u z∨g.fr v z):=⟨_,fun z=>Iff.rfl⟩
  obtain ⟨M,hM⟩:=hM
  have eM:(fun z=>g.fr u z∨g.fr v z)=M:=funext fun z=>propext (hM z).symm
  have Mu:M u:=(hM u).2 (Or.inl (f1 u))
  have Mv:M v:=(hM v).2 (Or.inr (f1 v))
  have fM:∀ a b,g.fr a b→(M a ↔ M b):=fun a b e=>by
    rw [hM,hM]
    exact ⟨fun x=>x.elim (fun x=>Or.inl (f3 _ _ _ x e)) (fun x=>Or.inr (f3 _ _ _ x e)),fun x=>x.elim (fun x=>Or.inl (f3 _ _ _ x (f2 _ _ e))) (fun x=>Or.inr (f3 _ _ _ x (f2 _ _ e)))⟩
  have hMz:∀ z,M z→g.L z=g.L u∧g.ph z≠0∧s.lev z≤g.L u∧s.fnd z=false:=fun z hz=>by
    have w:g.L z=g.L u∧g.ph z≠0:=by
      rcases (hM z).1 hz with e | e
      · have:=st.f4 u z e; omega
      · have:=st.f4 v z e; omega
    have:=st.l1 z
    refine ⟨w.1,w.2,by omega,?_⟩
    cases e:s.fnd z
    · rfl
    · have:=rp.s1 z e; omega
  have rM:∀ z,M z→g.par z=none→z=u∨z=v:=fun z hz e=>by
    rcases (hM z).1 hz with e2 | e2
    · exact Or.inl (st.rt u z k3 e e2).symm
    · exact Or.inr (st.rt v z b2 e e2).symm
  have ph1:∀ z,M z→g.ph z=1→g.par z=none→z=u:=fun z hz e1 e=>by
    rcases rM z hz e with rfl | rfl
    · rfl
    · omega
  have parf:∀ a b,g.par a=some b→g.fr a b:=fun a b e=>(st.db a b (st.pr a b e)).1
  have hp':∀ a b,upd (upd g.par u (some v)) v (some u) a=some b ↔ (g.par a=some b∨(a=u∧b=v)∨(a=v∧b=u)):=fun a b=>by simp only [upd]; grind
  have hpn:∀ a,upd (upd g.par u (some v)) v (some u) a=none ↔ (g.par a=none∧a≠u∧a≠v):=fun a=>by simp only [upd]; grind
  have kidf:∀ x y,kid g x y→g.fr x y:=fun x y e=>f2 _ _ (parf _ _ e.1)
  have corf:∀ x y,core g x y→g.fr x y:=fun x y e=>parf _ _ e.1
  have core0:∀ x y,core g x y→¬ M x∧¬ M y:=fun x y e=>by
    have:=(st.co x y e).1
    have h1:=fM x y (corf x y e)
    have h2:=hMz x
    grind
  have kidg:∀ a b,(upd (upd g.par u (some v)) v (some u) b=some a∧upd (upd g.par u (some v)) v (some u) a≠some b) ↔ kid g a b:=fun a b=>by
    rw [ne_eq,hp',hp']; unfold kid; grind
  have corg:∀ a b,(upd (upd g.par u (some v)) v (some u) a=some b∧upd (upd g.par u (some v)) v (some u) b=some a) ↔ (core g a b∨(a=u∧b=v)∨(a=v∧b=u)):=fun a b=>by
    rw [hp',hp']; unfold core; grind
  have hse:∀ a b,upd2 s.se u v 1 a b=1 ↔ (s.se a b=1∨(a=u∧b=v)):=fun a b=>by simp only [upd2]; grind
  have hse0:∀ a b,upd2 s.se u v 1 a b=0 ↔ (s.se a b=0∧¬ (a=u∧b=v)):=fun a b=>by simp only [upd2]; grind
  have hse2:∀ a b,upd2 s.se u v 1 a b=2 ↔ s.se a b=2:=fun a b=>by simp only [upd2]; grind
  have hd:∀ a b,dbl (upd2 s.se u v 1) a b ↔ (dbl s.se a b∨(a=v∧b=u)∨(a=u∧b=v)):=fun a b=>by simp only [dbl,hse]; grind
  have hh:∀ a b,half (upd2 s.se u v 1) a b→half s.se a b∧¬ M a:=fun a b e=>by
    have e1:half s.se a b∧¬ (a=v∧b=u):=by
      unfold half at *; rw [hse,ne_eq,hse] at e; grind
    refine ⟨e1.1,fun e2=>e1.2 ?_⟩
    have h9:=st.hf a b e1.1
    rcases rM a e2 h9.2.1 with rfl | rfl
    · omega
    · have h8:=(st.sa a b (by have:=e1.1.1; omega)).1
      have:=G.wd a b a u h8 ha' (by omega)
      refine ⟨rfl,?_⟩
      rcases this with x | x
      · exact x.2
      · exact (huv x.1.symm).elim
  have nc:∀ l,connect l ∉ kS s.q u v:=fun l hm=>by have:=(st.cn u v l hm).1; omega
  have ni:∀ l n f,initiate l n f ∉ kS s.q u v:=fun l n f hm=>by
    have hp:=(st.i1 u v l n f hm).1
    rw [b2] at hp; cases hp
  have ni':∀ l n f,initiate l n f ∉ kS s.q v u:=fun l n f hm=>by
    have hp:=(st.i1 v u l n f hm).1
    rw [k3] at hp; cases hp
  have i0:inits (kS s.q u v)=[]:=by
    apply List.eq_nil_iff_forall_not_mem.2
    rintro ⟨l,n,f⟩ hm
    exact ni _ _ _ ((mem_inits _).1 hm)
  have i0':inits (kS s.q v u)=[]:=by
    apply List.eq_nil_iff_forall_not_mem.2
    rintro ⟨l,n,f⟩ hm
    exact ni' _ _ _ ((mem_inits _).1 hm)
  have fr':∀ a b,¬ M a→((g.fr a b∨((g.fr u a∨g.fr v a)∧(g.fr u b∨g.fr v b))) ↔ g.fr a b):=fun a b e=>by
    rw [hM] at e
    exact ⟨fun x=>x.elim id (fun x=>(e x.1).elim),Or.inl⟩
  refine ⟨q0_add q0 ha k1,?_,?_,?_,?_,?_⟩
  · rw [kS_addT rfl]
    have ei:∀ a b,inits (upd2 (kS s.q) u v (kS s.q u v++[connect (s.lev u)]) a b)=inits (kS s.q a b):=by
      intro a b; simp only [upd2]; split
      · rename_i e; rw [e.1,e.2,inits_app]; simp [inits]
      · rfl
    have em:∀ a b l n f,initiate l n f ∈ upd2 (kS s.q) u v (kS s.q u v++[connect (s.lev u)]) a b ↔ initiate l n f ∈ kS s.q a b:=by
      intro a b l n f; rw [← mem_inits,ei,mem_inits]
    have ec:∀ a b l,connect l ∈ upd2 (kS s.q) u v (kS s.q u v++[connect (s.lev u)]) a b ↔ (connect l ∈ kS s.q a b∨(a=u∧b=v∧l=s.lev u)):=by
      intro a b l; simp only [upd2]; split
      · rename_i e; rw [e.1,e.2]; simp
      · rename_i e; grind
    refine ⟨?_,?_,?_,?_,?_,?_,?_,?_,?_,?_,?_,?_,?_,?_,?_,?_,?_,?_,?_,?_,?_,?_,?_,?_,?_,?_,?_,?_,?_,?_,?_⟩
    · intro a b m hm; simp only [upd2] at hm; have:=st.qa a b m; grind
    · intro a b; simp only [upd2]; have:=st.sa a b; grind
    · -- asl
      intro z hz
      dsimp only at hz
      have h9:=st.asl z hz
      have nM:¬ M z:=fun e=>by
        rcases (hM z).1 e with e | e
        · have:=st.f5 z u h9.2.1 (f2 _ _ e)
          subst this
          rw [k1] at hz; cases hz
        · have:=st.f5 z v h9.2.1 (f2 _ _ e)
          subst this
          rw [hav] at hz; cases hz
      have n1:z≠u:=by rintro rfl; exact nM Mu
      have n2:z≠v:=by rintro rfl; exact nM Mv
      simp only [← hM,if_neg nM,upd,if_neg n1,if_neg n2]
      exact h9
    · intro a; exact Or.inl (f1 a)
    · intro a b e; have:=f2 a b; dsimp only at e ⊢; grind
    · -- f3
      intro a b c e1 e2
      dsimp only at e1 e2 ⊢
      simp only [← hM] at e1 e2 ⊢
      have w1:=fM a b
      have w3:=fM b c
      have w5:=f3 a b c
      grind
    · -- f4
      intro a b e
      dsimp only at e ⊢
      simp only [← hM] at e ⊢
      have w1:=fM a b
      have w2:=st.f4 a b
      grind
    · -- f5
      intro a b e1 e2
      dsimp only at e1 e2
      simp only [← hM] at e1 e2
      have w1:=st.f5 a b
      grind
    · intro z; have:=hMz z; have:=st.l1 z; dsimp only; simp only [← hM]; grind
    · intro z e1 e2
      dsimp only at e1 e2 ⊢
      simp only [← hM] at e1 e2 ⊢
      have:=hMz z; have:=st.l2 z; grind
    · intro a b e; rw [hse2] at e; exact Or.inl (st.se2 a b e)
    · intro a b; simp only [upd2]; have:=st.se3 a b; grind
    · -- db
      intro a b e
      rw [hd] at e
      dsimp only
      rw [hp',hp']
      simp only [← hM]
      have:=st.db a b
      grind
    · -- pr
      intro a b e
      rw [hp'] at e
      rw [hd]
      have:=st.pr a b
      grind
    · -- hf
      intro a b e
      obtain ⟨e1,e2⟩:=hh a b e
      have h9:=st.hf a b e1
      have n1:a≠u:=by rintro rfl; exact e2 Mu
      have n2:a≠v:=by rintro rfl; exact e2 Mv
      dsimp only
      rw [ec,fr' a b e2]
      simp only [← hM,if_neg e2,upd,if_neg n1,if_neg n2]
      exact ⟨h9.1,h9.2.1,h9.2.2.1,Or.inl h9.2.2.2.1,h9.2.2.2.2⟩
    · -- cn
      intro a b l' hm
      rw [ec] at hm
      dsimp only
      simp only [← hM]
      rcases hm with hm | ⟨rfl,rfl,rfl⟩
      · have h9:=st.cn a b l' hm
        by_cases e:a=v∧b=u
        · obtain ⟨rfl,rfl⟩:=e
          have h8:=h9.2.2 (by omega)
          refine ⟨(hse _ _).2 (Or.inl h9.1),fun _=>⟨(corg _ _).2 (Or.inr (Or.inr ⟨rfl,rfl⟩)),?_,by omega,by omega⟩,fun e=>?_⟩
          · rw [if_pos Mv]; omega
          · exact (e ((hse _ _).2 (Or.inr ⟨rfl,rfl⟩))).elim
        · have n1:¬ (a=u∧b=v):=by rintro ⟨rfl,rfl⟩; exact nc _ hm
          have e1:upd2 s.se u v 1 b a=s.se b a:=by simp only [upd2]; grind
          have e2:upd2 s.se u v 1 a b=s.se a b:=by simp only [upd2]; grind
          rw [e1,e2]
          refine ⟨h9.1,fun e=>?_,fun e=>?_⟩
          · have h8:=h9.2.1 e
            have h7:=core0 a b h8.1
            rw [if_neg h7.1]
            exact ⟨(corg _ _).2 (Or.inl h8.1),h8.2⟩
          · have h8:=h9.2.2 e
            have h7:=(hh a b ⟨by rw [e2]; exact h9.1,by rw [e1]; exact e⟩).2
            rw [if_neg h7]; exact h8
      · refine ⟨(hse _ _).2 (Or.inr ⟨rfl,rfl⟩),fun _=>⟨(corg _ _).2 (Or.inr (Or.inl ⟨rfl,rfl⟩)),?_,rfl,by omega⟩,fun e=>?_⟩
        · rw [if_pos Mu]; omega
        · exact (e ((hse _ _).2 (Or.inl h1))).elim
    · -- c1
      intro a b; simp only [upd2]; split
      · rw [List.countP_append]
        have:(kS s.q u v).countP isCon=0:=List.countP_eq_zero.2 fun m hm=>by cases m <;> simp [isCon]; exact nc _ hm
        rw [this]; simp [isCon]
      · exact st.c1 a b
    · -- co
      intro a b e
      dsimp only
      rw [ei]
      simp only [← hM,ec]
      rcases (corg a b).1 e with hc | ⟨rfl,rfl⟩ | ⟨rfl,rfl⟩
      · have h9:=st.co a b hc
        have h7:=core0 a b hc
        have n3:¬ (b=u∧a=v):=by rintro ⟨rfl,rfl⟩; exact h7.1 Mv
        rw [if_neg h7.1,if_neg h7.1,if_neg h7.2,if_neg h7.2]
        refine ⟨h9.1,h9.2.1,?_⟩
        rcases h9.2.2 with h8 | h8 | h8
        · exact Or.inl ⟨h8.1,h8.2.1,by grind⟩
        · exact Or.inr (Or.inl ⟨h8.1,h8.2.1,by grind⟩)
        · exact Or.inr (Or.inr ⟨h8.1,h8.2.1,Or.inl h8.2.2⟩)
      · rw [if_pos Mu,if_pos Mu,if_pos Mv]
        refine ⟨rfl,rfl,Or.inr (Or.inr ⟨by omega,i0,Or.inl ?_⟩)⟩
        rw [b7]; exact b4
      · rw [if_pos Mv,if_pos Mv,if_pos Mu]
        refine ⟨rfl,hws,Or.inr (Or.inr ⟨by omega,i0',Or.inr ⟨rfl,rfl,rfl⟩⟩)⟩
    · -- cu
      intro a b x y e1 e2 e3
      dsimp only at e3
      simp only [← hM] at e3
      have w1:=core0 a b
      have w2:=core0 x y
      have w3:=st.cu a b x y
      have w4:=fM a x
      rcases (corg a b).1 e1 with hc | hc | hc <;> rcases (corg x y).1 e2 with hc2 | hc2 | hc2 <;> grind
    · -- ch
      intro x y e
      rw [ei,ei]
      exact st.ch x y ((kidg x y).1 e)
    · -- i1
      intro x y l' n f hm
      rw [em] at hm
      dsimp only
      rw [hp']
      simp only [← hM]
      have h9:=st.i1 x y l' n f hm
      have:=hMz y
      refine ⟨Or.inl h9.1,?_,?_⟩ <;> grind
    · -- rt
      intro a b e1 e2 e3
      rw [hpn] at e1 e2
      refine st.rt a b e1.1 e2.1 ?_
      dsimp only at e3
      simp only [← hM] at e3
      have:=rM a
      grind
    · -- p0
      intro z e
      dsimp only at e ⊢
      rw [ne_eq,hpn]
      simp only [← hM] at e ⊢
      have h9:=st.p0 z
      have h8:=rM z
      grind
    · intro x y e; exact st.dp x y ((kidg x y).1 e)
    · -- nm1
      intro z e
      obtain ⟨a,b,d1,d2,d3,d4⟩:=st.nm1 z e
      exact ⟨a,b,d1,(hd _ _).2 (Or.inl d2),d3,Or.inl d4⟩
    · -- nm2
      intro x y l' n f hm
      rw [em] at hm
      obtain ⟨a,b,d1,d2,d3,d4⟩:=st.nm2 x y l' n f hm
      exact ⟨a,b,d1,(hd _ _).2 (Or.inl d2),d3,Or.inl d4⟩
    · -- nm3
      intro z e
      dsimp only at e ⊢
      by_cases hz:M z
      · have hz':=(hM z).1 hz
        rw [if_pos hz']
        exact ⟨u,v,ha,(hd _ _).2 (Or.inr (Or.inr ⟨rfl,rfl⟩)),rfl,Or.inr ⟨hz',Or.inl (f1 _)⟩⟩
      · have hz':=fun e=>hz ((hM z).2 e)
        rw [if_neg hz'] at e ⊢
        obtain ⟨a,b,d1,d2,d3,d4⟩:=st.nm3 z e
        exact ⟨a,b,d1,(hd _ _).2 (Or.inl d2),d3,Or.inl d4⟩
    · -- de
      intro a z b e1 e2 e3 e4
      dsimp only at e1 e2 e4 ⊢
      simp only [← hM] at e1 e2 e4 ⊢
      have w1:=st.de a z b
      grind
    · -- sz
      intro z e
      dsimp only
      by_cases hz:M z
      · have hz':=(hM z).1 hz
        obtain ⟨li,d1,d2,d3⟩:=st.sz v (G.lt _ _ ha')
        obtain ⟨lj,e1,e2,e3⟩:=st.sz u (G.lt _ _ ha)
        rw [if_pos hz']
        refine ⟨lj++li,List.nodup_append.2 ⟨e1,d1,?_⟩,?_,fun x hx=>?_⟩
        · rintro x hx y hy rfl
          exact hf (f3 _ _ _ (e3 x hx).1 (f2 _ _ (d3 x hy).1))
        · rw [List.length_append,e2,d2,hLv,Nat.pow_succ]; omega
        · rcases List.mem_append.1 hx with hx | hx
          · exact ⟨Or.inr ⟨hz',Or.inl (e3 x hx).1⟩,(e3 x hx).2⟩
          · exact ⟨Or.inr ⟨hz',Or.inr (d3 x hx).1⟩,(d3 x hx).2⟩
      · have hz':=fun e=>hz ((hM z).2 e)
        obtain ⟨li,d1,d2,d3⟩:=st.sz z e
        rw [if_neg hz']
        exact ⟨li,d1,d2,fun x hx=>⟨Or.inl (d3 x hx).1,(d3 x hx).2⟩⟩
    · -- mst
      intro a b e
      rw [hse] at e
      rcases e with e | ⟨rfl,rfl⟩
      · exact st.mst a b e
      · exact Or.inl hmst
    · -- oc
      intro a b A B l n f hAB l'
      simp only [upd2] at hAB
      by_cases e:a=u∧b=v
      · rw [if_pos e] at hAB
        exfalso
        have:initiate l n f ∈ kS s.q u v++[connect (s.lev u)]:=by rw [hAB]; simp
        simp at this
        exact ni _ _ _ this
      · rw [if_neg e] at hAB
        exact st.oc a b A B l n f hAB l'
  · rw [kR_add rfl]
    refine ⟨?_,?_,?_,?_,?_,?_,rp.s6,?_,?_,?_,?_,rp.r2,?_,?_,rp.bm,?_⟩
    · intro z e
      have:=rp.s1 z e
      have:=hMz z
      dsimp only at e ⊢
      simp only [← hM]
      grind
    · intro z e1 e2 e3
      have:=rp.s2 z
      have:=hMz z
      dsimp only at e1 e2 e3 ⊢
      simp only [← hM] at e1 e2 ⊢
      grind
    · -- s3
      intro x y e1 e2 e3
      have hk:=(kidg x y).1 e2
      have:=rp.s3 x y
      have:=fM x y (kidf x y hk)
      dsimp only at e1 e3 ⊢
      simp only [← hM] at e1 e3 ⊢
      grind
    · -- s14
      intro x y e1 e2 e3 e4
      have hk:=(kidg x y).1 e2
      have:=rp.s14 x y
      have:=fM x y (kidf x y hk)
      dsimp only at e1 e3 e4 ⊢
      simp only [← hM] at e1 e3 ⊢
      grind
    · -- s4
      intro x y l' n hm e1 e2
      dsimp only at e1 e2 ⊢
      simp only [← hM] at e1 e2 ⊢
      have:=rp.s4 x y l' n hm
      have:=st.i1 x y l' n false (ini_RS.1 hm)
      have:=hMz y
      grind
    · -- s5
      intro x y l' n hm
      have h9:=rp.s5 x y l' n hm
      have h8:¬ M y:=fun e=>by have:=hMz y e; omega
      dsimp only
      simp only [← hM,if_neg h8]
      exact ⟨h9.1,h9.2.1,fun e=>h9.2.2.1 e.1,fun e=>h9.2.2.2 ((kidg x y).1 e)⟩
    · -- s9
      intro a b e1 e2 e3 e4
      dsimp only at e1 e2 e4 ⊢
      simp only [← hM] at e1 e2 e4 ⊢
      have:=rp.s9 a b
      grind
    · -- si
      intro z e1 e2
      dsimp only at e1 e2 ⊢
      simp only [← hM] at e1 e2
      have:=rp.si z
      have:=hMz z
      simp only [upd]; grind
    · -- s13
      intro a b e1 e2 e3
      dsimp only at e2 e3 ⊢
      simp only [← hM] at e2 ⊢
      have nM:¬ M a:=fun e=>by have:=hMz a e; rw [if_pos e] at e2; omega
      have hc:core g a b:=by
        rcases (corg a b).1 e1 with hc | ⟨rfl,rfl⟩ | ⟨rfl,rfl⟩
        · exact hc
        · exact (nM Mu).elim
        · exact (nM Mv).elim
      rw [if_neg nM] at e2 ⊢
      exact rp.s13 a b hc e2 e3
    · -- r1
      intro x y w hm
      rcases rp.r1 x y w hm with ⟨w1,w2,w3,w4,w5,w6,w7,w8⟩ | ⟨w1,w2,w3,w4,w5,w6,w7⟩
      · left
        have h8:¬ M y:=fun e=>by have:=hMz y e; omega
        dsimp only
        simp only [← hM,if_neg h8]
        exact ⟨w1,(hp' _ _).2 (Or.inl w2),w3,w4,w5,w6,fun e=>w7 ((kidg x y).1 e),w8⟩
      · right
        refine ⟨(kidg y x).2 w1,w2,w3,w4,w5,fun e=>?_,w7⟩
        dsimp only at e ⊢
        simp only [← hM] at e ⊢
        have:=hMz x
        have:=fM y x (kidf y x w1)
        grind
    · -- hd
      intro x y e1 e2 e3 e4
      have hk:=(kidg x y).1 e2
      dsimp only at e1 e3 ⊢
      simp only [← hM] at e3 ⊢
      rw [if_neg e3.2]
      exact rp.hd x y e1 hk e3.1 e4
    · -- ct
      intro x e
      dsimp only at e
      obtain ⟨li,l1,l2,l3⟩:=rp.ct x e
      have hx:¬ M x:=fun e2=>by have:=hMz x e2; rw [e] at this; simp at this
      refine ⟨li,l1,l2,fun y=>?_⟩
      rw [l3]
      have w1:=kidg x y
      constructor
      · rintro ⟨y1,y2⟩
        refine ⟨w1.2 y1,y2.imp_left fun z1 z2=>z1 z2.1⟩
      · rintro ⟨y1,y2⟩
        have y3:=w1.1 y1
        refine ⟨y3,y2.imp_left fun z1 z2=>z1 ⟨z2,fun z3=>hx ((fM x y (kidf _ _ y3)).2 ((hM y).2 z3))⟩⟩
    · -- s15
      intro a b e1 e2 e3
      dsimp only at e2 e3
      simp only [← hM] at e2 e3
      rcases (corg a b).1 e1 with hc | ⟨rfl,rfl⟩ | ⟨rfl,rfl⟩
      · rw [if_neg e3.2] at e2
        exact rp.s15 a b hc e2 e3.1
      · exact e3.2 Mu
      · exact e3.2 Mv
  · rw [kT_add rfl]
    have htu:=(ts.t0 u (hMz u Mu).2.2.2).1
    have htv:=(ts.t0 v (hMz v Mv).2.2.2).1
    refine ⟨ts.t0,?_,?_,ts.t3,?_,?_,?_,ts.t7⟩
    · intro y x hx
      dsimp only at hx ⊢
      have w1:=ts.t1 y x hx
      refine ⟨w1.1,?_,fun z z1 z2=>w1.2.2 z z1 ((hse0 _ _).1 z2).1⟩
      rw [hse0,hse,hse]
      grind
    · intro y x e1 e2 e3 e4 e5
      dsimp only at e5
      rw [hse0] at e5
      exact ts.t2 y x e1 e2 e3 e4 e5.1
    · intro y x l' n hm
      have w1:=ts.t4 y x l' n hm
      dsimp only
      rcases w1 with w1 | w1
      · exact Or.inl w1
      · refine Or.inr ⟨w1.1,w1.2.1,Or.inl w1.2.2.1,w1.2.2.2.1,w1.2.2.2.2.1,?_⟩
        rw [ne_eq,hse0]; exact fun e=>w1.2.2.2.2.2 e.1
    · intro y x hm
      have w1:=ts.t5 y x hm
      have w2:s.fnd y=true:=by
        cases e:s.fnd y
        · have:=(ts.t0 y e).1; rw [w1.1] at this; cases this
        · rfl
      have hy:¬ M y:=fun e2=>by have:=hMz y e2; rw [w2] at this; simp at this
      dsimp only
      rw [fr' y x hy]
      simp only [← hM,if_neg hy]
      exact w1
    · intro y x hm
      have w1:=ts.t6 y x hm
      dsimp only
      refine ⟨w1.1,Or.inl w1.2.1,?_⟩
      rw [ne_eq,hse0]; exact fun e=>w1.2.2 e.1
  · rw [kX_add rfl]
    refine ⟨?_,?_,?_,?_⟩
    · intro y e1 e2 e3 e4
      dsimp only at e1 e2 e3 e4 ⊢
      simp only [← hM] at e1 e2 e3
      have hy:¬ M y:=fun e=>by have:=hMz y e; rw [if_pos e] at e2; omega
      rw [if_neg hy] at e1 e2 e3
      obtain ⟨v',d1,d2,d3⟩:=bs.bb y e1 e2 e3 e4
      refine ⟨v',d1,d2,?_⟩
      rw [hse0,fr' y v' hy]
      simp only [← hM,if_neg hy]
      rcases d3 with d3 | d3 | d3
      · exact Or.inl ⟨d3,hy⟩
      · exact Or.inr (Or.inl ⟨⟨d3.1,fun e=>hy (e.1 ▸ Mu)⟩,d3.2⟩)
      · refine Or.inr (Or.inr ⟨(kidg y v').2 d3.1,?_,d3.2.2⟩)
        have:=fM y v' (kidf _ _ d3.1)
        rw [if_neg (fun e=>hy (this.2 e))]; exact d3.2.1
    · intro z hz
      have w:=bs.k1 z hz.2
      have hy:¬ M z:=fun e=>hz.1 (ph1 z e w.2.1 w.2.2.1)
      have n1:z≠v:=by rintro rfl; exact hy Mv
      dsimp only
      rw [hpn]
      simp only [← hM,if_neg hy]
      exact ⟨w.1,w.2.1,⟨w.2.2.1,hz.1,n1⟩,w.2.2.2⟩
    · intro y c hr
      have w:=bs.k2 y c hr
      have hy:¬ M y:=fun e=>by
        have:=ph1 y e w.1 w.2.1
        subst this
        exact k6 c hr
      have hc:¬ M c:=fun e=>hy ((fM y c (kidf _ _ w.2.2.2.1)).2 e)
      have n1:y≠v:=by rintro rfl; exact hy Mv
      have n2:y≠u:=by rintro rfl; exact hy Mu
      dsimp only
      rw [hpn]
      simp only [← hM,if_neg hy,if_neg hc]
      exact ⟨w.1,⟨w.2.1,n2,n1⟩,w.2.2.1,(kidg y c).2 w.2.2.2.1,w.2.2.2.2⟩
    · intro z hz a b e1 e2
      have w:=bs.ov z hz
      dsimp only at e1 ⊢
      have w1:=w a b
      have w2:=w u v
      have w3:=w v u
      have w4:=f2 u z
      have w5:=f2 v z
      have w6:=f2 v u
      grind
  · rw [kX_add rfl]
    refine ⟨?_,?_,?_,?_⟩
    · intro z hz
      have:=pa.p1 z hz.1
      dsimp only; rw [if_neg hz.2]; exact this
    · intro z x e1 e2 e3 e4
      dsimp only at e1 e2 e3 ⊢
      have hk:=(kidg z x).1 e4
      rw [ne_eq,hpn] at e3
      simp only [← hM] at e1 e2 ⊢
      have w1:=fM z x (kidf z x hk)
      have w2:=pa.u1 z x
      grind
    · intro z hz
      have w:=pa.k3 z hz.2
      have h8:=bs.k1 z hz.2
      have hy:¬ M z:=fun e=>hz.1 (ph1 z e h8.2.1 h8.2.2.1)
      dsimp only
      simp only [← hM,if_neg hy]
      refine ⟨w.1,fun e=>w.2.1 e.1,fun x e1 e2 e=>w.2.2 x e1 ((kidg z x).1 e2) e.1⟩
    · intro y c hr
      have w:=pa.k4 y c hr
      have h8:=bs.k2 y c hr
      have hy:¬ M y:=fun e=>by
        have:=ph1 y e h8.1 h8.2.1
        subst this
        exact k6 c hr
      dsimp only
      simp only [← hM,if_neg hy]
      exact ⟨w.1,fun e=>w.2.1 e.1,w.2.2⟩
def g0:Gh:={ fr:=fun a b=>a=b,L:=fun _=>0,N:=fun _=>0,ph:=fun _=>2,W:=fun _=>0,par:=fun _=>none,dep:=fun _=>0 }
def h0:Gs:={ Z:=fun _=>False,be:=fun _=>0,tg:=fun _=>False,tk:=fun _=>False,ps:=fun _=>False }
theorem inv_start (G:Gr) {s:St} (h2:∀ u,s.lev u=0) (h3:∀ u,s.fnd u=false) (h4:∀ u v,s.se u v=0) (h5:∀ u,s.tst u=none) (h6:∀ u,s.cnt u=0) (h7:∀ u,s.over u=false) (h8:∀ u v,s.q u v=[]) (h9:∀ u,s.bw u≤1001):Inv G s g0 h0:=by
  have eS:∀ u v,kS s.q u v=[]:=fun u v=>by simp [kS,h8]
  have eR:∀ u v,kR s.q u v=[]:=fun u v=>by simp [kR,h8]
  have eT:∀ u v,kT s.q u v=[]:=fun u v=>by simp [kT,h8]
  have eX:∀ u v,kX s.q u v=[]:=fun u v=>by simp [kX,h8]
  have nk:∀ x y,¬ kid g0 x y:=fun x y e=>by have:=e.1; cases this
  have nc:∀ x y,¬ core g0 x y:=fun x y e=>by have:=e.1; cases this
  have nm:∀ m,m ∉ ([]:List NMsg):=fun m=>by simp
  refine ⟨?_,?_,?_,?_,?_,?_⟩
  · intro u v m hm; rw [h8] at hm; cases hm
  · refine ⟨?_,?_,?_,?_,?_,?_,?_,?_,?_,?_,?_,?_,?_,?_,?_,?_,?_,?_,?_,?_,?_,?_,?_,?_,?_,?_,?_,?_,?_,?_,?_⟩
    · intro u v m hm; rw [eS] at hm; cases hm
    · intro u v hm; exact (hm (h4 u v)).elim
    · intro u _; exact ⟨h2 u,rfl,rfl,rfl,rfl⟩
    · intro u; rfl
    · intro u v e; exact e.symm
    · intro u v x e1 e2; exact Eq.trans e1 e2
    · intro u v e; exact ⟨rfl,rfl,rfl,rfl⟩
    · intro u v _ e; exact e
    · intro u; rw [h2]; exact Nat.le_refl _
    · intro u _ e; exact absurd e (by simp [g0])
    · intro u v e; rw [h4] at e; omega
    · intro u v; rw [h4]; omega
    · intro u v e; have:=e.1; rw [h4] at this; omega
    · intro u v e; cases e
    · intro u v e; have:=e.1; rw [h4] at this; omega
    · intro u v l hm; rw [eS] at hm; cases hm
    · intro u v; rw [eS]; simp
    · intro u v e; exact (nc _ _ e).elim
    · intro u v x y e; exact (nc _ _ e).elim
    · intro x y e; exact (nk _ _ e).elim
    · intro x y l n f hm; rw [eS] at hm; cases hm
    · intro u v _ _ e; exact e
    · intro u e; simp [g0] at e
    · intro x y e; exact (nk _ _ e).elim
    · intro v e; rw [h2] at e; omega
    · intro x y l n f hm; rw [eS] at hm; cases hm
    · intro v e; simp [g0] at e
    · intro u z v _ _ _ _; exact Nat.zero_le _
    · intro u hu; exact ⟨[u],by simp,by simp [g0],by simp [g0,hu]⟩
    · intro u v e; rw [h4] at e; omega
    · intro u v A B l n f hm; rw [eS] at hm; simp at hm
  · refine ⟨?_,?_,?_,?_,?_,?_,?_,?_,?_,?_,?_,?_,?_,?_,?_,?_⟩
    · intro u e; rw [h3] at e; cases e
    · intro u e; simp [g0] at e
    · intro x y e; simp [g0] at e
    · intro x y e; simp [g0] at e
    · intro x y l n hm; rw [eR] at hm; cases hm
    · intro x y l n hm; rw [eR] at hm; cases hm
    · intro u _; exact h6 u
    · intro u v e; simp [g0] at e
    · intro u e; simp [g0] at e
    · intro u v e; exact (nc _ _ e).elim
    · intro x y w hm; rw [eR] at hm; cases hm
    · intro x y; rw [eR]; simp
    · intro x y e; rw [h3] at e; cases e
    · intro x e; rw [h3] at e; cases e
    · exact h9
    · intro u v e; exact (nc _ _ e).elim
  · refine ⟨?_,?_,?_,?_,?_,?_,?_,?_⟩
    · intro y _; exact ⟨h5 y,fun e=>e⟩
    · intro y v e; rw [h5] at e; cases e
    · intro y x e; rw [h3] at e; cases e
    · intro y e; cases e
    · intro y v l n hm; rw [eT] at hm; cases hm
    · intro y v hm; rw [eT] at hm; cases hm
    · intro y v hm; rw [eT] at hm; cases hm
    · intro y v e; rw [h5] at e; cases e
  · refine ⟨?_,?_,?_,?_⟩
    · intro y e; simp [g0] at e
    · intro u e; cases e
    · intro y c hm; rw [eX] at hm; cases hm
    · intro u e; rw [h7] at e; cases e
  · refine ⟨?_,?_,?_,?_⟩
    · intro z e; cases e
    · intro z v _ e; simp [g0] at e
    · intro u e; cases e
    · intro y c hm; rw [eX] at hm; cases hm
theorem Inv.branch {G:Gr} {s:St} {g:Gh} {h:Gs} (hI:Inv G s g h) {u v:Nat} (e:s.se u v=1):G.mst u v∨G.mst v u:=hI.st.mst u v e
theorem nodup_len : ∀ (n : Nat) (l : List Nat), l.Nodup → (∀ x ∈ l, x < n) → l.length ≤ n
  | 0,l,_,h=>by
    cases l with
    | nil=>simp
    | cons a t=>exact absurd (h a (by simp)) (by omega)
  | n + 1,l,hd,h=>by
    have h1:=nodup_len n (l.erase n) (hd.erase n) (fun x hx=>by
      have:=h x (List.mem_of_mem_erase hx)
      have:x≠n:=fun e=>by subst e; exact (List.Nodup.not_mem_erase hd) hx
      omega)
    rw [List.length_erase] at h1
    split at h1 <;> omega
theorem Inv.low {G:Gr} {s:St} {g:Gh} {h:Gs} (hI:Inv G s g h) {u:Nat} (hu:u < G.n):2 ^ g.L u≤G.n:=by
  obtain ⟨l,l1,l2,l3⟩:=hI.st.sz u hu
  rw [← l2]
  exact nodup_len _ l l1 (fun x hx=>(l3 x hx).2)
end Go.Proofs.YtlfijfodklhplaaGreat.Ghs
