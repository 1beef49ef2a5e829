import Derived.Test.YtlfijfodklhplaaGreatSf45
set_option linter.unusedVariables false
set_option linter.unusedSimpArgs false
namespace Go.Proofs.YtlfijfodklhplaaGreat.Ghs
open Go.RowKit
open NMsg
theorem wake_state (n:Nod):n.wake.state≠0:=by
  unfold Nod.wake
  split
  · split
    · simp
    · simp [Nod.send,Nod.setSt]
  · assumption
theorem wake_of {n:Nod} (h:n.state≠0):n.wake=n:=by simp [Nod.wake,h]
theorem wake_wake (n:Nod):n.wake.wake=n.wake:=wake_of (wake_state n)
theorem connect_wake (n:Nod) (j l:Nat):n.wake.connect j l=n.connect j l:=by unfold Nod.connect; rw [wake_wake]
theorem test_wake (n:Nod) (j l m:Nat):n.wake.test j l m=n.test j l m:=by unfold Nod.test; rw [wake_wake]
theorem upd_upd {α:Type} (f:Nat→α) (a:Nat) (x y:α):upd (upd f a x) a y=upd f a y:=by
  funext b; simp only [upd]; split <;> rfl
theorem act_false {n:Nod} {j:Nat} {m:NMsg} (h:(n.act j m).2=false):(n.act j m).1=n.wake∧((n.wake).act j m).2=false:=by
  cases m with
  | connect l =>
    simp only [Nod.act,connect_wake]
    refine ⟨?_,h⟩
    simp only [Nod.act,Nod.connect] at h ⊢
    split
    · rename_i e; rw [if_pos e] at h; cases h
    · rename_i e; rw [if_neg e] at h
      split
      · rfl
      · rename_i e2; rw [if_neg e2] at h; cases h
  | initiate l nm f=>simp [Nod.act] at h
  | test l nm =>
    simp only [Nod.act,test_wake]
    refine ⟨?_,h⟩
    simp only [Nod.act,Nod.test] at h ⊢
    split
    · rfl
    · rename_i e; rw [if_neg e] at h
      split
      · rename_i e2; rw [if_pos e2] at h; cases h
      · rename_i e2; rw [if_neg e2] at h
        split
        · rename_i e3; rw [if_pos e3] at h; cases h
        · rename_i e3; rw [if_neg e3] at h; cases h
  | accept=>simp [Nod.act] at h
  | reject=>simp [Nod.act] at h
  | report w =>
    simp only [Nod.act,Nod.report] at h
    by_cases c1:n.inn=some j
    · by_cases c2:n.state=1
      · have e:=wake_of (n:=n) (by omega)
        rw [e]
        simp [Nod.act,Nod.report,c1,c2]
      · rw [if_pos c1,if_neg c2] at h
        split at h
        · cases h
        · split at h <;> cases h
    · rw [if_neg c1] at h; cases h
  | root=>simp [Nod.act] at h
theorem act_ok {G:Gr} {T:Top G} {nodes:Nat→Nod} {P:Nat→Nat→List NMsg} (hsm:G.n < 2 ^ 30) (hdg:∀ u,T.dg u < 2 ^ 30) (hG:Good G T nodes P) {v j:Nat} {m:NMsg} (hj:j < T.dg v) {A B:List NMsg} (hP:P (T.nb v j) v=A++m :: B) (hA:∀ a ∈ A,((nodes v).act j a).2=false) (hs:(nodes v).state=0→A=[]) (ht:((nodes v).act j m).2=true) :
    Good G T (upd nodes v ((nodes v).act j m).1) (upd2 P (T.nb v j) v (A++B)):=by
  have hA0:inits A=[]:=by
    apply List.eq_nil_iff_forall_not_mem.2
    rintro ⟨l,n,f⟩ hm
    have:=hA _ ((mem_inits _).1 hm)
    simp [Nod.act] at this
  cases m with
  | connect l =>
    have h1:=act_wake hG v
    have h2:=act_connect hsm h1 hj hP (by rw [upd_at]; exact wake_state _) (by rw [upd_at,connect_wake]; exact ht)
    rw [upd_at,connect_wake,upd_upd] at h2
    exact h2
  | initiate l nm f =>
    refine act_init hsm hdg hG hj hP hA0 (fun l' hm=>?_) (fun w hm=>?_)
    · have h0:(nodes v).state≠0:=fun e=>by rw [hs e] at hm; cases hm
      have h1:=hA _ hm
      simp only [Nod.act,Nod.connect,wake_of h0] at h1
      split at h1
      · cases h1
      · split at h1
        · assumption
        · cases h1
    · have h1:=hA _ hm
      simp only [Nod.act,Nod.report] at h1
      split at h1
      · split at h1
        · assumption
        · split at h1
          · cases h1
          · split at h1 <;> cases h1
      · cases h1
  | test l nm =>
    have h1:=act_wake hG v
    have h2:=act_test h1 hj hP (by rw [upd_at]; exact wake_state _) (by rw [upd_at,test_wake]; exact ht)
    rw [upd_at,test_wake,upd_upd] at h2
    exact h2
  | accept=>exact act_accept hG hj hP
  | reject=>exact act_reject hG hj hP
  | report w=>exact act_report hsm hG hj hP hA0 ht
  | root=>exact (act_root hG hj hP).2
def Same (n n':Nod):Prop:=n'.off=n.off∧(n.state≠0→n'.state≠0)
theorem Same.refl (n:Nod):Same n n:=⟨rfl,id⟩
theorem Same.trans {a b c:Nod} (h:Same a b) (k:Same b c):Same a c:=⟨k.1.trans h.1,fun e=>k.2 (h.2 e)⟩
theorem same_send (n:Nod) (j:Nat) (m:NMsg):Same n (n.send j m):=⟨rfl,id⟩
theorem same_set (n:Nod) (j x:Nat):Same n (n.setSt j x):=⟨rfl,id⟩
theorem same_wake (n:Nod):Same n n.wake:=by
  unfold Nod.wake
  split
  · split
    · exact ⟨rfl,fun _=>by simp⟩
    · exact ⟨rfl,fun _=>by simp [Nod.send,Nod.setSt]⟩
  · exact Same.refl n
theorem same_spread (n:Nod) (j l nm:Nat) (f:Bool):Same n (n.spread j l nm f):=by
  unfold Nod.spread; split
  · exact ⟨rfl,id⟩
  · exact ⟨rfl,id⟩
theorem same_reports (n:Nod):Same n n.reports:=by
  unfold Nod.reports; split
  · split
    · exact ⟨rfl,fun _=>by simp⟩
    · exact ⟨rfl,fun _=>by simp [Nod.send]⟩
  · exact Same.refl n
theorem same_tests (n:Nod):Same n n.tests:=by
  unfold Nod.tests; split
  · exact Same.trans ⟨rfl,id⟩ (same_reports _)
  · exact ⟨rfl,id⟩
theorem same_spreads (fr l nm : Nat) (f : Bool) : ∀ (k j : Nat) (n : Nod), Same n (n.spreads fr l nm f k j)
  | 0,j,n=>Same.refl n
  | k + 1,j,n=>by
    unfold Nod.spreads
    refine Same.trans ?_ (same_spreads fr l nm f k (j + 1) _)
    split
    · exact same_spread _ _ _ _ _
    · exact Same.refl n
theorem same_reject (n:Nod) (j:Nat):Same n (n.reject j):=by
  unfold Nod.reject; split
  · exact same_set _ _ _
  · exact Same.refl n
theorem same_hear (n:Nod) (j w:Nat):Same n (n.hear j w):=by
  unfold Nod.hear; split
  · exact ⟨rfl,id⟩
  · exact Same.refl n
theorem same_root (n:Nod):Same n n.changeRoot:=by
  unfold Nod.changeRoot; split
  · exact Same.refl n
  · split
    · exact ⟨rfl,id⟩
    · exact ⟨rfl,id⟩
theorem same_act (n:Nod) (j:Nat) (m:NMsg):Same n (n.act j m).1:=by
  cases m with
  | connect l =>
    simp only [Nod.act,Nod.connect]
    refine Same.trans (same_wake n) ?_
    split
    · exact Same.trans (same_set _ j 1) (same_spread _ _ _ _ _)
    · split
      · exact Same.refl _
      · exact same_send _ _ _
  | initiate l nm f =>
    simp only [Nod.act,Nod.initiate]
    have h1:Same n ({ n with level:=l,name:=nm,state:=if f then 1 else 2,inn:=some j,best:=none,bw:=1001 }:Nod):=⟨rfl,fun _=>by cases f <;> simp⟩
    have h2:=Same.trans h1 (same_spreads j l nm f n.edges.length 0 _)
    cases f
    · exact h2
    · exact Same.trans h2 (same_tests _)
  | test l nm =>
    simp only [Nod.act,Nod.test]
    refine Same.trans (same_wake n) ?_
    split
    · exact Same.refl _
    · split
      · exact same_send _ _ _
      · split
        · exact Same.trans (same_reject _ _) (same_tests _)
        · exact Same.trans (same_reject _ _) (same_send _ _ _)
  | accept =>
    simp only [Nod.act,Nod.accept]
    have h1:Same n ({ n with tested:=none }:Nod):=⟨rfl,id⟩
    exact Same.trans (Same.trans h1 (same_hear _ _ _)) (same_reports _)
  | reject=>exact Same.trans (same_reject _ _) (same_tests _)
  | report w =>
    simp only [Nod.act,Nod.report]
    split
    · split
      · exact Same.refl _
      · split
        · exact same_root _
        · split
          · exact ⟨rfl,id⟩
          · exact Same.refl _
    · have h1:Same n ({ n with count:=wrap64 (n.count - 1) }:Nod):=⟨rfl,id⟩
      exact Same.trans (Same.trans h1 (same_hear _ _ _)) (same_reports _)
  | root=>exact same_root _
theorem wake_off (n:Nod) (x:List (Nat × NMsg)):({ n with off:=x }:Nod).wake={ n.wake with off:=x }:=by
  unfold Nod.wake
  dsimp only
  split
  · have e:({ n with level:=0,state:=2,count:=0,off:=x }:Nod).light=({ n with level:=0,state:=2,count:=0 }:Nod).light:=rfl
    rw [e]
    split <;> rfl
  · rfl
theorem act_off2 (n:Nod) (x:List (Nat × NMsg)) (j:Nat) (m:NMsg):(({ n with off:=x }:Nod).act j m).2=(n.act j m).2:=by
  cases m with
  | connect l =>
    simp only [Nod.act,Nod.connect,wake_off]
    split
    · rfl
    · have e:({ n.wake with off:=x }:Nod).st j=n.wake.st j:=rfl
      rw [e]
      split <;> rfl
  | initiate l nm f=>rfl
  | test l nm =>
    simp only [Nod.act,Nod.test,wake_off]
    split
    · rfl
    · split
      · rfl
      · split <;> rfl
  | accept=>rfl
  | reject=>rfl
  | report w =>
    simp only [Nod.act,Nod.report]
    split
    · split
      · rfl
      · split
        · rfl
        · split <;> rfl
    · rfl
  | root=>rfl
def offFrom (l:List (Nat × NMsg)) (j:Nat):List NMsg:=(l.filter (fun c=>c.1 == j)).map (fun c=>c.2)
def Stable (n:Nod):Prop:=∀ c ∈ n.off,(n.act c.1 c.2).2=false
structure Net (G : Gr) (T : Top G) (Q : Nat → Prop) (nodes : Nat → Nod) (chan : Nat → Nat → List NMsg) : Prop where
  good:∃ P,Good G T nodes P∧∀ v j,j < T.dg v→P (T.nb v j) v=offFrom (nodes v).off j++chan (T.nb v j) v
  rng:∀ v c,c ∈ (nodes v).off→c.1 < T.dg v
  slp:∀ v,(nodes v).state=0→(nodes v).off=[]
  stb:∀ v,Q v→Stable (nodes v)
theorem Good.off {G:Gr} {T:Top G} {nodes:Nat→Nod} {P:Nat→Nat→List NMsg} {v:Nat} {n:Nod} (h:Good G T (upd nodes v n) P) (x:List (Nat × NMsg)):Good G T (upd nodes v { n with off:=x }) P:=by
  obtain ⟨s,g,h',hR,hI,a,b⟩:=h
  refine ⟨s,g,h',?_,hI,a,b⟩
  have h0:=hR.nr v
  rw [upd_at] at h0
  refine hR.mod (fun z hz=>⟨rfl,rfl,rfl,rfl,rfl,rfl,rfl,rfl,rfl,rfl,rfl,rfl⟩) ⟨h0.aw,h0.lev,h0.nam,h0.fnd,h0.len,h0.se,h0.wt,h0.inn,h0.innl,h0.best,h0.bestl,h0.tst,h0.tstl,h0.bw,h0.cnt,h0.over,h0.bw1⟩ (fun k hk=>?_) hR.rp
  have:=hR.q v k hk; rw [upd_at] at this; exact this
theorem Net.wake {G:Gr} {T:Top G} {Q:Nat→Prop} {nodes:Nat→Nod} {chan:Nat→Nat→List NMsg} (h:Net G T Q nodes chan) (u:Nat):Net G T Q (upd nodes u (nodes u).wake) chan:=by
  obtain ⟨P,hP,hl⟩:=h.good
  have hs:=same_wake (nodes u)
  refine ⟨⟨P,act_wake hP u,fun v j hj=>?_⟩,fun v c hc=>?_,fun v e=>?_,fun v hv=>?_⟩
  · rw [hl v j hj]
    by_cases e:v=u
    · subst e; rw [upd_at,hs.1]
    · rw [upd_ne _ _ e]
  · by_cases e:v=u
    · subst e; rw [upd_at,hs.1] at hc; exact h.rng _ _ hc
    · rw [upd_ne _ _ e] at hc; exact h.rng _ _ hc
  · by_cases e2:v=u
    · subst e2; rw [upd_at] at e; exact (wake_state _ e).elim
    · rw [upd_ne _ _ e2] at e ⊢; exact h.slp _ e
  · by_cases e2:v=u
    · subst e2
      rw [upd_at]
      by_cases e3:(nodes v).state=0
      · intro c hc; rw [hs.1,h.slp v e3] at hc; cases hc
      · rw [wake_of e3]; exact h.stb v hv
    · rw [upd_ne _ _ e2]; exact h.stb v hv
theorem offFrom_app (a b:List (Nat × NMsg)) (j:Nat):offFrom (a++b) j=offFrom a j++offFrom b j:=by simp [offFrom]
theorem offFrom_cons (c:Nat × NMsg) (b:List (Nat × NMsg)) (j:Nat):offFrom (c :: b) j=(if c.1=j then [c.2] else [])++offFrom b j:=by
  by_cases e:c.1=j <;> simp [offFrom,e]
theorem mem_offFrom {l:List (Nat × NMsg)} {j:Nat} {m:NMsg}:m ∈ offFrom l j ↔ (j,m) ∈ l:=by
  simp only [offFrom,List.mem_map,List.mem_filter]
  constructor
  · rintro ⟨⟨a,b⟩,⟨h1,h2⟩,rfl⟩
    simp at h2; subst h2; exact h1
  · intro h; exact ⟨(j,m),⟨h,by simp⟩,rfl⟩
theorem Net.step {G : Gr} {T : Top G} {nodes : Nat → Nod} {chan chan' : Nat → Nat → List NMsg} (hsm : G.n < 2 ^ 30) (hdg : ∀ u, T.dg u < 2 ^ 30) {v j : Nat} {m : NMsg} (h : Net G T (fun x => x ≠ v) nodes chan) (hj : j < T.dg v) {X Y : List (Nat × NMsg)} {B : List NMsg}
    (h1:offFrom (nodes v).off j++chan (T.nb v j) v=offFrom X j++m :: B) (h2:offFrom (X++Y) j++chan' (T.nb v j) v=offFrom X j++B) (h3:∀ k,k < T.dg v→k≠j→offFrom (X++Y) k++chan' (T.nb v k) v=offFrom (nodes v).off k++chan (T.nb v k) v) (h4:∀ x y,y≠v→chan' x y=chan x y)
    (hX:∀ c ∈ X,((nodes v).act c.1 c.2).2=false) (h5:∀ c,c ∈ X++Y→c ∈ (nodes v).off) (ht:((nodes v).act j m).2=true) :
    Net G T (fun x=>x≠v) (upd nodes v { ((nodes v).act j m).1 with off:=X++Y }) chan':=by
  obtain ⟨P,hP,hl⟩:=h.good
  have hs:=same_act (nodes v) j m
  have hA:∀ a ∈ offFrom X j,((nodes v).act j a).2=false:=fun a ha=>hX (j,a) (mem_offFrom.1 ha)
  have hz:(nodes v).state=0→X++Y=[]:=fun e=>by
    apply List.eq_nil_iff_forall_not_mem.2
    intro c hc
    have:=h5 c hc
    rw [h.slp v e] at this; cases this
  have hg:=act_ok hsm hdg hP hj (by rw [hl v j hj,h1]) hA (fun e=>by
    have:=hz e
    have:X=[]:=List.append_eq_nil_iff.1 this |>.1
    rw [this]; rfl) ht
  refine ⟨⟨_,hg.off (X++Y),fun x k hk=>?_⟩,fun x c hc=>?_,fun x e=>?_,fun x hx=>?_⟩
  · simp only [upd2]
    by_cases e:x=v
    · subst e
      rw [upd_at]
      by_cases e2:k=j
      · subst e2
        simp only [and_self,if_true]
        exact h2.symm
      · have:T.nb x k≠T.nb x j:=fun e3=>e2 (T.inj x _ _ hk hj e3)
        rw [if_neg (fun e3=>this e3.1),hl x k hk]
        exact (h3 k hk e2).symm
    · rw [if_neg (fun e3=>e e3.2),upd_ne _ _ e,h4 _ _ e]
      exact hl x k hk
  · by_cases e:x=v
    · subst e; rw [upd_at] at hc; exact h.rng _ _ (h5 c hc)
    · rw [upd_ne _ _ e] at hc; exact h.rng _ _ hc
  · by_cases e2:x=v
    · subst e2
      rw [upd_at] at e ⊢
      refine hz ?_
      apply Classical.byContradiction
      intro e3
      exact hs.2 e3 e
    · rw [upd_ne _ _ e2] at e ⊢; exact h.slp _ e
  · rw [upd_ne _ _ hx]; exact h.stb x hx
theorem oneOff_spec {n:Nod} (hn:n.state≠0):∀ (f k:Nat),n.off.length≤k + f→(∀ i,i < k→∀ c,n.off[i]?=some c→(n.act c.1 c.2).2=false) →
    (n.oneOff f k=(n,false)∧Stable n)∨∃ X c Y,n.off=X++c :: Y∧(∀ d ∈ X,(n.act d.1 d.2).2=false)∧(n.act c.1 c.2).2=true∧n.oneOff f k=({ (n.act c.1 c.2).1 with off:=X++Y },true)
  | 0,k,h1,h2=>by
    left
    refine ⟨rfl,fun c hc=>?_⟩
    obtain ⟨i,hi,rfl⟩:=List.getElem_of_mem hc
    exact h2 i (by omega) _ (List.getElem?_eq_getElem hi)
  | f + 1,k,h1,h2=>by
    rw [Nod.oneOff]
    cases e:n.off[k]? with
    | none =>
      left
      refine ⟨rfl,fun c hc=>?_⟩
      obtain ⟨i,hi,rfl⟩:=List.getElem_of_mem hc
      have:=List.getElem?_eq_none_iff.1 e
      exact h2 i (by omega) _ (List.getElem?_eq_getElem hi)
    | some c =>
      obtain ⟨hk,hc⟩:=List.getElem?_eq_some_iff.1 e
      dsimp only
      by_cases e2:(n.act c.1 c.2).2=true
      · right
        rw [if_pos e2]
        refine ⟨n.off.take k,c,n.off.drop (k + 1),?_,?_,e2,?_⟩
        · rw [← hc,List.getElem_cons_drop,List.take_append_drop]
        · intro d hd
          obtain ⟨i,hi,rfl⟩:=List.getElem_of_mem hd
          rw [List.length_take] at hi
          rw [List.getElem_take]
          exact h2 i (by omega) _ (List.getElem?_eq_getElem (by omega))
        · rw [(same_act n c.1 c.2).1,List.eraseIdx_eq_take_drop_succ]
      · rw [if_neg e2]
        have e3:(n.act c.1 c.2).2=false:=by simpa using e2
        have e4:=(act_false e3).1
        rw [wake_of hn] at e4
        rw [e4]
        refine oneOff_spec hn f (k + 1) (by omega) (fun i hi d hd=>?_)
        by_cases e5:i=k
        · subst e5; rw [e] at hd; cases hd; exact e3
        · exact h2 i (by omega) d hd
theorem Net.offs {G : Gr} {T : Top G} (hsm : G.n < 2 ^ 30) (hdg : ∀ u, T.dg u < 2 ^ 30) {v : Nat} : ∀ (f : Nat) {nodes : Nat → Nod} {chan : Nat → Nat → List NMsg}, Net G T (fun x => x ≠ v) nodes chan → (nodes v).off.length < f → Net G T (fun _ => True) (upd nodes v ((nodes v).offs f)) chan
  | 0,nodes,chan,h,hf=>by omega
  | f + 1,nodes,chan,h,hf=>by
    rw [Nod.offs]
    by_cases e0:(nodes v).state=0
    · have e1:=h.slp v e0
      have e2:(nodes v).oneOff (nodes v).off.length 0=(nodes v,false):=by rw [e1]; rfl
      rw [e2]
      simp only [Bool.false_eq_true,if_false]
      rw [upd_self]
      refine ⟨h.good,h.rng,h.slp,fun x _=>?_⟩
      by_cases e3:x=v
      · subst e3; intro c hc; rw [e1] at hc; cases hc
      · exact h.stb x e3
    · rcases oneOff_spec e0 (nodes v).off.length 0 (by omega) (fun i hi=>by omega) with ⟨e1,e2⟩ | ⟨X,c,Y,e1,e2,e3,e4⟩
      · rw [e1]
        simp only [Bool.false_eq_true,if_false]
        rw [upd_self]
        refine ⟨h.good,h.rng,h.slp,fun x _=>?_⟩
        by_cases e3:x=v
        · subst e3; exact e2
        · exact h.stb x e3
      · rw [e4]
        simp only [if_true]
        have hc:c.1 < T.dg v:=h.rng v c (by rw [e1]; simp)
        have h1 := Net.step hsm hdg (chan' := chan) (m := c.2) (X := X) (Y := Y) (B := offFrom Y c.1 ++ chan (T.nb v c.1) v) h hc
          (by rw [e1,offFrom_app,offFrom_cons]; simp) (by rw [offFrom_app]; simp) (fun k hk hkc=>by rw [e1,offFrom_app,offFrom_app,offFrom_cons,if_neg (fun e=>hkc e.symm)]; simp) (fun _ _ _=>rfl) e2 (fun d hd=>by rw [e1]; simp at hd ⊢; rcases hd with hd | hd <;> simp [hd]) e3
        have h2:=Net.offs hsm hdg f h1 (by rw [upd_at]; rw [e1] at hf; simp at hf ⊢; omega)
        rw [upd_at,upd_upd] at h2
        exact h2
theorem Net.take {G:Gr} {T:Top G} (hsm:G.n < 2 ^ 30) (hdg:∀ u,T.dg u < 2 ^ 30) {nodes:Nat→Nod} {chan:Nat→Nat→List NMsg} (h:Net G T (fun _=>True) nodes chan) {v j:Nat} (hj:j < T.dg v) {m:Fr.Msg} {r:List NMsg} (hc:chan (T.nb v j) v=typed m :: r) :
    Net G T (fun _=>True) (upd nodes v ((nodes v).take j m)) (upd2 chan (T.nb v j) v r):=by
  unfold Nod.take
  have hk:∀ k,k < T.dg v→k≠j→upd2 chan (T.nb v j) v r (T.nb v k) v=chan (T.nb v k) v:=fun k hk hkj=>by
    have:T.nb v k≠T.nb v j:=fun e3=>hkj (T.inj v _ _ hk hj e3)
    simp [upd2,this]
  have hv:∀ x y,y≠v→upd2 chan (T.nb v j) v r x y=chan x y:=fun x y hy=>by simp [upd2,hy]
  have hr:upd2 chan (T.nb v j) v r (T.nb v j) v=r:=by simp [upd2]
  have hs:=same_act (nodes v) j (typed m)
  by_cases e:((nodes v).act j (typed m)).2=true
  · rw [if_pos e]
    have h0:Net G T (fun x=>x≠v) nodes chan:=⟨h.good,h.rng,h.slp,fun x _=>h.stb x trivial⟩
    have h1 := Net.step hsm hdg (chan' := upd2 chan (T.nb v j) v r) (m := typed m) (X := (nodes v).off) (Y := []) (B := r) h0 hj
      (by rw [hc]) (by rw [hr,List.append_nil]) (fun k hk1 hk2=>by rw [hk k hk1 hk2,List.append_nil]) hv (h.stb v trivial) (fun c hc=>by simpa using hc) e
    have e2:({ ((nodes v).act j (typed m)).1 with off:=(nodes v).off++[] }:Nod)=((nodes v).act j (typed m)).1:=by
      rw [List.append_nil,← hs.1]
    rw [e2] at h1
    have h2:=Net.offs hsm hdg (((nodes v).act j (typed m)).1.off.length + 1) h1 (by rw [upd_at]; omega)
    rw [upd_at,upd_upd] at h2
    exact h2
  · rw [if_neg e]
    have e':((nodes v).act j (typed m)).2=false:=by simpa using e
    obtain ⟨f1,f2⟩:=act_false e'
    rw [f1]
    have h1:=h.wake v
    obtain ⟨P,hP,hl⟩:=h1.good
    have hw:=same_wake (nodes v)
    refine ⟨⟨P,hP.off _,fun x k hk1=>?_⟩,fun x c hcm=>?_,fun x e2=>?_,fun x _=>?_⟩
    · rw [hl x k hk1]
      by_cases e2:x=v
      · subst e2
        rw [upd_at,upd_at]
        dsimp only
        rw [offFrom_app,offFrom_cons]
        by_cases e3:k=j
        · subst e3; rw [hr,hc]; simp [offFrom]
        · rw [hk k hk1 e3,if_neg (fun e4=>e3 e4.symm)]; simp [offFrom]
      · rw [upd_ne _ _ e2,upd_ne _ _ e2,hv _ _ e2]
    · by_cases e2:x=v
      · subst e2
        rw [upd_at] at hcm
        simp at hcm
        rcases hcm with hcm | hcm
        · rw [hw.1] at hcm; exact h.rng _ _ hcm
        · rw [hcm]; exact hj
      · rw [upd_ne _ _ e2] at hcm; exact h.rng _ _ hcm
    · by_cases e3:x=v
      · subst e3; rw [upd_at] at e2; exact (wake_state _ e2).elim
      · rw [upd_ne _ _ e3] at e2 ⊢; exact h.slp _ e2
    · by_cases e3:x=v
      · subst e3
        have hst:=h1.stb x trivial
        rw [upd_at] at hst
        rw [upd_at]
        intro c hcm
        rw [act_off2]
        simp at hcm
        rcases hcm with hcm | hcm
        · exact hst c hcm
        · rw [hcm]; exact f2
      · rw [upd_ne _ _ e3]; exact h.stb x trivial
theorem Net.start (G:Gr) (T:Top G) (nodes:Nat→Nod) (hn:∀ u,nodes u=Nod.new ((List.range (T.dg u)).map (fun j=>G.w u (T.nb u j)))):Net G T (fun _=>True) nodes (fun _ _=>[]):=by
  have h1:∀ u,(nodes u).off=[]:=fun u=>by rw [hn]; rfl
  refine ⟨⟨fun _ _=>[],⟨⟨fun _=>false,fun _=>0,fun _=>0,fun _=>false,fun _ _=>0,fun _=>none,fun _=>none,fun _=>1001,fun _=>none,fun _=>0,fun _=>false,fun _ _=>[]⟩,g0,h0,⟨fun u=>?_,fun u j hj=>?_,(fun u v w hm=>by cases hm)⟩,?_,fun _ e=>e,fun _ e=>e⟩,(fun v j hj=>by rw [h1]; rfl)⟩,(fun v c hc=>by rw [h1] at hc; cases hc),fun v _=>h1 v,(fun v _ c hc=>by rw [h1] at hc; cases hc)⟩
  · rw [hn]
    have hst:∀ j,j < T.dg u→(Nod.new ((List.range (T.dg u)).map (fun j=>G.w u (T.nb u j)))).edges[j]?=some (G.w u (T.nb u j),0):=fun j hj=>by
      simp [Nod.new,List.getElem?_range,hj]
    refine ⟨by simp [Nod.new],rfl,rfl,by simp [Nod.new],by simp [Nod.new],fun j hj=>?_,fun j hj=>?_,rfl,(fun j e=>by cases e),rfl,(fun j e=>by cases e),rfl,(fun j e=>by cases e),rfl,rfl,rfl,by simp [Nod.new]⟩
    · simp only [Nod.st,hst j hj]
    · simp only [Nod.wt,hst j hj]
  · rw [hn]; rfl
  · exact inv_start G (fun _=>rfl) (fun _=>rfl) (fun _ _=>rfl) (fun _=>rfl) (fun _=>rfl) (fun _=>rfl) (fun _ _=>rfl) (fun _=>Nat.le_refl _)
theorem Net.flush {G:Gr} {T:Top G} {Q:Nat→Prop} {nodes:Nat→Nod} {chan chan':Nat→Nat→List NMsg} (h:Net G T Q nodes chan) {u:Nat} (h1:∀ j,j < T.dg u→chan' u (T.nb u j)=chan u (T.nb u j)++sentTo (nodes u) j) (h2:∀ x,x≠u→chan' x=chan x) :
    Net G T Q (upd nodes u { nodes u with sent:=[] }) chan':=by
  obtain ⟨P,⟨s,g,h',hR,hI,a,b⟩,hl⟩:=h.good
  have ho:∀ v,(upd nodes u { nodes u with sent:=[] } v).off=(nodes v).off:=fun v=>by
    by_cases e:v=u
    · subst e; rw [upd_at]
    · rw [upd_ne _ _ e]
  refine ⟨⟨fun x y=>if x=u then s.q u y else P x y,⟨s,g,h',⟨fun x=>?_,fun x j hj=>?_,hR.rp⟩,hI,a,b⟩,fun v j hj=>?_⟩,fun v c hc=>?_,fun v e=>?_,fun v hv=>?_⟩
  · have h0:=hR.nr x
    by_cases e:x=u
    · subst e; rw [upd_at]
      exact ⟨h0.aw,h0.lev,h0.nam,h0.fnd,h0.len,h0.se,h0.wt,h0.inn,h0.innl,h0.best,h0.bestl,h0.tst,h0.tstl,h0.bw,h0.cnt,h0.over,h0.bw1⟩
    · rw [upd_ne _ _ e]; exact h0
  · by_cases e:x=u
    · subst e; rw [upd_at,if_pos rfl]; simp [sentTo]
    · rw [upd_ne _ _ e,if_neg e]; exact hR.q x j hj
  · rw [ho]
    dsimp only
    by_cases e:T.nb v j=u
    · rw [if_pos e,e]
      have ha:=G.sym _ _ (T.adj v j hj)
      rw [e] at ha
      obtain ⟨k,hk,rfl⟩:=T.sur u v ha
      have h3:=hl (T.nb u k) j hj
      rw [e] at h3
      rw [h1 k hk,hR.q u k hk,h3,List.append_assoc]
    · rw [if_neg e,h2 _ e]; exact hl v j hj
  · rw [ho] at hc; exact h.rng v c hc
  · rw [ho]
    refine h.slp v ?_
    by_cases e2:v=u
    · subst e2; rw [upd_at] at e; exact e
    · rw [upd_ne _ _ e2] at e; exact e
  · by_cases e:v=u
    · subst e
      rw [upd_at]
      intro c hc
      have h3:=h.stb v hv c hc
      have:∀ (n:Nod) (j:Nat) (m:NMsg),(({ n with sent:=[] }:Nod).act j m).2=(n.act j m).2:=fun n j m=>by
        have hw:(({ n with sent:=[] }:Nod).wake).level=n.wake.level∧(({ n with sent:=[] }:Nod).wake).edges=n.wake.edges∧(({ n with sent:=[] }:Nod).wake).name=n.wake.name∧(({ n with sent:=[] }:Nod).wake).tested=n.wake.tested:=by
          unfold Nod.wake
          dsimp only
          split
          · have e:({ n with level:=0,state:=2,count:=0,sent:=[] }:Nod).light=({ n with level:=0,state:=2,count:=0 }:Nod).light:=rfl
            rw [e]
            split <;> exact ⟨rfl,rfl,rfl,rfl⟩
          · exact ⟨rfl,rfl,rfl,rfl⟩
        have hst:∀ k,(({ n with sent:=[] }:Nod).wake).st k=n.wake.st k:=fun k=>by simp only [Nod.st,hw.2.1]
        cases m with
        | connect l =>
          simp only [Nod.act,Nod.connect,hw.1,hst]
          split
          · rfl
          · split <;> rfl
        | initiate l nm f=>rfl
        | test l nm =>
          simp only [Nod.act,Nod.test,hw.1,hw.2.2.1,hw.2.2.2]
          split
          · rfl
          · split
            · rfl
            · split <;> rfl
        | accept=>rfl
        | reject=>rfl
        | report w =>
          simp only [Nod.act,Nod.report]
          split
          · split
            · rfl
            · split
              · rfl
              · split <;> rfl
          · rfl
        | root=>rfl
      rw [this]; exact h3
    · rw [upd_ne _ _ e]; exact h.stb v hv
theorem Net.branch {G:Gr} {T:Top G} {Q:Nat→Prop} {nodes:Nat→Nod} {chan:Nat→Nat→List NMsg} (h:Net G T Q nodes chan) {u j:Nat} (hj:j < T.dg u) (e:(nodes u).st j=1):G.mst u (T.nb u j)∨G.mst (T.nb u j) u:=by
  obtain ⟨P,⟨s,g,h',hR,hI,a,b⟩,hl⟩:=h.good
  exact hI.st.mst _ _ (by rw [(hR.nr u).se j hj]; exact e)
theorem Net.low {G:Gr} {T:Top G} {Q:Nat→Prop} {nodes:Nat→Nod} {chan:Nat→Nat→List NMsg} (h:Net G T Q nodes chan) {u:Nat} (hu:u < G.n):2 ^ (nodes u).level≤G.n:=by
  obtain ⟨P,⟨s,g,h',hR,hI,a,b⟩,hl⟩:=h.good
  have h1:=hI.low hu
  have h2:=hI.st.l1 u
  rw [(hR.nr u).lev] at h2
  exact Nat.le_trans (Nat.pow_le_pow_right (by omega) h2) h1
theorem Net.sleeps {G:Gr} {T:Top G} {Q:Nat→Prop} {nodes:Nat→Nod} {chan:Nat→Nat→List NMsg} (h:Net G T Q nodes chan) {u:Nat} (hu:(nodes u).state=0):(nodes u).level=0∧∀ j,j < T.dg u→(nodes u).st j=0:=by
  obtain ⟨P,⟨s,g,h',hR,hI,a,b⟩,hl⟩:=h.good
  have h0:=hR.nr u
  have ha:s.aw u=false:=by
    cases e:s.aw u
    · rfl
    · exact (h0.aw.1 e hu).elim
  refine ⟨by rw [← h0.lev]; exact (hI.st.asl u ha).1,fun j hj=>?_⟩
  rw [← h0.se j hj]
  apply Classical.byContradiction
  intro e
  have:=(hI.st.sa u _ e).2
  rw [ha] at this; cases this
theorem chain_all : ∀ (I : List (Nat × Nat × Bool)) (p p' : Nat × Nat), chain p I p' → ∀ x ∈ I, p.1 < x.1
  | [],p,p',h,x,hx=>by cases hx
  | (l,n,f) :: t,p,p',h,x,hx=>by
    simp only [chain] at h
    rcases List.mem_cons.1 hx with rfl | hx
    · exact h.1
    · have:=chain_all t (l,n) p' h.2 x hx
      have:=h.1
      dsimp only at *
      omega
theorem Inv.ini_up {G:Gr} {s:St} {g:Gh} {h:Gs} (hI:Inv G s g h) {x y l n:Nat} {f:Bool} (hm:initiate l n f ∈ kS s.q x y):s.lev y < l:=by
  have h1:=(hI.st.i1 _ _ _ _ _ hm).1
  have h2:=(mem_inits _).2 hm
  by_cases e:g.par x=some y
  · have h3:=(hI.st.co x y ⟨e,h1⟩).2.2
    rcases h3 with h3 | h3 | h3
    · rw [h3.2.1] at h2; cases h2
    · rw [h3.2.1] at h2
      simp at h2
      omega
    · rw [h3.2.1] at h2; cases h2
  · exact chain_all _ _ _ (hI.st.ch x y ⟨h1,e⟩).2 _ h2
theorem lev_reports (n:Nod):n.reports.level=n.level:=by
  unfold Nod.reports; split
  · split <;> rfl
  · rfl
theorem lev_tests (n:Nod):n.tests.level=n.level:=by
  unfold Nod.tests; split
  · rw [lev_reports]
  · rfl
theorem lev_spread (n:Nod) (j l nm:Nat) (f:Bool):(n.spread j l nm f).level=n.level:=by
  unfold Nod.spread; split <;> rfl
theorem lev_spreads (fr l nm : Nat) (f : Bool) : ∀ (k j : Nat) (n : Nod), (n.spreads fr l nm f k j).level = n.level
  | 0,j,n=>rfl
  | k + 1,j,n=>by
    unfold Nod.spreads
    rw [lev_spreads fr l nm f k (j + 1)]
    split
    · exact lev_spread _ _ _ _ _
    · rfl
theorem lev_reject (n:Nod) (j:Nat):(n.reject j).level=n.level:=by
  unfold Nod.reject; split <;> rfl
theorem lev_hear (n:Nod) (j w:Nat):(n.hear j w).level=n.level:=by
  unfold Nod.hear; split <;> rfl
theorem lev_root (n:Nod):n.changeRoot.level=n.level:=by
  unfold Nod.changeRoot; split
  · rfl
  · split <;> rfl
theorem lev_wake {n:Nod} (h:n.state=0→n.level=0):n.wake.level=n.level:=by
  unfold Nod.wake
  split
  · rename_i e
    rw [h e]
    split <;> rfl
  · rfl
theorem act_lev {G:Gr} {T:Top G} {nodes:Nat→Nod} {P:Nat→Nat→List NMsg} (hG:Good G T nodes P) {v j:Nat} {m:NMsg} (hj:j < T.dg v) {A B:List NMsg} (hP:P (T.nb v j) v=A++m :: B):(nodes v).level≤((nodes v).act j m).1.level:=by
  obtain ⟨s,g,h,hR,hI,htk,htg⟩:=hG
  have ha:=T.adj v j hj
  obtain ⟨C,hq,hR1⟩:=hR.out (G.sym _ _ ha) hP
  have h0:=hR.nr v
  have hw:(nodes v).wake.level=(nodes v).level:=lev_wake fun e=>by
    have ha:s.aw v=false:=by
      cases e2:s.aw v
      · rfl
      · exact (h0.aw.1 e2 e).elim
    rw [← h0.lev]; exact (hI.st.asl v ha).1
  apply Nat.le_of_lt_succ
  cases m with
  | connect l =>
    simp only [Nod.act,Nod.connect]
    split
    · rw [lev_spread]; show _ < (nodes v).wake.level + 1; omega
    · split
      · show _ < (nodes v).wake.level + 1; omega
      · show _ < (nodes v).wake.level + 1; omega
  | initiate l nm f =>
    have h1:=hI.ini_up (x:=T.nb v j) (y:=v) (l:=l) (n:=nm) (f:=f) (by simp only [kS,hq]; simp [isIni])
    rw [h0.lev] at h1
    have:((nodes v).initiate j l nm f).level=l:=by
      unfold Nod.initiate
      cases f
      · exact lev_spreads _ _ _ _ _ _ _
      · show (Nod.tests _).level=l
        rw [lev_tests]; exact lev_spreads _ _ _ _ _ _ _
    show _ < ((nodes v).initiate j l nm f).level + 1
    omega
  | test l nm =>
    simp only [Nod.act,Nod.test]
    split
    · show _ < (nodes v).wake.level + 1; omega
    · split
      · show _ < (nodes v).wake.level + 1; omega
      · split
        · show _ < (Nod.tests _).level + 1; rw [lev_tests,lev_reject]; omega
        · show _ < (Nod.reject _ _).level + 1; rw [lev_reject]; omega
  | accept=>show _ < ((nodes v).accept j).level + 1; unfold Nod.accept; rw [lev_reports,lev_hear]; exact Nat.lt_succ_self _
  | reject=>show _ < (Nod.tests _).level + 1; rw [lev_tests,lev_reject]; exact Nat.lt_succ_self _
  | report w =>
    simp only [Nod.act,Nod.report]
    split
    · split
      · exact Nat.lt_succ_self _
      · split
        · rw [lev_root]; exact Nat.lt_succ_self _
        · split <;> exact Nat.lt_succ_self _
    · show _ < (Nod.reports _).level + 1; rw [lev_reports,lev_hear]; exact Nat.lt_succ_self _
  | root=>show _ < (Nod.changeRoot _).level + 1; rw [lev_root]; exact Nat.lt_succ_self _
theorem Net.act_lev {G:Gr} {T:Top G} {Q:Nat→Prop} {nodes:Nat→Nod} {chan:Nat→Nat→List NMsg} (h:Net G T Q nodes chan) {v j:Nat} {m:NMsg} (hj:j < T.dg v) {A B:List NMsg} (hP:offFrom (nodes v).off j++chan (T.nb v j) v=A++m :: B):(nodes v).level≤((nodes v).act j m).1.level:=by
  obtain ⟨P,hP',hl⟩:=h.good
  exact Ghs.act_lev hP' hj (by rw [hl v j hj,hP])
theorem Net.offs_lev {G : Gr} {T : Top G} (hsm : G.n < 2 ^ 30) (hdg : ∀ u, T.dg u < 2 ^ 30) {v : Nat} : ∀ (f : Nat) {nodes : Nat → Nod} {chan : Nat → Nat → List NMsg}, Net G T (fun x => x ≠ v) nodes chan → (nodes v).level ≤ ((nodes v).offs f).level
  | 0,nodes,chan,h=>Nat.le_refl _
  | f + 1,nodes,chan,h=>by
    rw [Nod.offs]
    by_cases e0:(nodes v).state=0
    · have e1:=h.slp v e0
      have e2:(nodes v).oneOff (nodes v).off.length 0=(nodes v,false):=by rw [e1]; rfl
      rw [e2]
      exact Nat.le_refl _
    · rcases oneOff_spec e0 (nodes v).off.length 0 (by omega) (fun i hi=>by omega) with ⟨e1,e2⟩ | ⟨X,c,Y,e1,e2,e3,e4⟩
      · rw [e1]; exact Nat.le_refl _
      · rw [e4]
        simp only [if_true]
        have hc:c.1 < T.dg v:=h.rng v c (by rw [e1]; simp)
        have hb:offFrom (nodes v).off c.1++chan (T.nb v c.1) v=offFrom X c.1++c.2 :: (offFrom Y c.1++chan (T.nb v c.1) v):=by rw [e1,offFrom_app,offFrom_cons]; simp
        have h1 := Net.step hsm hdg (chan' := chan) (m := c.2) (X := X) (Y := Y) (B := offFrom Y c.1 ++ chan (T.nb v c.1) v) h hc
          hb (by rw [offFrom_app]; simp) (fun k hk hkc=>by rw [e1,offFrom_app,offFrom_app,offFrom_cons,if_neg (fun e=>hkc e.symm)]; simp) (fun _ _ _=>rfl) e2 (fun d hd=>by rw [e1]; simp at hd ⊢; rcases hd with hd | hd <;> simp [hd]) e3
        have h2:=Net.offs_lev hsm hdg f h1
        rw [upd_at] at h2
        exact Nat.le_trans (h.act_lev hc hb) h2
theorem Net.take_lev {G:Gr} {T:Top G} (hsm:G.n < 2 ^ 30) (hdg:∀ u,T.dg u < 2 ^ 30) {nodes:Nat→Nod} {chan:Nat→Nat→List NMsg} (h:Net G T (fun _=>True) nodes chan) {v j:Nat} (hj:j < T.dg v) {m:Fr.Msg} {r:List NMsg} (hc:chan (T.nb v j) v=typed m :: r) :
    (nodes v).level≤((nodes v).take j m).level:=by
  have h9:=h.act_lev hj (m:=typed m) (A:=offFrom (nodes v).off j) (B:=r) (by rw [hc])
  unfold Nod.take
  have hk:∀ k,k < T.dg v→k≠j→upd2 chan (T.nb v j) v r (T.nb v k) v=chan (T.nb v k) v:=fun k hk hkj=>by
    have:T.nb v k≠T.nb v j:=fun e3=>hkj (T.inj v _ _ hk hj e3)
    simp [upd2,this]
  have hv:∀ x y,y≠v→upd2 chan (T.nb v j) v r x y=chan x y:=fun x y hy=>by simp [upd2,hy]
  have hr:upd2 chan (T.nb v j) v r (T.nb v j) v=r:=by simp [upd2]
  have hs:=same_act (nodes v) j (typed m)
  by_cases e:((nodes v).act j (typed m)).2=true
  · rw [if_pos e]
    have h0:Net G T (fun x=>x≠v) nodes chan:=⟨h.good,h.rng,h.slp,fun x _=>h.stb x trivial⟩
    have h1 := Net.step hsm hdg (chan' := upd2 chan (T.nb v j) v r) (m := typed m) (X := (nodes v).off) (Y := []) (B := r) h0 hj
      (by rw [hc]) (by rw [hr,List.append_nil]) (fun k hk1 hk2=>by rw [hk k hk1 hk2,List.append_nil]) hv (h.stb v trivial) (fun c hc=>by simpa using hc) e
    have e2:({ ((nodes v).act j (typed m)).1 with off:=(nodes v).off++[] }:Nod)=((nodes v).act j (typed m)).1:=by
      rw [List.append_nil,← hs.1]
    rw [e2] at h1
    have h2:=Net.offs_lev hsm hdg (((nodes v).act j (typed m)).1.off.length + 1) h1
    rw [upd_at] at h2
    exact Nat.le_trans h9 h2
  · rw [if_neg e]; exact h9
theorem Inv.whole {G:Gr} {s:St} {g:Gh} {h:Gs} (hI:Inv G s g h) {u:Nat} (hall:∀ z,z < G.n→g.fr u z) (hu:u < G.n) :
    ∃ c,c < G.n∧∃ p:Nat→Nat,(∀ z,z < G.n→z≠c→p z < G.n∧G.adj z (p z)∧s.se z (p z)=1∧s.se (p z) z=1)∧∀ z z',z < G.n→z' < G.n→z≠c→z'≠c→¬ (p z=z'∧p z'=z):=by
  have hp:∀ z q,g.par z=some q→q < G.n∧G.adj z q∧s.se z q=1∧s.se q z=1:=fun z q e=>by
    have h1:=hI.st.pr z q e
    have h2:=(hI.st.sa z q (by have:=h1.1; omega)).1
    exact ⟨G.lt _ _ (G.sym _ _ h2),h2,h1.1,h1.2⟩
  by_cases hr:∃ r,r < G.n∧g.par r=none
  · obtain ⟨r,r1,r2⟩:=hr
    refine ⟨r,r1,fun z=>(g.par z).getD 0,fun z z1 z2=>?_,fun z z' z1 z2 z3 z4 z5=>?_⟩
    · cases e:g.par z with
      | none=>exact (z2 (hI.st.rt z r e r2 (hI.st.f3 _ _ _ (hI.st.f2 _ _ (hall z z1)) (hall r r1)))).elim
      | some q=>simpa [e] using hp z q e
    · dsimp only at z5
      have e1:g.par z=some z':=by
        cases e:g.par z with
        | none=>exact (z3 (hI.st.rt z r e r2 (hI.st.f3 _ _ _ (hI.st.f2 _ _ (hall z z1)) (hall r r1)))).elim
        | some q=>rw [e] at z5; simp at z5; rw [z5.1]
      have e2:g.par z'=some z:=by
        cases e:g.par z' with
        | none=>exact (z4 (hI.st.rt z' r e r2 (hI.st.f3 _ _ _ (hI.st.f2 _ _ (hall z' z2)) (hall r r1)))).elim
        | some q=>rw [e] at z5; simp at z5; rw [z5.2]
      have h1:=(hI.st.co z z' ⟨e1,e2⟩).1
      have h2:=hI.st.f4 z r (hI.st.f3 _ _ _ (hI.st.f2 _ _ (hall z z1)) (hall r r1))
      exact (hI.st.p0 r (by omega)).2 r2
  · have hsome:∀ z,z < G.n→∃ q,g.par z=some q:=fun z hz=>by
      cases e:g.par z with
      | none=>exact (hr ⟨z,hz,e⟩).elim
      | some q=>exact ⟨q,rfl⟩
    have hcore:∀ d z,g.dep z < d→z < G.n→∃ a b,core g a b∧a < G.n:=by
      intro d
      induction d with
      | zero=>intro z h1; omega
      | succ d ih =>
        intro z h1 h2
        obtain ⟨q,e⟩:=hsome z h2
        by_cases e2:g.par q=some z
        · exact ⟨z,q,⟨e,e2⟩,h2⟩
        · have:=hI.st.dp q z ⟨e,e2⟩
          exact ih q (by omega) (hp z q e).1
    obtain ⟨a,b,hc,ha⟩:=hcore (g.dep u + 1) u (by omega) hu
    refine ⟨a,ha,fun z=>(g.par z).getD 0,fun z z1 z2=>?_,fun z z' z1 z2 z3 z4 z5=>?_⟩
    · obtain ⟨q,e⟩:=hsome z z1
      simpa [e] using hp z q e
    · obtain ⟨q,e⟩:=hsome z z1
      obtain ⟨q',e'⟩:=hsome z' z2
      simp [e,e'] at z5
      have h1:=hI.st.cu z z' a b ⟨by rw [e,z5.1],by rw [e',z5.2]⟩ hc (hI.st.f3 _ _ _ (hI.st.f2 _ _ (hall z z1)) (hall a ha))
      rcases h1 with h1 | h1
      · exact z3 h1.1
      · exact z4 h1.2
theorem Net.over {G:Gr} {T:Top G} {Q:Nat→Prop} {nodes:Nat→Nod} {chan:Nat→Nat→List NMsg} (h:Net G T Q nodes chan) {u:Nat} (ho:(nodes u).over=true) (hu:u < G.n) (hconn:∀ S:Nat→Prop,S u→(∀ z v,S z→G.adj z v→S v)→∀ z,z < G.n→S z) :
    ∃ c,c < G.n∧∃ p:Nat→Nat,(∀ z,z < G.n→z≠c→∃ j,j < T.dg z∧T.nb z j=p z∧(nodes z).st j=1)∧∀ z z',z < G.n→z' < G.n→z≠c→z'≠c→¬ (p z=z'∧p z'=z):=by
  obtain ⟨P,⟨s,g,h',hR,hI,a,b⟩,hl⟩:=h.good
  have hov:=hI.bs.ov u (by rw [(hR.nr u).over]; exact ho)
  have hall:=hconn (g.fr u) (hI.st.f1 u) (fun z v hz hv=>hI.st.f3 _ _ _ hz (hov z v hz hv))
  obtain ⟨c,c1,p,p1,p2⟩:=hI.whole hall hu
  refine ⟨c,c1,p,fun z z1 z2=>?_,p2⟩
  obtain ⟨q1,q2,q3,q4⟩:=p1 z z1 z2
  obtain ⟨j,hj,e⟩:=T.sur z (p z) q2
  exact ⟨j,hj,e,by rw [← (hR.nr z).se j hj,e]; exact q3⟩
end Go.Proofs.YtlfijfodklhplaaGreat.Ghs
