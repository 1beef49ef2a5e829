import Derived.Test.YtlfijfodklhplaaGreatSf49
import Derived.Test.YtlfijfodklhplaaGreatSf35
set_option linter.unusedVariables false
set_option linter.unusedSimpArgs false
namespace Go.Proofs.YtlfijfodklhplaaGreat.Ghs
open Go.RowKit
open NMsg
theorem act_frs (n:Nod) (j:Nat) (m:NMsg) (hj:j < n.edges.length) (hm:m.may):(n.act j m).1.edges.length=n.edges.length∧(n.act j m).1.sent.length≤n.sent.length + (n.edges.length + 2)∧(NGood n→NGood (n.act j m).1):=by
  have hf:=fr_act n j m hj hm
  exact ⟨hf.len,hf.sent,fun h=>h.fr hf⟩
theorem mok_may {m:Fr.Msg} (h:MOk m):(typed m).may:=by
  have h1:=of_decide_eq_true h.2.2.2
  have h2:bL (m.kind:Int)≤9:=by unfold bL; split <;> omega
  unfold typed
  split <;> first | trivial | (show m.level≤10; omega)
theorem fit_plain (x:NMsg) (h:fit x):MOk x.plain:=by
  cases x with
  | connect l =>
    have h:l≤9:=h
    refine ⟨by show 1 < 256; omega,by show l < 256; omega,by show 0 < 65536; omega,decide_eq_true ?_⟩
    simp [NMsg.plain,bL,bm,bM]; omega
  | initiate l n f =>
    have h:l≤9∧1≤n∧n≤1000:=h
    refine ⟨by show 2 < 256; omega,by show l < 256; omega,by show n < 65536; omega,decide_eq_true ?_⟩
    simp [NMsg.plain,bL,bm,bM]; omega
  | test l n =>
    have h:l≤9∧n≤1000:=h
    refine ⟨by show 3 < 256; omega,by show l < 256; omega,by show n < 65536; omega,decide_eq_true ?_⟩
    simp [NMsg.plain,bL,bm,bM]; omega
  | accept =>
    refine ⟨by show 4 < 256; omega,by show 0 < 256; omega,by show 0 < 65536; omega,decide_eq_true ?_⟩
    simp [NMsg.plain,bL,bm,bM]
  | reject =>
    refine ⟨by show 5 < 256; omega,by show 0 < 256; omega,by show 0 < 65536; omega,decide_eq_true ?_⟩
    simp [NMsg.plain,bL,bm,bM]
  | report w =>
    have h:1≤w∧w≤1001:=h
    have hw:(if w=1001 then 0 else w)≤1000:=by split <;> omega
    generalize hz:(if w=1001 then 0 else w)=z at hw
    have e:(NMsg.report w).plain=⟨6,0,z,false⟩:=by rw [← hz]; rfl
    rw [e]
    refine ⟨by show 6 < 256; omega,by show 0 < 256; omega,by show z < 65536; omega,decide_eq_true ?_⟩
    simp [bL,bm,bM]; omega
  | root =>
    refine ⟨by show 7 < 256; omega,by show 0 < 256; omega,by show 0 < 65536; omega,decide_eq_true ?_⟩
    simp [NMsg.plain,bL,bm,bM]
theorem mok_fit {m:Fr.Msg} (h:m=(typed m).plain) (hf:fit (typed m)):MOk m:=by
  rw [h]; exact fit_plain _ hf
theorem frok_data {s:Nat} {m:Fr.Msg} (h:s < 65536) (hm:MOk m):FrOk ⟨true,s,m⟩:=⟨h,Or.inl ⟨rfl,hm⟩⟩
theorem frok_ans {s:Nat} (h:s < 65536):FrOk ⟨false,s,Fr.none0⟩:=⟨h,Or.inr ⟨rfl,rfl⟩⟩
theorem six_inj {f g:Fr.Frm} (h:six f=six g):f=g:=by
  obtain ⟨d,s,⟨k,l,n,b⟩⟩:=f
  obtain ⟨d',s',⟨k',l',n',b'⟩⟩:=g
  simp only [six,Six.mk.injEq,Int.natCast_inj] at h
  obtain ⟨h1,h2,h3,h4,h5,h6⟩:=h
  subst h1 h2 h3 h4 h5 h6
  rfl
theorem frmOf_enc {f:Fr.Frm} (h:FrOk f):frmOf (Fr.enc f)=some f:=by
  have h1:=frmOf_is (enc_byte f h)
  cases e:frmOf (Fr.enc f) with
  | none=>rw [e] at h1; exact absurd (enc_read f h) (h1 _)
  | some g =>
    rw [e] at h1
    obtain ⟨g1,g2⟩:=h1
    have e1:=enc_read g g1
    rw [g2] at e1
    rw [six_inj (read_six e1 (enc_read f h))]
theorem frmOf_spoilt {f:Fr.Frm} (h:FrOk f) {k y:Nat} (hk:k < (Fr.enc f).length) (hy:y≠0) (hy2:y < 256):frmOf ((Fr.enc f).modify k (fun v=>v ^^^ y))=none:=by
  obtain ⟨v,hv⟩:∃ v,(Fr.enc f)[k]?=some v:=⟨_,List.getElem?_eq_getElem hk⟩
  have hv2:v < 256:=enc_byte f h v (List.mem_of_getElem? hv)
  have hx:v ^^^ y < 256:=Nat.xor_lt_two_pow (n:=8) hv2 hy2
  have hne:v ^^^ y≠v:=fun e=>by
    have:v ^^^ (v ^^^ y)=v ^^^ v:=by rw [e]
    rw [← Nat.xor_assoc,Nat.xor_self,Nat.zero_xor] at this
    exact hy this
  rw [modify_set hv]
  have hs:=enc_seen f h k (v ^^^ y) (by rw [← enc_len]; exact hk) hx (by rw [hv]; intro e; exact hne (Option.some.inj e).symm)
  have hb:∀ x ∈ (Fr.enc f).set k (v ^^^ y),x < 256:=fun x hx2=>by
    rcases List.mem_or_eq_of_mem_set hx2 with c | c
    · exact enc_byte f h x c
    · rw [c]; exact hx
  have h1:=frmOf_is hb
  cases e:frmOf ((Fr.enc f).set k (v ^^^ y)) with
  | none=>rfl
  | some g =>
    rw [e] at h1
    obtain ⟨g1,g2⟩:=h1
    have:=enc_read g g1
    rw [g2] at this
    exact absurd this (hs _)
def mu (n:Nod):Nat:=n.sent.length + 32 * n.off.length + (if n.state=0 then 1 else 0)
theorem mu_wake (n:Nod):mu n.wake≤mu n:=by
  by_cases e:n.state=0
  · unfold Nod.wake
    rw [if_pos e]
    split
    · unfold mu; simp [e]
    · unfold mu; simp [e,Nod.send,Nod.setSt]; omega
  · rw [wake_of e]; exact Nat.le_refl _
theorem mu_false {n:Nod} {j:Nat} {m:NMsg} (h:(n.act j m).2=false):mu (n.act j m).1≤mu n:=by
  rw [(act_false h).1]; exact mu_wake n
theorem mu_act {n:Nod} {j:Nat} {m:NMsg} (hj:j < n.edges.length) (hm:m.may) (hl:n.edges.length≤30):mu (n.act j m).1≤mu n + 32:=by
  have h1:=(act_frs n j m hj hm).2.1
  have h2:=same_act n j m
  unfold mu
  rw [h2.1]
  have h3:=h2.2
  split
  · split
    · omega
    · rename_i a b; exact (h3 b a).elim
  · split <;> omega
theorem mu_oneOff : ∀ (f k : Nat) (n : Nod), NGood n → n.edges.length ≤ 30 → mu (n.oneOff f k).1 ≤ mu n ∧ NGood (n.oneOff f k).1 ∧ (n.oneOff f k).1.edges.length ≤ 30
  | 0,k,n,h,hl=>⟨Nat.le_refl _,h,hl⟩
  | f + 1,k,n,h,hl=>by
    rw [Nod.oneOff]
    split
    · exact ⟨Nat.le_refl _,h,hl⟩
    · rename_i c hc
      have hm:=h.off c (List.mem_of_getElem? hc)
      have hfr:=act_frs n c.1 c.2 hm.1 hm.2
      have hk:=(List.getElem?_eq_some_iff.1 hc).1
      split
      · have h1:=mu_act hm.1 hm.2 hl
        have h2:=(same_act n c.1 c.2).1
        refine ⟨?_,(hfr.2.2 h).erase k,?_⟩
        · unfold mu at h1 ⊢
          dsimp only
          rw [List.length_eraseIdx,h2,if_pos hk]
          rw [h2] at h1
          omega
        · show (n.act c.1 c.2).1.edges.length≤30
          rw [hfr.1]; exact hl
      · rename_i e
        have h1:=mu_oneOff f (k + 1) (n.act c.1 c.2).1 (hfr.2.2 h) (by rw [hfr.1]; exact hl)
        exact ⟨Nat.le_trans h1.1 (mu_false (by simpa using e)),h1.2⟩
theorem mu_offs : ∀ (f : Nat) (n : Nod), NGood n → n.edges.length ≤ 30 → mu (n.offs f) ≤ mu n
  | 0,n,h,hl=>Nat.le_refl _
  | f + 1,n,h,hl=>by
    rw [Nod.offs]
    have h1:=mu_oneOff n.off.length 0 n h hl
    split
    · exact Nat.le_trans (mu_offs f _ h1.2.1 h1.2.2) h1.1
    · exact h1.1
theorem mu_take {n:Nod} (h:NGood n) (hl:n.edges.length≤30) {j:Nat} (hj:j < n.edges.length) {m:Fr.Msg} (hm:(typed m).may):mu (n.take j m)≤mu n + 32:=by
  have hfr:=act_frs n j (typed m) hj hm
  unfold Nod.take
  split
  · exact Nat.le_trans (mu_offs _ _ (hfr.2.2 h) (by rw [hfr.1]; exact hl)) (mu_act hj hm hl)
  · rename_i e
    have h1:=mu_false (n:=n) (j:=j) (m:=typed m) (by simpa using e)
    unfold mu at h1 ⊢
    simp only [List.length_append,List.length_cons,List.length_nil]
    omega
noncomputable def lsOf (A:AN):LS:=⟨fun u=>match A.sps[u]? with | some s=>s.n | none=>Nod.new [],fun u j=>match A.side u j with | some d=>d.2 | none=>En.new,A.bag.map (fun x=>(x.f,x.t,frmOf x.l))⟩
theorem nodes_at {A:AN} {u:Nat} {s:AS} (h:A.sps[u]?=some s):(lsOf A).nodes u=s.n:=by simp [lsOf,h]
theorem en_at {A:AN} {u j:Nat} {d:Nat × En} (h:A.side u j=some d):(lsOf A).en u j=d.2:=by simp [lsOf,h]
theorem sps_modE (A:AN) (u j:Nat) (f:En→En) (x:Nat):(A.modE u j f).sps[x]?=(A.sps[x]?).map (fun s=>if u=x then { s with ss:=s.ss.modify j (fun d=>(d.1,f d.2)) } else s):=by
  unfold AN.modE
  rw [List.getElem?_modify]
  cases A.sps[x]? <;> simp
theorem sps_modN (A:AN) (u:Nat) (f:Nod→Nod) (x:Nat):(A.modN u f).sps[x]?=(A.sps[x]?).map (fun s=>if u=x then { s with n:=f s.n } else s):=by
  unfold AN.modN
  rw [List.getElem?_modify]
  cases A.sps[x]? <;> simp
theorem side_at (A:AN) (x y:Nat):A.side x y=(A.sps[x]?).bind (fun s=>s.ss[y]?):=rfl
theorem sides_modE (A:AN) (u j:Nat) (f:En→En) (x y:Nat):(A.modE u j f).side x y=(A.side x y).map (fun d=>if u=x∧j=y then (d.1,f d.2) else d):=by
  rw [side_at,side_at,sps_modE]
  cases hs:A.sps[x]? with
  | none=>simp
  | some s =>
    simp only [Option.map_some,Option.bind_some]
    by_cases e:u=x
    · rw [if_pos e]
      dsimp only
      rw [List.getElem?_modify]
      cases s.ss[y]? with
      | none=>simp
      | some d=>by_cases e2:j=y <;> simp [e,e2]
    · rw [if_neg e]
      cases s.ss[y]? <;> simp [e]
theorem sides_modN (A:AN) (u:Nat) (f:Nod→Nod) (x y:Nat):(A.modN u f).side x y=A.side x y:=by
  rw [side_at,side_at,sps_modN]
  cases hs:A.sps[x]? with
  | none=>simp
  | some s =>
    simp only [Option.map_some,Option.bind_some]
    split <;> rfl
theorem ls_modE {A:AN} {u j:Nat} {d:Nat × En} (hd:A.side u j=some d) (f:En→En):lsOf (A.modE u j f)=⟨(lsOf A).nodes,upd2 (lsOf A).en u j (f d.2),(lsOf A).bag⟩:=by
  unfold lsOf
  simp only [LS.mk.injEq]
  refine ⟨?_,?_,rfl⟩
  · funext x
    rw [sps_modE]
    cases A.sps[x]? with
    | none=>rfl
    | some s=>simp only [Option.map_some]; split <;> rfl
  · funext x y
    rw [sides_modE]
    simp only [upd2]
    by_cases e:x=u∧y=j
    · obtain ⟨rfl,rfl⟩:=e
      rw [hd]; simp
    · rw [if_neg e]
      have e2:¬ (u=x∧j=y):=fun c=>e ⟨c.1.symm,c.2.symm⟩
      cases A.side x y <;> simp [e2]
theorem ls_modN {A:AN} {u:Nat} {s:AS} (hs:A.sps[u]?=some s) (f:Nod→Nod):lsOf (A.modN u f)=⟨upd (lsOf A).nodes u (f s.n),(lsOf A).en,(lsOf A).bag⟩:=by
  unfold lsOf
  simp only [LS.mk.injEq]
  refine ⟨?_,?_,rfl⟩
  · funext x
    rw [sps_modN]
    simp only [upd]
    by_cases e:x=u
    · subst e; rw [hs]; simp
    · rw [if_neg e]
      have e2:¬ (u=x):=fun c=>e c.symm
      cases A.sps[x]? <;> simp [e2]
  · funext x y
    rw [sides_modN]
structure Sf {G : Gr} (T : Top G) (A : AN) : Prop where
  shp:∀ u j,(A.side u j).map Prod.fst=if j < T.dg u then some (T.nb u j) else none
  bg:∀ x ∈ A.bag,(x.sp=false→∃ f,FrOk f∧x.l=Fr.enc f)∧(x.sp=true→frmOf x.l=none)∧G.adj x.t x.f
  kept:∀ u j d,A.side u j=some d→KOk d.2
  wait:∀ u j d,A.side u j=some d→∀ m ∈ d.2.wait,MOk m
  out:∀ u j d,A.side u j=some d→d.2.out=[]
  well:∀ (u:Nat) (s:AS),A.sps[u]?=some s→NWell s.n
def Bd (A:AN) (r:Nat→Nat) (C:Nat):Prop:=∀ (u j:Nat) (s:AS) (d:Nat × En),A.sps[u]?=some s→A.side u j=some d→d.2.first + d.2.wait.length + mu s.n + r u≤C
def Qt (A:AN):Prop:=∀ (u:Nat) (s:AS),A.sps[u]?=some s→s.n.sent=[]
theorem Sf.at {G:Gr} {T:Top G} {A:AN} (h:Sf T A) {u j:Nat} (hj:j < T.dg u):∃ d s,A.side u j=some d∧d.1=T.nb u j∧A.sps[u]?=some s:=by
  have h1:=h.shp u j
  rw [if_pos hj] at h1
  obtain ⟨d,hd,e⟩:=Option.map_eq_some_iff.1 h1
  obtain ⟨s,hs,_⟩:=side_get hd
  exact ⟨d,s,hd,e,hs⟩
theorem Sf.lt {G:Gr} {T:Top G} {A:AN} (h:Sf T A) {u j:Nat} {d:Nat × En} (hd:A.side u j=some d):j < T.dg u∧d.1=T.nb u j:=by
  have h1:=h.shp u j
  rw [hd] at h1
  simp only [Option.map_some] at h1
  split at h1
  · rename_i e; exact ⟨e,by simpa using h1⟩
  · cases h1
theorem adds_sps (i t : Nat) : ∀ (l : List Fr.Frm) (A : AN), (A.adds i t l).sps = A.sps ∧ (A.adds i t l).es = A.es
  | [],A=>⟨rfl,rfl⟩
  | f :: r,A=>by
    have h1:=adds_sps i t r (A.add ⟨i,t,Fr.enc f,false⟩)
    have h2:=add_sps A ⟨i,t,Fr.enc f,false⟩
    exact ⟨h1.1.trans h2.1,h1.2.trans h2.2⟩
theorem adds_mem (i t : Nat) : ∀ (l : List Fr.Frm) (A : AN) (x : AP), x ∈ (A.adds i t l).bag → x ∈ A.bag ∨ ∃ f ∈ l, x = ⟨i, t, Fr.enc f, false⟩
  | [],A,x,h=>Or.inl h
  | f :: r,A,x,h=>by
    rcases adds_mem i t r (A.add ⟨i,t,Fr.enc f,false⟩) x h with h1 | ⟨g,h1,h2⟩
    · rcases mem_add h1 with h2 | h2
      · exact Or.inl h2
      · exact Or.inr ⟨f,by simp,h2⟩
    · exact Or.inr ⟨g,by simp [h1],h2⟩
theorem ls_adds {i t:Nat} {l:List Fr.Frm} {A:AN} (hl:∀ f ∈ l,FrOk f):lsOf (A.adds i t l)=⟨(lsOf A).nodes,(lsOf A).en,(lsOf (A.adds i t l)).bag⟩∧∀ x y f,(x,y,some f) ∈ (lsOf (A.adds i t l)).bag→(x,y,some f) ∈ (lsOf A).bag∨(x=i∧y=t∧f ∈ l):=by
  have h1:=(adds_sps i t l A).1
  constructor
  · unfold lsOf
    simp only [LS.mk.injEq,and_true]
    refine ⟨?_,?_⟩
    · funext x; rw [h1]
    · funext x y; rw [side_at,side_at,h1]
  · intro x y f hm
    obtain ⟨p,hp,e⟩:=List.mem_map.1 hm
    rcases adds_mem i t l A p hp with h2 | ⟨g,h2,rfl⟩
    · exact Or.inl (List.mem_map.2 ⟨p,h2,e⟩)
    · simp only [Prod.mk.injEq] at e
      rw [frmOf_enc (hl g h2)] at e
      obtain ⟨e1,e2,e3⟩:=e
      cases e3
      exact Or.inr ⟨e1.symm,e2.symm,h2⟩
theorem carry_ls {G:Gr} {T:Top G} {A:AN} (hS:Sf T A) {u j:Nat} {d:Nat × En} (hd:A.side u j=some d) (f:En→En) (ho:∀ g ∈ (f d.2).out,FrOk g) (hk:KOk (f d.2)) (hw:∀ m ∈ (f d.2).wait,MOk m) :
    ∃ bag',lsOf ((A.modE u j f).carry u j)=⟨(lsOf A).nodes,upd2 (lsOf A).en u j (f d.2).outs,bag'⟩∧(∀ x y g,(x,y,some g) ∈ bag'→(x,y,some g) ∈ (lsOf A).bag∨(x=u∧y=T.nb u j∧g ∈ (f d.2).out))∧Sf T ((A.modE u j f).carry u j) ∧
      (∀ (r r':Nat→Nat) (C:Nat),Bd A r C→(f d.2).first + (f d.2).wait.length + r' u≤d.2.first + d.2.wait.length + r u→(∀ x,r' x≤r x)→Bd ((A.modE u j f).carry u j) r' C)∧((A.modE u j f).carry u j).sps.map AS.n=A.sps.map AS.n∧((A.modE u j f).carry u j).es=A.es:=by
  obtain ⟨hj,hd1⟩:=hS.lt hd
  rw [carry_eq hd f,hd1]
  have hsp:=(adds_sps u (T.nb u j) (f d.2).out (A.modE u j (fun e=>(f e).outs))).1
  have hes:=(adds_sps u (T.nb u j) (f d.2).out (A.modE u j (fun e=>(f e).outs))).2
  have hside:∀ x y,((A.modE u j (fun e=>(f e).outs)).adds u (T.nb u j) (f d.2).out).side x y=(A.side x y).map (fun d=>if u=x∧j=y then (d.1,(f d.2).outs) else d):=fun x y=>by
    rw [side_at,hsp,← side_at,sides_modE]
  have hsps:∀ x,((A.modE u j (fun e=>(f e).outs)).adds u (T.nb u j) (f d.2).out).sps[x]?=(A.sps[x]?).map (fun s=>if u=x then { s with ss:=s.ss.modify j (fun d=>(d.1,(f d.2).outs)) } else s):=fun x=>by
    rw [hsp,sps_modE]
  have hget:∀ x y e,((A.modE u j (fun e=>(f e).outs)).adds u (T.nb u j) (f d.2).out).side x y=some e→(u=x∧j=y∧e=(d.1,(f d.2).outs))∨(¬ (u=x∧j=y)∧A.side x y=some e):=fun x y e he=>by
    rw [hside] at he
    obtain ⟨d',h1,h2⟩:=Option.map_eq_some_iff.1 he
    by_cases c:u=x∧j=y
    · rw [if_pos c] at h2
      rw [← c.1,← c.2,hd] at h1
      cases h1
      exact Or.inl ⟨c.1,c.2,h2.symm⟩
    · rw [if_neg c] at h2
      exact Or.inr ⟨c,by rw [h1,h2]⟩
  have hgn:∀ (x:Nat) (s:AS),((A.modE u j (fun e=>(f e).outs)).adds u (T.nb u j) (f d.2).out).sps[x]?=some s→∃ s0:AS,A.sps[x]?=some s0∧s.n=s0.n:=fun x s hs=>by
    rw [hsps] at hs
    obtain ⟨s0,h1,h2⟩:=Option.map_eq_some_iff.1 hs
    refine ⟨s0,h1,?_⟩
    rw [← h2]
    split <;> rfl
  obtain ⟨a1,a2⟩:=ls_adds (A:=A.modE u j (fun e=>(f e).outs)) (i:=u) (t:=T.nb u j) ho
  refine ⟨(lsOf ((A.modE u j (fun e=>(f e).outs)).adds u (T.nb u j) (f d.2).out)).bag,?_,fun x y g hg=>?_,⟨fun x y=>?_,fun x hx=>?_,fun x y e he=>?_,fun x y e he=>?_,fun x y e he=>?_,fun x s hs=>?_⟩,fun r r' C hB h1 h2=>fun x y s e hs he=>?_,?_,hes⟩
  · rw [a1,ls_modE hd]
  · have:=a2 x y g hg
    rw [ls_modE hd] at this
    exact this
  · rw [hside]
    rw [← hS.shp x y]
    cases A.side x y with
    | none=>rfl
    | some e=>simp only [Option.map_some]; split <;> rfl
  · rcases adds_mem _ _ _ _ x hx with h1 | ⟨g,h1,rfl⟩
    · exact hS.bg x h1
    · exact ⟨fun _=>⟨g,ho g h1,rfl⟩,(fun e=>by cases e),G.sym _ _ (T.adj u j hj)⟩
  · rcases hget x y e he with ⟨_,_,rfl⟩ | ⟨_,h1⟩
    · exact hk
    · exact hS.kept x y e h1
  · rcases hget x y e he with ⟨_,_,rfl⟩ | ⟨_,h1⟩
    · exact hw
    · exact hS.wait x y e h1
  · rcases hget x y e he with ⟨_,_,rfl⟩ | ⟨_,h1⟩
    · rfl
    · exact hS.out x y e h1
  · obtain ⟨s0,h1,h2⟩:=hgn x s hs
    rw [h2]; exact hS.well x s0 h1
  · obtain ⟨s0,h3,h4⟩:=hgn x s hs
    rw [h4]
    rcases hget x y e he with ⟨rfl,rfl,rfl⟩ | ⟨_,h5⟩
    · have:=hB u j s0 d h3 hd
      show (f d.2).first + (f d.2).wait.length + mu s0.n + r' u≤C
      omega
    · have:=hB x y s0 e h3 h5
      have:=h2 x
      omega
  · apply List.ext_getElem?
    intro x
    rw [List.getElem?_map,List.getElem?_map,hsps]
    cases A.sps[x]? with
    | none=>rfl
    | some s=>simp only [Option.map_some]; split <;> rfl
theorem show_ok {e:En} (h0:e.out=[]) (hw:∀ m ∈ e.wait,MOk m) (hl:e.first + e.wait.length≤65536) (k:Nat):∀ g ∈ (e.showFrom k).out,FrOk g:=fun g hg=>by
  rcases show_mem e k g hg with h | ⟨i,m,hi,hm,rfl⟩
  · rw [h0] at h; cases h
  · have:=(shown_le e).1
    exact frok_data (by omega) (hw m (List.mem_of_getElem? hm))
theorem send_ok {e:En} (h0:e.out=[]) (hw:∀ m ∈ e.wait,MOk m) {x:Fr.Msg} (hx:MOk x) (hl:e.first + e.wait.length < 65536):(∀ g ∈ (e.send x).out,FrOk g)∧(∀ m ∈ (e.send x).wait,MOk m):=by
  have h1:∀ m ∈ (e.put x).wait,MOk m:=fun m hm=>by
    rcases List.mem_append.1 hm with hm | hm
    · exact hw m hm
    · rw [List.mem_singleton.1 hm]; exact hx
  refine ⟨show_ok (e:=e.put x) h0 h1 ?_ _,h1⟩
  show e.first + (e.wait++[x]).length≤65536
  simp; omega
theorem ack_ok {e:En} (h0:e.out=[]) (hw:∀ m ∈ e.wait,MOk m) (hl:e.first + e.wait.length≤65536) (k:Nat):(∀ g ∈ (e.ack k).out,FrOk g)∧(∀ m ∈ (e.ack k).wait,MOk m)∧(e.ack k).first + (e.ack k).wait.length=e.first + e.wait.length:=by
  unfold En.ack
  split
  · rename_i h
    have hs:=(shown_le e).1
    have h1:∀ m ∈ (e.drop (k - e.first)).wait,MOk m:=fun m hm=>hw m (List.mem_of_mem_drop hm)
    have h2:(e.drop (k - e.first)).first + (e.drop (k - e.first)).wait.length=e.first + e.wait.length:=by
      show e.first + (k - e.first) + (e.wait.drop (k - e.first)).length=_
      rw [List.length_drop]; omega
    exact ⟨show_ok (e:=e.drop (k - e.first)) h0 h1 (by rw [h2]; exact hl) _,h1,h2⟩
  · exact ⟨fun g hg=>(by rw [h0] at hg; cases hg),hw,rfl⟩
theorem keep_same (e:En) (n:Nat) (x:Fr.Msg):(e.keep n x).out=e.out∧(e.keep n x).wait=e.wait∧(e.keep n x).first=e.first:=by
  unfold En.keep
  split
  · split <;> exact ⟨rfl,rfl,rfl⟩
  · exact ⟨rfl,rfl,rfl⟩
theorem came_ok {e:En} (h0:e.out=[]) (n:Nat) (x:Fr.Msg):(∀ g ∈ (e.came n x).out,FrOk g)∧(e.came n x).wait=e.wait∧(e.came n x).first=e.first:=by
  obtain ⟨k1,k2,k3⟩:=keep_same e n x
  unfold En.came En.answer
  split
  · rename_i h
    refine ⟨fun g hg=>?_,k2,k3⟩
    rcases List.mem_append.1 hg with hg | hg
    · have hg':g ∈ (e.keep n x).out:=hg
      rw [k1,h0] at hg'; cases hg'
    · rw [List.mem_singleton.1 hg]; exact frok_ans h
  · refine ⟨fun g hg=>?_,k2,k3⟩
    have hg':g ∈ (e.keep n x).out:=hg
    rw [k1,h0] at hg'; cases hg'
theorem sendOne_ls {G:Gr} {T:Top G} {A:AN} (hS:Sf T A) {u:Nat} {c:Nat × Fr.Msg} (hc:c.1 < T.dg u) (hm:MOk c.2) {r:Nat→Nat} {C k:Nat} (hB:Bd A r C) (hr:r u=k + 1) (hC:C < 65536) :
    LS.sendOne T (lsOf A) (lsOf (A.sendOne u c)) u c∧Sf T (A.sendOne u c)∧Bd (A.sendOne u c) (upd r u k) C∧(A.sendOne u c).sps.map AS.n=A.sps.map AS.n∧(A.sendOne u c).es=A.es:=by
  obtain ⟨d,s,hd,hd1,hs⟩:=hS.at hc
  have hb:=hB u c.1 s d hs hd
  have hf:d.2.try c.2=d.2.send c.2:=by
    unfold En.try
    rw [if_pos ⟨hm,by omega⟩]
  obtain ⟨o1,o2⟩:=send_ok (hS.out u c.1 d hd) (hS.wait u c.1 d hd) hm (by omega)
  obtain ⟨bag',b1,b2,b3,b4,b5,b6⟩:=carry_ls hS hd (fun e=>e.try c.2) (by rw [hf]; exact o1) (by rw [hf]; exact hS.kept u c.1 d hd) (by rw [hf]; exact o2)
  rw [hf] at b1 b2 b4
  have e1:=en_at hd
  refine ⟨⟨?_,?_,?_⟩,b3,b4 r _ C hB ?_ ?_,b5,b6⟩
  · show (lsOf ((A.modE u c.1 (fun e=>e.try c.2)).carry u c.1)).nodes=_
    rw [b1]
  · show (lsOf ((A.modE u c.1 (fun e=>e.try c.2)).carry u c.1)).en=_
    rw [b1,e1]
  · intro x y f hx
    have hx':(x,y,some f) ∈ (lsOf ((A.modE u c.1 (fun e=>e.try c.2)).carry u c.1)).bag:=hx
    rw [b1] at hx'
    rw [e1]
    exact b2 x y f hx'
  · rw [upd_at]
    show d.2.first + (d.2.wait++[c.2]).length + k≤_
    simp; omega
  · intro x
    simp only [upd]
    split
    · rename_i e; rw [e]; omega
    · exact Nat.le_refl _
theorem sends_ls {G:Gr} {T:Top G} {u C:Nat} (hC:C < 65536):∀ (l:List (Nat × Fr.Msg)) {A:AN} {r:Nat→Nat},Sf T A→(∀ c ∈ l,c.1 < T.dg u∧MOk c.2)→Bd A r C→r u=l.length →
    LS.sends T u (lsOf A) l (lsOf (A.sends u l))∧Sf T (A.sends u l)∧Bd (A.sends u l) (upd r u 0) C∧(A.sends u l).sps.map AS.n=A.sps.map AS.n∧(A.sends u l).es=A.es
  | [],A,r,hS,hl,hB,hr=>⟨LS.sends.nil _,hS,by
      have : upd r u 0 = r := by funext x; simp only [upd]; split
                                 · rename_i e; rw [e]; simpa using hr.symm
                                 · rfl
      rw [this]; exact hB,rfl,rfl⟩
  | c :: l,A,r,hS,hl,hB,hr=>by
    have hc:=hl c (by simp)
    obtain ⟨a1,a2,a3,a4,a5⟩:=sendOne_ls hS hc.1 hc.2 hB (k:=l.length) (by simpa using hr) hC
    obtain ⟨b1,b2,b3,b4,b5⟩:=sends_ls hC l a2 (fun d hd=>hl d (by simp [hd])) a3 (by rw [upd_at])
    refine ⟨LS.sends.cons a1 b1,b2,?_,b4.trans a4,b5.trans a5⟩
    have:upd (upd r u l.length) u 0=upd r u 0:=upd_upd _ _ _ _
    rw [this] at b3
    exact b3
theorem sf_modN {G:Gr} {T:Top G} {A:AN} (hS:Sf T A) {u:Nat} {s:AS} (hs:A.sps[u]?=some s) (f:Nod→Nod) (hf:NWell (f s.n)):Sf T (A.modN u f):=by
  refine ⟨fun x y=>?_,hS.bg,fun x y d hd=>?_,fun x y d hd=>?_,fun x y d hd=>?_,fun x s' hs'=>?_⟩
  · rw [sides_modN]; exact hS.shp x y
  · rw [sides_modN] at hd; exact hS.kept x y d hd
  · rw [sides_modN] at hd; exact hS.wait x y d hd
  · rw [sides_modN] at hd; exact hS.out x y d hd
  · rw [sps_modN] at hs'
    obtain ⟨s0,h1,h2⟩:=Option.map_eq_some_iff.1 hs'
    by_cases e:u=x
    · subst e
      rw [hs] at h1; cases h1
      rw [if_pos rfl] at h2
      rw [← h2]; exact hf
    · rw [if_neg e] at h2
      rw [← h2]; exact hS.well x s0 h1
theorem bd_modN {A:AN} {r r':Nat→Nat} {C K:Nat} (hB:Bd A r C) {u:Nat} {s:AS} (hs:A.sps[u]?=some s) (f:Nod→Nod) (hf:mu (f s.n) + r' u≤mu s.n + r u + K) (hr:∀ x,x≠u→r' x≤r x):Bd (A.modN u f) r' (C + K):=by
  intro x y s' d hs' hd
  rw [sides_modN] at hd
  rw [sps_modN] at hs'
  obtain ⟨s0,h1,h2⟩:=Option.map_eq_some_iff.1 hs'
  have:=hB x y s0 d h1 hd
  by_cases e:u=x
  · subst e
    rw [hs] at h1; cases h1
    rw [if_pos rfl] at h2
    rw [← h2]
    show d.2.first + d.2.wait.length + mu (f s.n) + r' u≤C + K
    omega
  · rw [if_neg e] at h2
    rw [← h2]
    have:=hr x (fun c=>e c.symm)
    omega
theorem nodes_eq {A A':AN} (h:A'.sps.map AS.n=A.sps.map AS.n):(lsOf A').nodes=(lsOf A).nodes:=by
  funext x
  have h1:(A'.sps.map AS.n)[x]?=(A.sps.map AS.n)[x]?:=by rw [h]
  rw [List.getElem?_map,List.getElem?_map] at h1
  unfold lsOf
  dsimp only
  cases e1:A'.sps[x]? with
  | none =>
    cases e2:A.sps[x]? with
    | none=>rfl
    | some s=>rw [e1,e2] at h1; cases h1
  | some s' =>
    cases e2:A.sps[x]? with
    | none=>rw [e1,e2] at h1; cases h1
    | some s=>rw [e1,e2] at h1; simpa using h1
theorem qt_eq {A A':AN} (h:A'.sps.map AS.n=A.sps.map AS.n) (hq:Qt A):Qt A':=fun u s hs=>by
  have h1:(A'.sps.map AS.n)[u]?=(A.sps.map AS.n)[u]?:=by rw [h]
  rw [List.getElem?_map,List.getElem?_map,hs] at h1
  cases e2:A.sps[u]? with
  | none=>rw [e2] at h1; cases h1
  | some s0 =>
    rw [e2] at h1
    have:s.n=s0.n:=by simpa using h1
    rw [this]; exact hq u s0 e2
theorem Net.elen {G:Gr} {T:Top G} {Q:Nat→Prop} {nodes:Nat→Nod} {chan:Nat→Nat→List NMsg} (h:Net G T Q nodes chan) (u:Nat):(nodes u).edges.length=T.dg u:=by
  obtain ⟨P,⟨s,g,h',hR,hI,a,b⟩,hl⟩:=h.good
  exact (hR.nr u).len
theorem post_ls {G:Gr} {T:Top G} (hn:G.n≤1000) {A:AN} (hS:Sf T A) {u:Nat} {s:AS} (hs:A.sps[u]?=some s) (hq:∀ (x:Nat) (s:AS),x≠u→A.sps[x]?=some s→s.n.sent=[]) (hp:PS s.n) {C:Nat} (hB:Bd A (fun _=>0) C) (hC:C < 65536) {H D:Nat→Nat→List Fr.Msg} (hI:LInv G T (lsOf A) H D no2) :
    ∃ H',LInv G T (lsOf (A.post u)) H' D no2∧Sf T (A.post u)∧Bd (A.post u) (fun _=>0) C∧Qt (A.post u)∧(lsOf (A.post u)).nodes=upd (lsOf A).nodes u { s.n with sent:=[] }∧(A.post u).es=A.es:=by
  have e1:=nodes_at hs
  have hW:=hS.well u s hs
  have hS1:=sf_modN hS hs (fun n=>{ n with sent:=[] }) (sentNil_well hW)
  obtain ⟨chan,hN,_⟩:=hI.net
  have hlen:=hN.elen u
  rw [e1] at hlen
  have hc1:∀ c ∈ s.n.sent,c.1 < T.dg u:=fun c hc=>by rw [← hlen]; exact hW.ns.sent c hc
  have hl:∀ c ∈ s.n.sent,c.1 < T.dg u∧MOk c.2:=fun c hc=>⟨hc1 c hc,mok_fit (hp c hc) (hN.fits hn (u:=u) (by rw [e1]; exact hc) (hc1 c hc))⟩
  have hB1:Bd (A.modN u (fun n=>{ n with sent:=[] })) (upd (fun _=>0) u s.n.sent.length) (C + 0):=bd_modN hB hs (fun n=>{ n with sent:=[] }) (by
    rw [upd_at]
    show (([]:List (Nat × Fr.Msg)).length + 32 * s.n.off.length + (if s.n.state=0 then 1 else 0)) + _≤s.n.sent.length + 32 * s.n.off.length + (if s.n.state=0 then 1 else 0) + _ + _
    simp only [List.length_nil]
    omega) (fun x hx=>by rw [upd_ne _ _ hx]; exact Nat.le_refl _)
  obtain ⟨a1,a2,a3,a4,a5⟩:=sends_ls hC s.n.sent hS1 hl hB1 (by rw [upd_at])
  have eP:A.post u=(A.modN u (fun n=>{ n with sent:=[] })).sends u s.n.sent:=by
    unfold AN.post AN.sentOf; rw [hs]
  rw [← eP] at a1 a2 a3 a4 a5
  rw [ls_modN hs] at a1
  obtain ⟨H',b1,b2,b3⟩:=hI.post (u:=u) (S':=lsOf (A.post u)) (by rw [e1]; exact hc1) (by rw [e1]; exact a1)
  refine ⟨H',b1,a2,?_,?_,?_,a5⟩
  · have:upd (upd (fun _=>0) u s.n.sent.length) u 0=fun _=>0:=by
      rw [upd_upd]; funext x; simp [upd]
    rw [this] at a3
    exact a3
  · refine qt_eq a4 (fun x s' hs'=>?_)
    rw [sps_modN] at hs'
    obtain ⟨s0,h1,h2⟩:=Option.map_eq_some_iff.1 hs'
    by_cases e:u=x
    · rw [if_pos e] at h2; rw [← h2]
    · rw [if_neg e] at h2; rw [← h2]; exact hq x s0 (fun c=>e c.symm) h1
  · rw [b3,e1]
end Go.Proofs.YtlfijfodklhplaaGreat.Ghs
