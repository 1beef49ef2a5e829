import Derived.Test.YtlfijfodklhplaaGreatSf25
set_option linter.unusedVariables false
set_option linter.unusedSimpArgs false
namespace Go.Proofs.YtlfijfodklhplaaGreat
open Go.RowKit
theorem modify_get {α:Type} {l:List α} {i k:Nat} {f:α→α} {y:α} (h:(l.modify i f)[k]?=some y):∃ x,l[k]?=some x∧y=if i=k then f x else x:=by
  rw [List.getElem?_modify] at h
  cases hx:l[k]? with
  | none=>rw [hx] at h; simp at h
  | some x =>
    rw [hx] at h
    simp only [Option.map_some,Option.some.injEq,Option.map_eq_map] at h
    exact ⟨x,rfl,h.symm⟩
theorem modify_map {α β:Type} (g:α→β) (l:List α) (i:Nat) (f:α→α) (h:∀ x,g (f x)=g x):(l.modify i f).map g=l.map g:=by
  apply List.ext_getElem?
  intro k
  rw [List.getElem?_map,List.getElem?_map,List.getElem?_modify]
  cases l[k]? with
  | none=>simp
  | some x=>by_cases e:i=k <;> simp [e,h]
theorem modify_two {α:Type} (l:List α) (i:Nat) (f g:α→α):(l.modify i f).modify i g=l.modify i (fun x=>g (f x)):=by
  apply List.ext_getElem?
  intro k
  rw [List.getElem?_modify,List.getElem?_modify,List.getElem?_modify]
  cases l[k]? with
  | none=>simp
  | some x=>by_cases e:i=k <;> simp [e]
def AN.shape (A:AN):List (List Nat):=A.sps.map (fun s=>s.ss.map (fun d=>d.1))
def POk (S:List (List Nat)) (x:AP):Prop:=(∀ y ∈ x.l,y < 256)∧0 < x.l.length∧x.l.length < 1000∧∃ l,S[x.t]?=some l∧x.f ∈ l
def Symm (S:List (List Nat)):Prop:=∀ (i:Nat) (l:List Nat) (t:Nat),S[i]?=some l→t ∈ l→∃ l',S[t]?=some l'∧i ∈ l'
def KOk (e:En):Prop:=∀ m,some m ∈ e.kept→MOk m
structure AOk (A : AN) (B : Nat) : Prop where
  few:A.sps.length≤1000
  well:∀ (i:Nat) (s:AS),A.sps[i]?=some s→NWell s.n∧s.n.edges.length=s.ss.length∧s.n.off.length≤B
  out:∀ (i:Nat) (s:AS),A.sps[i]?=some s→∀ (j:Nat) (d:Nat × En),s.ss[j]?=some d→d.2.out=[]
  kept:∀ (i:Nat) (s:AS),A.sps[i]?=some s→∀ (j:Nat) (d:Nat × En),s.ss[j]?=some d→KOk d.2
  bag:A.bag.length≤300
  pk:∀ x ∈ A.bag,POk A.shape x
  sym:Symm A.shape
theorem shape_modE (A:AN) (i j:Nat) (f:En→En):(A.modE i j f).shape=A.shape :=
  modify_map _ _ _ _ (fun s=>modify_map _ _ _ _ (fun d=>rfl))
theorem shape_modN (A:AN) (i:Nat) (f:Nod→Nod):(A.modN i f).shape=A.shape:=modify_map _ _ _ _ (fun s=>rfl)
theorem add_sps (A:AN) (x:AP):(A.add x).sps=A.sps∧(A.add x).es=A.es:=by unfold AN.add; split <;> exact ⟨rfl,rfl⟩
theorem shape_add (A:AN) (x:AP):(A.add x).shape=A.shape:=by unfold AN.shape; rw [(add_sps A x).1]
theorem mem_add {A:AN} {x y:AP} (h:y ∈ (A.add x).bag):y ∈ A.bag∨y=x:=by
  unfold AN.add at h
  split at h
  · rcases List.mem_append.1 h with h | h
    · exact Or.inl h
    · exact Or.inr (List.mem_singleton.1 h)
  · exact Or.inl h
theorem aok_add {A:AN} {B:Nat} (h:AOk A B) {x:AP} (hx:POk A.shape x):AOk (A.add x) B:=by
  refine ⟨?_,?_,?_,?_,?_,?_,?_⟩
  · rw [(add_sps A x).1]; exact h.few
  · rw [(add_sps A x).1]; exact h.well
  · rw [(add_sps A x).1]; exact h.out
  · rw [(add_sps A x).1]; exact h.kept
  · unfold AN.add; split
    · simp; omega
    · exact h.bag
  · intro y hy
    rw [shape_add]
    rcases mem_add hy with e | rfl
    · exact h.pk y e
    · exact hx
  · rw [shape_add]; exact h.sym
theorem aok_adds {B:Nat} (i t:Nat) (l:List Fr.Frm):∀ A:AN,AOk A B→(∃ s,A.shape[t]?=some s∧i ∈ s)→(∀ f ∈ l,FrOk f)→AOk (A.adds i t l) B:=by
  induction l with
  | nil=>intro A h _ _; exact h
  | cons f r ih =>
    intro A h hs hf
    show AOk ((A.add ⟨i,t,Fr.enc f,false⟩).adds i t r) B
    have hf0:=hf f (List.mem_cons_self ..)
    have hl:=enc_len f
    have hfl:flen f=10∨flen f=5:=by unfold flen; split <;> simp
    refine ih _ (aok_add h ⟨enc_byte f hf0,?_,?_,hs⟩) (by rw [shape_add]; exact hs) (fun g hg=>hf g (List.mem_cons_of_mem _ hg))
    · simp only [hl]; omega
    · simp only [hl]; omega
theorem side_get {A:AN} {i j:Nat} {d:Nat × En} (h:A.side i j=some d):∃ s,A.sps[i]?=some s∧s.ss[j]?=some d:=by
  unfold AN.side at h
  obtain ⟨s,h1,h2⟩:=Option.bind_eq_some_iff.1 h
  exact ⟨s,h1,h2⟩
theorem modE_two (A:AN) (i j:Nat) (f g:En→En):(A.modE i j f).modE i j g=A.modE i j (fun e=>g (f e)):=by
  unfold AN.modE
  simp only [modify_two]
theorem side_modE {A:AN} {i j:Nat} {d:Nat × En} (h:A.side i j=some d) (f:En→En):(A.modE i j f).side i j=some (d.1,f d.2):=by
  obtain ⟨s,h1,h2⟩:=side_get h
  unfold AN.side AN.modE
  simp [h1,h2]
theorem aok_modE {A:AN} {B:Nat} (h:AOk A B) (i j:Nat) (f:En→En) (hf:∀ e,(f e).out=[]) (hk:∀ e,KOk e→KOk (f e)):AOk (A.modE i j f) B:=by
  refine ⟨?_,?_,?_,?_,h.bag,?_,?_⟩
  · simpa [AN.modE] using h.few
  · intro k s hs
    obtain ⟨x,hx,rfl⟩:=modify_get hs
    obtain ⟨h1,h2,h3⟩:=h.well k x hx
    split
    · exact ⟨h1,by simpa using h2,h3⟩
    · exact ⟨h1,h2,h3⟩
  · intro k s hs j' d hd
    obtain ⟨x,hx,rfl⟩:=modify_get hs
    split at hd
    · obtain ⟨y,hy,rfl⟩:=modify_get hd
      split
      · exact hf _
      · exact h.out k x hx j' y hy
    · exact h.out k x hx j' d hd
  · intro k s hs j' d hd
    obtain ⟨x,hx,rfl⟩:=modify_get hs
    split at hd
    · obtain ⟨y,hy,rfl⟩:=modify_get hd
      split
      · exact hk _ (h.kept k x hx j' y hy)
      · exact h.kept k x hx j' y hy
    · exact h.kept k x hx j' d hd
  · rw [shape_modE]; exact h.pk
  · rw [shape_modE]; exact h.sym
theorem carry_eq {A:AN} {i j:Nat} {d:Nat × En} (hd:A.side i j=some d) (f:En→En):(A.modE i j f).carry i j=(A.modE i j (fun e=>(f e).outs)).adds i d.1 (f d.2).out:=by
  unfold AN.carry
  rw [side_modE hd f]
  simp only [modE_two]
theorem aok_carry {A:AN} {B:Nat} (h:AOk A B) {i j:Nat} {d:Nat × En} (hd:A.side i j=some d) (f:En→En) (hk:∀ e,KOk e→KOk (f e)) (hf:∀ fr ∈ (f d.2).out,FrOk fr):AOk ((A.modE i j f).carry i j) B:=by
  rw [carry_eq hd f]
  refine aok_adds i d.1 _ _ (aok_modE h i j _ (fun e=>rfl) (fun e he=>hk e he)) ?_ hf
  rw [shape_modE]
  obtain ⟨s,h1,h2⟩:=side_get hd
  exact h.sym i (s.ss.map (fun d=>d.1)) d.1 (by simp [AN.shape,h1]) (List.mem_map.2 ⟨d,List.mem_of_getElem? h2,rfl⟩)
theorem aok_modN {A:AN} {B B':Nat} (h:AOk A B) (hB:B≤B') (i:Nat) (f:Nod→Nod) (hf:∀ s,A.sps[i]?=some s→NWell (f s.n)∧(f s.n).edges.length=s.n.edges.length∧(f s.n).off.length≤B'):AOk (A.modN i f) B':=by
  refine ⟨?_,?_,?_,?_,h.bag,?_,?_⟩
  · simpa [AN.modN] using h.few
  · intro k s hs
    obtain ⟨x,hx,rfl⟩:=modify_get hs
    obtain ⟨h1,h2,h3⟩:=h.well k x hx
    split
    · rename_i e
      subst e
      obtain ⟨f1,f2,f3⟩:=hf x hx
      exact ⟨f1,f2.trans h2,f3⟩
    · exact ⟨h1,h2,by omega⟩
  · intro k s hs j' d hd
    obtain ⟨x,hx,rfl⟩:=modify_get hs
    split at hd
    · exact h.out k x hx j' d hd
    · exact h.out k x hx j' d hd
  · intro k s hs j' d hd
    obtain ⟨x,hx,rfl⟩:=modify_get hs
    split at hd
    · exact h.kept k x hx j' d hd
    · exact h.kept k x hx j' d hd
  · rw [shape_modN]; exact h.pk
  · rw [shape_modN]; exact h.sym
theorem kok_try {e:En} (h:KOk e) (m:Fr.Msg):KOk (e.try m):=by
  unfold En.try
  split
  · exact h
  · exact h
theorem kok_tick {e:En} (h:KOk e):KOk e.tick:=h
theorem kok_inn {e:En} (h:KOk e) {q:Option Fr.Frm} (hq:∀ f,q=some f→FrOk f):KOk (e.inn q)∧∀ m ∈ e.tld q,MOk m:=by
  cases q with
  | none=>exact ⟨h,fun m hm=>by cases hm⟩
  | some f =>
    have hf:=hq f rfl
    obtain ⟨fd,fs,fm⟩:=f
    cases fd with
    | false =>
      refine ⟨?_,fun m hm=>by cases hm⟩
      show KOk (e.ack fs)
      unfold En.ack
      split
      · exact h
      · exact h
    | true =>
      have hm:MOk fm:=by
        rcases hf.2 with ⟨_,a,b,c,d⟩ | ⟨a,_⟩
        · exact ⟨a,b,c,d⟩
        · cases a
      have hk:KOk (e.keep fs fm):=by
        unfold En.keep
        split
        · split
          · intro m h1
            rcases List.mem_or_eq_of_mem_set h1 with h2 | h2
            · exact h m h2
            · cases h2; exact hm
          · exact h
        · exact h
      have rdy:∀ (l:List (Option Fr.Msg)),(∀ m,some m ∈ l→MOk m)→∀ m ∈ En.ready l,MOk m:=by
        intro l
        induction l with
        | nil=>intro _ m h1; cases h1
        | cons x r ih =>
          intro hl m h1
          cases x with
          | none=>cases h1
          | some y =>
            rcases List.mem_cons.1 h1 with rfl | h2
            · exact hl _ (List.mem_cons_self ..)
            · exact ih (fun m hm=>hl m (List.mem_cons_of_mem _ hm)) m h2
      refine ⟨?_,rdy _ hk⟩
      show KOk ((e.keep fs fm).take.answer)
      have ht:KOk (e.keep fs fm).take:=by
        intro m h1
        rcases List.mem_append.1 h1 with h2 | h2
        · exact hk m (List.mem_of_mem_drop h2)
        · have:=(List.mem_replicate.1 h2).2; cases this
      unfold En.answer
      split
      · exact ht
      · exact ht
theorem NtR.way_not {w:World} {N:Nt} (h:NtR w N) {k:Nat} (hk:N.way k):¬ N.Own k:=by
  rintro ⟨q,hq,hk1⟩
  exact hq (h.apart q .way k hk1 hk)
theorem way_setE (N:Nt) (i:Nat) (s:Sp) (j:Nat) (d:Sd) (e:En) (p:Pl):(N.setE i s j d e p (fun _=>False)).way=N.way:=by
  funext k; simp [Nt.setE,Nt.setS]
theorem way_setN (N:Nt) (i:Nat) (s:Sp) (n:Nod) (p:Np):(N.setN i s n p (fun _=>False)).way=N.way:=by
  funext k; simp [Nt.setN,Nt.setS]
theorem mine_of_step {w w':World} {b:Nat} {p p':Pl} (h:Step w w' b p p') (hn:¬ ELst p' b):(∀ k,ELst p' k→ELst p k∨w.heap.size≤k)∧Keep (fun k=>k=b∨ELst p k) w w':=by
  have hW:∀ k,Wri b p k→k=b∨ELst p k:=by
    rintro k (e | e | e)
    · exact Or.inl e
    · exact Or.inr (Or.inl e)
    · exact Or.inr (Or.inr (Or.inl e))
  refine ⟨?_,h.keep.mono (fun k _ e=>hW k e)⟩
  intro k hk
  have hne:k≠b:=fun e=>hn (e ▸ hk)
  have key:Wri b p' k→ELst p k∨w.heap.size≤k:=fun x=>by
    rcases h.wri k x with e | e
    · rcases hW k e with e | e
      · exact (hne e).elim
      · exact Or.inl e
    · exact Or.inr e
  rcases hk with e | e | e
  · exact key (Or.inr (Or.inl e))
  · exact key (Or.inr (Or.inr e))
  · rcases h.gs k e with e | e
    · exact Or.inl (Or.inr (Or.inr e))
    · exact Or.inr e
theorem showFrom_len (e:En) (k:Nat):(e.showFrom k).out.length≤e.out.length + 4:=by
  simp only [En.showFrom,List.length_append,frames_len,List.length_drop,List.length_take]; omega
theorem try_len (e:En) (m:Fr.Msg):(e.try m).out.length≤e.out.length + 4:=by
  unfold En.try
  split
  · exact showFrom_len (e.put m) e.shown
  · omega
theorem tick_len (e:En):e.tick.out.length≤e.out.length + 4:=showFrom_len e 0
theorem NtR.abs_len {N:Nt}:N.abs.bag.length=N.L.length∧N.abs.sps.length=N.sps.length:=by simp [Nt.abs]
theorem NtR.turnE {w:World} {M:Nt} (h:NtR w M) {k j:Nat} {s:Sp} {d:Sd} (hs:M.sps[k]?=some s) (hd:s.ss[j]?=some d) :
    ∃ g o cc,s.sa=some ⟨g,o,none⟩∧g < w.heap.size∧w.cell? ⟨g,o + j * 25,none⟩=some (.int .i64 (d.to_:Int))∧Rep w cc 181 g (o + j * 25 + 1) d.e d.p ∧
      ∀ (w3 w2:World) (e':En) (p':Pl),Keep nil w w3→Rep w2 cc 181 g (o + j * 25 + 1) e' p'→Step w3 w2 g d.p p' →
        ∃ M2 s2 d2,NtR w2 M2∧(∀ f:En→En,f d.e=e'→M2.abs=M.abs.modE k j f)∧NtTo w w2 M M2∧M2.way=M.way∧(∀ f ∈ e'.out,FrOk f)∧M2.sps[k]?=some s2∧s2.ss[j]?=some d2∧d2.e=e'∧s2.ss.length=s.ss.length∧M2.sps.length=M.sps.length∧M2.L=M.L∧Keep (fun b=>b < w.heap.size) w3 w2∧(∀ b,M2.Own b→M.Own b∨ELst p' b):=by
  obtain ⟨g,o,cc,h1,h2,h3,h4,h5⟩:=h.atEnd hs hd
  refine ⟨g,o,cc,h1,h2,h3,h4,fun w3 w2 e' p' k3 hr hst=>?_⟩
  have hlt:=(h.ends k s hs j d hd).lt
  obtain ⟨m1,m2⟩:=mine_of_step hst hr.notL
  have hk:Keep (fun b=>b=g∨ELst d.p b) w w2:=(k3.mono (fun _ _ e=>e.elim)).trans m2
  obtain ⟨r1,r2⟩:=h5 w2 e' p' (fun _=>False) hr hk (fun b hb=>(m1 b hb).imp id (fun e=>Nat.le_trans k3.size e)) (fun b e=>e.elim)
  refine ⟨_,{ s with ss:=s.ss.set j { d with e:=e',p:=p' } },{ d with e:=e',p:=p' },r1,fun f hf=>abs_setE hs hd _ _ _ f hf,r2,way_setE ..,hr.fok,lset_self hs _,lset_self hd _,rfl,by simp,by simp [Nt.setE,Nt.setS],rfl,m2.mono ?_,?_⟩
  · rintro b _ (e | e)
    · rw [e]; exact h2
    · exact hlt b e
  · rintro b ⟨q,hq,hb⟩
    cases q with
    | way=>exact (hq rfl).elim
    | net=>exact Or.inl ⟨.net,by simp,hb⟩
    | edges=>exact Or.inl ⟨.edges,by simp,hb⟩
    | spots=>exact Or.inl ⟨.spots,by simp,hb⟩
    | bag=>exact Or.inl ⟨.bag,by simp,hb⟩
    | pks=>exact Or.inl ⟨.pks,by simp,hb⟩
    | spot i a =>
      obtain ⟨s2,hs2,hb2⟩:=hb
      rcases lset_get hs2 with ⟨rfl,rfl⟩ | ⟨_,hs3⟩
      · cases a with
        | node=>exact Or.inl ⟨.spot i .node,by simp,s,hs,hb2⟩
        | side=>exact Or.inl ⟨.spot i .side,by simp,s,hs,hb2⟩
        | ends j' =>
          obtain ⟨d2,hd2,hb3⟩:=hb2
          rcases lset_get hd2 with ⟨rfl,rfl⟩ | ⟨_,hd3⟩
          · exact Or.inr hb3
          · exact Or.inl ⟨.spot i (.ends j'),by simp,s,hs,d2,hd3,hb3⟩
      · exact Or.inl ⟨.spot i a,by simp,s2,hs3,hb2⟩
structure Pst (w wr : World) (N : Nt) (k : Nat) (s : Sp) (B i : Nat) (M : Nt) : Prop where
  rep:NtR wr M
  abs:M.abs=(N.abs.modN k (fun n=>{ n with sent:=[] })).sends k (s.n.sent.take i)
  to_:NtTo w wr N M
  way:M.way=fun b=>N.way b∨inB s.p.sa b
  ok:AOk M.abs B
  row:RV wr 197 5 s.p.sa s.n.sent.length s.p.sc (lcells s.n.sent)
theorem Pst.keep {w wr w1:World} {N M:Nt} {k B i:Nat} {s:Sp} (h:Pst w wr N k s B i M) (k1:Keep nil wr w1):Pst w w1 N k s B i M :=
  ⟨h.rep.keep k1 (fun _ _ e=>e),h.abs,h.to_.trans (NtTo.of_keep M k1),h.way,h.ok,h.row.keep k1 (fun _ _ e=>e)⟩
theorem Pst.side {w wr:World} {N M:Nt} {k B i:Nat} {s:Sp} (h:Pst w wr N k s B i M) (hs:N.sps[k]?=some s) {j:Nat} (hj:j < s.ss.length):∃ s' d',M.sps[k]?=some s'∧s'.ss[j]?=some d'∧s'.sa=s.sa∧s'.sc=s.sc∧s'.ss.length=s.ss.length:=by
  obtain ⟨s',h1,h2⟩:=h.to_.spot hs
  obtain ⟨_,h3,h4,_,h5⟩:=fix_parts h2
  exact ⟨s',_,h1,List.getElem?_eq_getElem (by omega),h3,h4,h5⟩
theorem Pst.next {w wr w2 w3 : World} {N M M3 : Nt} {k B i : Nat} {s : Sp} (h : Pst w wr N k s B i M) {c : Nat × Fr.Msg} (hc : s.n.sent[i]? = some c) {s' : Sp} {d' : Sd} (hs' : M.sps[k]? = some s') (hd' : s'.ss[c.1]? = some d') {M2 : Nt}
    (h2:M2.abs=M.abs.modE k c.1 (fun e=>e.try c.2)) (h2t:NtTo wr w2 M M2) (h2w:M2.way=M.way) (h2f:∀ f ∈ (d'.e.try c.2).out,FrOk f)
    (r3:NtR w3 M3) (a3:M3.abs=M2.abs.carry k c.1) (t3:NtTo w2 w3 M2 M3) (w3':M3.way=M2.way):Pst w w3 N k s B (i + 1) M3:=by
  have t13:=h2t.trans t3
  refine ⟨r3,?_,h.to_.trans t13,(w3'.trans h2w).trans h.way,?_,h.row.keep t13.keep (fun b hb=>h.rep.way_not (by rw [h.way]; exact Or.inr hb))⟩
  · rw [a3,h2,h.abs,take_succ_get hc]
    simp only [AN.sends,List.foldl_append,List.foldl_cons,List.foldl_nil,AN.sendOne]
  · rw [a3,h2]
    exact aok_carry h.ok (abs_side hs' hd') _ (fun e he=>kok_try he _) h2f
theorem Pst.done {w wr:World} {N M:Nt} {k B:Nat} {s:Sp} (h:Pst w wr N k s B s.n.sent.length M) (hs:N.sps[k]?=some s) :
    NtR wr { M with way:=N.way }∧({ M with way:=N.way }:Nt).abs=N.abs.post k∧NtTo w wr N { M with way:=N.way }∧AOk ({ M with way:=N.way }:Nt).abs B:=by
  refine ⟨h.rep.wayTo (Keep.refl nil wr) N.way (fun i hi=>Or.inl (by rw [h.way]; exact Or.inl hi)),?_,h.to_.way N.way N.way,h.ok⟩
  rw [abs_way,h.abs,List.take_length,AN.post,AN.sentOf,abs_spot hs]; rfl
theorem lcells_get (l:List (Nat × Fr.Msg)):∀ (k:Nat) (c:Nat × Fr.Msg),l[k]?=some c→∀ j:Nat,j < 5→(lcells l)[k * 5 + j]?=(lcell c)[j]?:=by
  induction l with
  | nil=>intro k c h; simp at h
  | cons x t ih =>
    intro k c h j hj
    have hc:lcells (x :: t)=lcell x++lcells t:=by simp [lcells]
    have hl:(lcell x).length=5:=rfl
    rw [hc]
    cases k with
    | zero =>
      simp only [List.getElem?_cons_zero,Option.some.injEq] at h
      subst h
      rw [List.getElem?_append_left (by omega)]
      simp
    | succ k =>
      simp only [List.getElem?_cons_succ] at h
      rw [List.getElem?_append_right (by omega),hl,show (k + 1) * 5 + j - 5=k * 5 + j by omega]
      exact ih k c h j hj
theorem letter_at {w:World} {a:Option Addr} {n c:Nat} {l:List (Nat × Fr.Msg)} (h:RV w 197 5 a n c (lcells l)) {k:Nat} {x:Nat × Fr.Msg} (hx:l[k]?=some x) (hk:k < n) :
    ∃ g q,a=some ⟨g,q,none⟩∧g < w.heap.size∧w.cell? ⟨g,q + k * 5,none⟩=some (.int .i64 (x.1:Int))∧w.cell? ⟨g,q + k * 5 + 1,none⟩=some (.int .i64 (x.2.kind:Int))∧w.cell? ⟨g,q + k * 5 + 2,none⟩=some (.int .i64 (x.2.level:Int))∧w.cell? ⟨g,q + k * 5 + 3,none⟩=some (.int .i64 (x.2.name:Int))∧w.cell? ⟨g,q + k * 5 + 4,none⟩=some (.bool x.2.finding):=by
  obtain ⟨g,q,h1,h2⟩:=rv_pos h (by omega)
  have c0:=lcells_get l k x hx
  refine ⟨g,q,h1,h2.lt,h2.cell _ _ (c0 0 (by omega)),?_,?_,?_,?_⟩
  · rw [Nat.add_assoc]; exact h2.cell _ _ (c0 1 (by omega))
  · rw [Nat.add_assoc]; exact h2.cell _ _ (c0 2 (by omega))
  · rw [Nat.add_assoc]; exact h2.cell _ _ (c0 3 (by omega))
  · rw [Nat.add_assoc]; exact h2.cell _ _ (c0 4 (by omega))
theorem Pst.start {w:World} {N:Nt} {k B:Nat} {s:Sp} (h:NtR w N) (hs:N.sps[k]?=some s) (ho:AOk N.abs B):∃ M,Pst w (w.setCell ⟨s.b,11,none⟩ (.slice none 0 0)) N k s B 0 M:=by
  have hn:=h.nods k s hs
  obtain ⟨n1,n2,n3⟩:=hn.sentNil
  obtain ⟨r1, r2⟩ := h.setN hs { s.n with sent := [] } { s.p with sa := none, sc := 0 } (inB s.p.sa) n1 (n2.mono (fun i _ e => Or.inl e))
    (by
      rintro i (e | e | e | e)
      · exact Or.inl (Or.inl e)
      · exact Or.inl (Or.inr (Or.inl e))
      · exact Or.inl (Or.inr (Or.inr (Or.inl e)))
      · exact (inB_none i e).elim)
    (by
      intro i e
      refine ⟨Or.inr (Or.inr (Or.inr e)),?_⟩
      rintro (x | x | x | x)
      · subst x; exact hn.sb e
      · exact hn.es i x e
      · exact hn.fs i x e
      · exact inB_none i x)
  have ha:=abs_setN hs { s.n with sent:=[] } { s.p with sa:=none,sc:=0 } (inB s.p.sa) (fun n=>{ n with sent:=[] }) rfl
  refine ⟨_,r1,by rw [ha]; rfl,r2,rfl,?_,?_⟩
  · rw [ha]
    refine aok_modN ho (Nat.le_refl _) k _ (fun s1 h1=>?_)
    obtain ⟨w1,w2,w3⟩:=ho.well k s1 h1
    exact ⟨sentNil_well w1,rfl,w3⟩
  · exact hn.srow.keep n2 (fun b hb e=>hn.sb ((show b=s.b from e) ▸ hb))
set_option maxRecDepth 100000 in
set_option maxHeartbeats 4000000 in
theorem post_any (N:Nt) (k:Nat) (s:Sp) (B:Nat) (w:World) (h:NtR w N) (hs:N.sps[k]?=some s) (ho:AOk N.abs B) (hsl:(s.n.sent.length:Int) < 1000000000000) :
    Calls Tryz.prog 64 #[.pointer (some ⟨N.nb,0,none⟩),.int .i64 (k:Int)] w fun r w'=>r=.returned (.tuple #[])∧∃ N',NtR w' N'∧N'.abs=N.abs.post k∧NtTo w w' N N'∧N'.way=N.way∧AOk N'.abs B:=by
  obtain ⟨pb,po,hpa,hpl,hp0,hp1⟩:=h.spot_at hs
  have hkl:=(List.getElem?_eq_some_iff.1 hs).1
  have q1:=h.c1
  have hnl:=h.blk.lt
  have hsps:N.sps.length≤1000:=by have:=ho.few; simpa [Nt.abs] using this
  rw [hpa] at q1
  have H:Unit→NtR w N∧N.sps[k]?=some s∧AOk N.abs B∧(s.n.sent.length:Int) < 1000000000000∧N.pa=some ⟨pb,po,none⟩:=fun _=>⟨h,hs,ho,hsl,hpa⟩
  have HS:Unit→∀ w1,Keep nil w w1→_:=fun _ w1 k1=>nsent_any s.b s.n s.p w1 ((h.nods k s hs).keep k1 (fun _ _ e=>e))
  have H1:Unit→∃ M,Pst w (w.setCell ⟨s.b,11,none⟩ (.slice none 0 0)) N k s B 0 M:=fun _=>Pst.start h hs ho
  have hkI:(k:Int) < (N.sps.length:Int):=by omega
  have hk8:(k:Int) < 2000:=by omega
  obtain ⟨nb,hnb⟩:∃ nb,nb=N.nb:=⟨_,rfl⟩
  obtain ⟨ln,hln⟩:∃ ln,ln=s.n.sent.length:=⟨_,rfl⟩
  have HNB:Unit→nb=N.nb∧ln=s.n.sent.length:=fun _=>⟨hnb,hln⟩
  rw [← hln] at HS
  rw [← hnb] at q1 hnl ⊢
  clear h hs ho hsl hkl hpa hnb hln hsps
  go_enter Tryz.func64,Tryz.ntmps64
  go_wp2_with fail
  refine Calls.mono (HS () _ (Keep.refl nil w)) ?_
  rintro r w1 ⟨rfl,rfl⟩
  obtain ⟨W1,hW1⟩:∃ W1,W1=w.setCell ⟨s.b,11,none⟩ (.slice none 0 0):=⟨_,rfl⟩
  rw [← hW1] at H1 ⊢
  clear HS q1 hpl hnl hp0 hp1 hW1
  go_wp2_with fail
  go_loopw [19] (fun v wr=>∃ (i:Nat) (M:Nt),i≤ln∧v=.int .i64 (i:Int)∧Pst w wr N k s B i M) (fun v _=>ln - (intOf v).toNat)
  case atStart =>
    obtain ⟨M,hM⟩:=H1 ()
    exact ⟨0,M,by omega,rfl,hM⟩
  case round =>
    obtain ⟨i,M,hi,rfl,hM⟩:=hrel
    have HM:Unit→Pst w wr N k s B i M∧i≤ln:=fun _=>⟨hM,hi⟩
    by_cases hil:i < ln
    · have HIL:Unit→i < ln:=fun _=>hil
      have hiI:(i:Int) < (ln:Int):=by omega
      have hi9:(i:Int) < 1000000000000:=by have:=(H ()).2.2.2.1; rw [← (HNB ()).2] at this; omega
      obtain ⟨c,hc⟩:∃ c,s.n.sent[i]?=some c:=⟨_,List.getElem?_eq_getElem (by rw [← (HNB ()).2]; exact hil)⟩
      have HC:Unit→s.n.sent[i]?=some c:=fun _=>hc
      obtain ⟨hw1,hw2,hw3⟩:=(H ()).2.2.1.well k s.abs (abs_spot (H ()).2.1)
      have hcl:c.1 < s.ss.length:=by
        have h1:=hw1.ns.sent c (List.mem_of_getElem? hc)
        have h2:s.n.edges.length=s.ss.length:=by simpa [Sp.abs] using hw2
        have h3:s.abs.n.edges.length=s.n.edges.length:=rfl
        omega
      have hsl9:(s.ss.length:Int) < 1000:=by
        have h2:s.n.edges.length=s.ss.length:=by simpa [Sp.abs] using hw2
        have:=hw1.good.rise.few
        have h3:s.abs.n.edges.length=s.n.edges.length:=rfl
        omega
      obtain ⟨s',d',hs',hd',hsa,hsc,hsl⟩:=hM.side (H ()).2.1 hcl
      obtain ⟨g,o,cc,hsa',hgl,hto,hrep,hset⟩:=hM.rep.turnE hs' hd'
      obtain ⟨pb',po',hpa',hpl',hp0,hp1⟩:=hM.rep.spot_at hs'
      have hpp:some (⟨pb,po,none⟩:Addr)=some ⟨pb',po',none⟩:=by rw [← (H ()).2.2.2.2,← hM.to_.pa]; exact hpa'
      cases hpp
      obtain ⟨lb,lo,hla,hll,e0,e1,e2,e3,e4⟩:=letter_at hM.row hc (by rw [← (HNB ()).2]; exact hil)
      rw [hsa'] at hp1
      have HP:Unit→M.sps[k]?=some s'∧s'.ss[c.1]?=some d'∧(s.ss.length:Int) < 1000∧s'.ss.length=s.ss.length:=fun _=>⟨hs',hd',hsl9,hsl⟩
      have HSE:Unit→∀ w1,Keep nil wr w1→_:=fun _ w1 k1=>linkSend_all cc 181 g (o + c.1 * 25 + 1) d'.e d'.p c.2 w1 (hrep.keep k1 (fun _ _ e=>e)) (by have:=hM.ok.out k s'.abs (abs_spot hs') c.1 d'.abs (by simp [Sp.abs,hd']); have h2:d'.e.out=[]:=this; rw [h2]; simp)
      have hci:(c.1:Int) < (s'.ss.length:Int):=by omega
      have hc9:(c.1:Int) < 1000:=by omega
      simp only [mv] at HSE
      obtain ⟨ce,cm⟩:=c
      obtain ⟨mk,ml,mn,mf⟩:=cm
      simp only at e0 e1 e2 e3 e4 HSE hci hc9
      have HSET:Unit→_:=fun _=>hset
      clear hi hil hM hc hcl hw1 hw2 hw3 hto hrep hset hpa' hp0 hs' hd' hsa hsa' hsc hsl hsl9
      rw [hla]
      go_wp2_with fail
      obtain ⟨W3,hW3⟩:∃ W3,W3=wr.alloc (Obj.cells #[.int .i64 (ce:Int),.int .i64 (mk:Int),.int .i64 (ml:Int),.int .i64 (mn:Int),.bool mf] 197):=⟨_,rfl⟩
      have k3:Keep nil wr W3:=by rw [hW3]; exact (Keep.refl nil wr).alloc _
      have hb3:Blk W3 wr.heap.size #[.int .i64 (ce:Int),.int .i64 (mk:Int),.int .i64 (ml:Int),.int .i64 (mn:Int),.bool mf] 197:=by rw [hW3]; exact Blk.new _ _ _
      rw [← hW3]
      have hp3:=(k3.cell pb (po + k * 2 + 1) hpl' id).trans hp1
      obtain ⟨xb,hxb⟩:∃ xb,xb=wr.heap.size:=⟨_,rfl⟩
      rw [← hxb] at hb3 ⊢
      have x0:W3.cell? ⟨xb,0,none⟩=some (.int .i64 (ce:Int)):=by rw [hb3.cell]; rfl
      have x1:W3.cell? ⟨xb,1,none⟩=some (.int .i64 (mk:Int)):=by rw [hb3.cell]; rfl
      have x2:W3.cell? ⟨xb,2,none⟩=some (.int .i64 (ml:Int)):=by rw [hb3.cell]; rfl
      have x3:W3.cell? ⟨xb,3,none⟩=some (.int .i64 (mn:Int)):=by rw [hb3.cell]; rfl
      have x4:W3.cell? ⟨xb,4,none⟩=some (.bool mf):=by rw [hb3.cell]; rfl
      have HX:Unit→xb=wr.heap.size∧Keep nil wr W3∧xb < W3.heap.size:=fun _=>⟨hxb,k3,hb3.lt⟩
      clear hW3 k3 hb3 hp1 e0 e1 e2 e3 e4 hll hpl' hgl hxb hla
      go_still_tail 10,(by kernel_rfl)
      go_wp2_with fail
      refine Calls.mono (HSE () W3.drew ((HX ()).2.1.drew)) ?_
      rintro r w2 ⟨z,rfl,p',hr2,hst2⟩
      obtain ⟨M2,s2,d2,HM2⟩:∃ M2 s2 d2,Unit→NtR w2 M2∧M2.abs=M.abs.modE k ce (fun e=>e.try ⟨mk,ml,mn,mf⟩)∧NtTo wr w2 M M2∧M2.way=M.way∧(∀ f ∈ (d'.e.try ⟨mk,ml,mn,mf⟩).out,FrOk f)∧M2.sps[k]?=some s2∧s2.ss[ce]?=some d2∧d2.e=d'.e.try ⟨mk,ml,mn,mf⟩∧s2.ss.length=s'.ss.length∧M2.sps.length=M.sps.length∧M2.L=M.L:=by
        obtain ⟨M2,s2,d2,a1,a2,a3,a4,a5,a6,a7,a8,a9,a10,a11,a12,a13⟩:=HSET () W3.drew w2 _ p' (HX ()).2.1.drew hr2 hst2
        exact ⟨M2,s2,d2,fun _=>⟨a1,a2 _ rfl,a3,a4,a5,a6,a7,a8,a9,a10,a11⟩⟩
      have x0':w2.cell? ⟨xb,0,none⟩=some (.int .i64 (ce:Int)):=by
        obtain ⟨M2,s2,d2,a1,a2,a3,a4,a5,a6,a7,a8,a9,a10,a11,a12,a13⟩:=HSET () W3.drew w2 _ p' (HX ()).2.1.drew hr2 hst2
        exact (a12.cell xb 0 (HX ()).2.2 (by rw [(HX ()).1]; exact Nat.lt_irrefl _)).trans x0
      have hx2:xb < w2.heap.size:=World.block_lt_of_cell? w2 _ x0'
      have HCY:Unit→∀ w4,Keep nil w2 w4→_:=fun _ w4 k4=>by
        obtain ⟨a1,a2,a3,a4,a5,a6,a7,a8,a9,a10,a11⟩:=HM2 ()
        have hMs:=(HM ()).1.ok
        refine carry_any M2 k ce s2 d2 w4 (a1.keep k4 (fun _ _ e=>e)) a6 a7 ?_ ?_ ?_ ?_
        · rw [a11]; have:=hMs.bag; rw [NtR.abs_len.1] at this; omega
        · rw [a10]; have:=hMs.few; rw [NtR.abs_len.2] at this; omega
        · rw [a9,(HP ()).2.2.2]; have:=(HP ()).2.2.1; omega
        · rw [a8]
          have h1:=try_len d'.e ⟨mk,ml,mn,mf⟩
          have h2:d'.e.out=[]:=hMs.out k s'.abs (abs_spot (HP ()).1) ce d'.abs (by have:=(HP ()).2.1; simp [Sp.abs,this])
          rw [h2] at h1
          simp only [List.length_nil] at h1
          omega
      have hnb2:M2.nb=nb:=by rw [(HNB ()).1,(HM2 ()).2.2.1.nb,(HM ()).1.to_.nb]
      rw [hnb2] at HCY
      clear HSET HSE hr2 hst2 x0 x1 x2 x3 x4 hp3 hnb2
      go_wp2_with fail
      refine Calls.mono (HCY () w2 (Keep.refl nil w2)) ?_
      rintro r w5 ⟨rfl,M3,b1,b2,b3,b4⟩
      have HN:Unit→Pst w w5 N k s B (i + 1) M3:=fun _=>by
        obtain ⟨a1,a2,a3,a4,a5,a6,a7,a8,a9,a10,a11⟩:=HM2 ()
        exact (HM ()).1.next (HC ()) (HP ()).1 (HP ()).2.1 a2 a3 a4 a5 b1 b2 b3 b4
      clear HCY x0' hx2 b1 b2 b3 b4
      go_wp2
      exact ⟨⟨i + 1,M3,by have:=HIL (); omega,by go_num,HN ()⟩,by have:=HIL (); simp [intOf]; omega⟩
    · have HE:Unit→i=ln:=fun _=>by have:=(HM ()).2; omega
      have hiI:¬ ((i:Int) < (ln:Int)):=by omega
      clear hi hil hM
      go_wp2
      go_end0
      obtain ⟨r1,r2,r3,r4⟩:=Pst.done (by have:=(HM ()).1; rw [HE (),(HNB ()).2] at this; exact this) (H ()).2.1
      exact ⟨rfl,_,r1,r2,r3,rfl,r4⟩
theorem NtR.turnN {w:World} {M:Nt} (h:NtR w M) {k:Nat} {s:Sp} (hs:M.sps[k]?=some s) :
    NRep w s.b s.n s.p∧∀ (w3 w2:World) (n':Nod) (p':Np),Keep nil w w3→NRep w2 s.b n' p'→NMove w3 w2 s.b s.p p' →
        ∃ M2 s2,NtR w2 M2∧(∀ f:Nod→Nod,f s.n=n'→M2.abs=M.abs.modN k f)∧NtTo w w2 M M2∧M2.way=M.way∧M2.sps[k]?=some s2∧s2.n=n'∧s2.ss=s.ss∧s2.sa=s.sa∧M2.sps.length=M.sps.length∧M2.L=M.L∧Keep (fun b=>b < w.heap.size) w3 w2:=by
  refine ⟨h.nods k s hs,fun w3 w2 n' p' k3 hr hm=>?_⟩
  have hlt:=(h.nods k s hs).lt
  obtain ⟨r1,r2⟩:=h.setN hs n' p' (fun _=>False) hr ((k3.mono (fun _ _ e=>e.elim)).trans hm.keep) (fun b hb=>(hm.mine b hb).imp id (fun e=>Nat.le_trans k3.size e)) (fun b e=>e.elim)
  exact ⟨_,{ s with n:=n',p:=p' },r1,fun f hf=>abs_setN hs _ _ _ f hf,r2,way_setN ..,lset_self hs _,rfl,rfl,rfl,by simp [Nt.setN,Nt.setS],rfl,hm.keep.mono (fun b _ e=>hlt b e)⟩
theorem NtR.hasNode {w:World} {N:Nt} (h:NtR w N) (k:Int):Calls Tryz.prog 62 #[.pointer (some ⟨N.nb,0,none⟩),.int .i64 k] w fun r w'=>r=.returned (.bool (decide (0≤k∧k < (N.sps.length:Int))))∧Keep nil w w' :=
  hasNode_any N.nb 0 N.pa N.sps.length N.pc k w (by rw [Nat.zero_add]; exact h.c1) h.blk.lt
def AN.nods (A:AN):List Nod:=A.sps.map AS.n
def ASt (A:AN):Prop:=∀ (i:Nat) (n:Nod),A.nods[i]?=some n→n.sent=[]
theorem nods_modE (A:AN) (i j:Nat) (f:En→En):(A.modE i j f).nods=A.nods:=modify_map _ _ _ _ (fun s=>rfl)
theorem nods_modN (A:AN) (i:Nat) (f:Nod→Nod):(A.modN i f).nods=A.nods.modify i f:=by
  apply List.ext_getElem?
  intro k
  simp only [AN.nods,AN.modN,List.getElem?_map,List.getElem?_modify]
  cases A.sps[k]? with
  | none=>simp
  | some x=>by_cases e:i=k <;> simp [e]
theorem nods_adds (i t:Nat) (l:List Fr.Frm):∀ A:AN,(A.adds i t l).nods=A.nods:=by
  induction l with
  | nil=>intro A; rfl
  | cons f r ih =>
    intro A
    show ((A.add _).adds i t r).nods=_
    rw [ih]; unfold AN.nods; rw [(add_sps A _).1]
theorem nods_carry (A:AN) (i j:Nat):(A.carry i j).nods=A.nods:=by
  unfold AN.carry
  split
  · rfl
  · rw [nods_adds,nods_modE]
theorem nods_sends (i:Nat) (l:List (Nat × Fr.Msg)):∀ A:AN,(A.sends i l).nods=A.nods:=by
  induction l with
  | nil=>intro A; rfl
  | cons c r ih =>
    intro A
    show ((A.sendOne i c).sends i r).nods=_
    rw [ih]; unfold AN.sendOne; rw [nods_carry,nods_modE]
theorem ast_post (A:AN) (k:Nat) (h:∀ (i:Nat) (n:Nod),i≠k→A.nods[i]?=some n→n.sent=[]):ASt (A.post k):=by
  intro i n hn
  unfold AN.post at hn
  rw [nods_sends,nods_modN] at hn
  obtain ⟨x,hx,rfl⟩:=modify_get hn
  split
  · rfl
  · rename_i e
    exact h i x (fun e2=>e e2.symm) hx
theorem ast_mod_post (A:AN) (k:Nat) (f:Nod→Nod) (h:ASt A):ASt ((A.modN k f).post k):=by
  refine ast_post _ k (fun i n hi hn=>?_)
  rw [nods_modN] at hn
  obtain ⟨x,hx,rfl⟩:=modify_get hn
  rw [if_neg (fun e=>hi e.symm)]
  exact h i x hx
theorem ASt.at {N:Nt} (h:ASt N.abs) {k:Nat} {s:Sp} (hs:N.sps[k]?=some s):s.n.sent=[]:=h k s.n (by simp [AN.nods,Nt.abs,hs,Sp.abs])
theorem aok_wake {A:AN} {B:Nat} (h:AOk A B) (k:Nat):AOk (A.modN k Nod.wake) B:=by
  refine aok_modN h (Nat.le_refl _) k _ (fun s hs=>?_)
  obtain ⟨h1,h2,h3⟩:=h.well k s hs
  exact ⟨wake_well _ h1,(fr_wake s.n).len,by rw [(fr_wake s.n).off]; exact h3⟩
set_option maxRecDepth 100000 in
set_option maxHeartbeats 4000000 in
theorem mwake_any (N:Nt) (k:Nat) (s:Sp) (B:Nat) (w:World) (h:NtR w N) (hs:N.sps[k]?=some s) (ho:AOk N.abs B) (hst:ASt N.abs) :
    Calls Tryz.prog 31 #[.pointer (some ⟨N.nb,0,none⟩),.int .i64 (k:Int)] w fun r w'=>r=.returned (.int .i64 0)∧∃ N',NtR w' N'∧N'.abs=N.abs.wake k∧NtTo w w' N N'∧N'.way=N.way∧AOk N'.abs B∧ASt N'.abs:=by
  have hkl:=(List.getElem?_eq_some_iff.1 hs).1
  have hk9:(k:Int) < 2000:=by have:=ho.few; rw [NtR.abs_len.2] at this; omega
  have hkI:(k:Int) < (N.sps.length:Int):=by omega
  have HH:Unit→_:=fun _=>h.hasNode (k:Int)
  rw [decide_eq_true (p:=0≤(k:Int)∧(k:Int) < (N.sps.length:Int)) ⟨by omega,by omega⟩] at HH
  have H:Unit→NtR w N∧N.sps[k]?=some s∧AOk N.abs B∧ASt N.abs:=fun _=>⟨h,hs,ho,hst⟩
  have HC:Unit→∀ w1,Keep nil w w1→∃ pb po,w1.cell? ⟨N.nb,1,none⟩=some (.slice (some ⟨pb,po,none⟩) N.sps.length N.pc)∧N.nb < w1.heap.size∧pb < w1.heap.size∧w1.cell? ⟨pb,po + k * 2,none⟩=some (.pointer (some ⟨s.b,0,none⟩))∧s.b < w1.heap.size:=fun _ w1 k1=>by
    have h1:=h.keep k1 (fun _ _ e=>e)
    obtain ⟨pb,po,hpa,hpl,hp0,hp1⟩:=h1.spot_at hs
    have q1:=h1.c1
    rw [hpa] at q1
    exact ⟨pb,po,q1,h1.blk.lt,hpl,hp0,(h1.nods k s hs).blk.lt⟩
  obtain ⟨nb,hnb⟩:∃ nb,nb=N.nb:=⟨_,rfl⟩
  have HNB:Unit→nb=N.nb:=fun _=>hnb
  rw [← hnb] at HH HC ⊢
  clear h hs ho hst hkl hnb
  go_enter Tryz.func31,Tryz.ntmps31
  go_wp2_with fail
  refine Calls.mono (HH ()) ?_
  rintro r w1 ⟨rfl,k1⟩
  obtain ⟨pb,po,q1,hnl,hpl,hp0,hbl⟩:=HC () w1 k1
  have K1:Unit→Keep nil w w1:=fun _=>k1
  clear HH HC k1
  go_wp2_with fail
  have hw1:=((H ()).2.2.1.well k s.abs (abs_spot (H ()).2.1)).1
  obtain ⟨hn,hset⟩:=(H ()).1.turnN (H ()).2.1
  have hse:=(H ()).2.2.2.at (H ()).2.1
  refine Calls.mono (wake_any s.b s.n s.p w1 (hn.keep (K1 ()) (fun _ _ e=>e)) hw1.good.rise (by rw [hse]; simp)) ?_
  rintro r w2 ⟨rfl,p',hr2,hs2⟩
  obtain ⟨M2,s2,a1,a2,a3,a4,a5,a6,a7,a8,a9,a10,a11⟩:=hset w1 w2 _ p' (K1 ()) hr2 hs2.move
  have HM2:Unit→NtR w2 M2∧M2.abs=N.abs.modN k Nod.wake∧NtTo w w2 N M2∧M2.way=N.way:=fun _=>⟨a1,a2 _ rfl,a3,a4⟩
  have HP:Unit→∀ w3,Keep nil w2 w3→_:=fun _ w3 k3=>post_any M2 k s2 B w3 (a1.keep k3 (fun _ _ e=>e)) a5 (by rw [(HM2 ()).2.1]; exact aok_wake (H ()).2.2.1 k) (by
    rw [a6]
    have h1:=(fr_wake s.n).sent
    rw [hse] at h1
    simp only [List.length_nil] at h1
    omega)
  have hnb2:M2.nb=nb:=by rw [a3.nb,HNB ()]
  rw [hnb2] at HP
  clear a1 a2 a3 a4 a5 a6 a7 a8 a9 a10 a11 hw1 hn hset hse hr2 hs2 q1 hp0 hnb2
  go_wp2_with fail
  refine Calls.mono (HP () w2 (Keep.refl nil w2)) ?_
  rintro r w3 ⟨rfl,N',b1,b2,b3,b4,b5⟩
  have HN:Unit→NtR w3 N'∧N'.abs=N.abs.wake k∧NtTo w w3 N N'∧N'.way=N.way∧AOk N'.abs B∧ASt N'.abs:=fun _ =>
    ⟨b1,by rw [b2,(HM2 ()).2.1]; rfl,(HM2 ()).2.2.1.trans b3,b4.trans (HM2 ()).2.2.2,b5,by rw [b2,(HM2 ()).2.1]; exact ast_mod_post _ k _ (H ()).2.2.2⟩
  clear HP b1 b2 b3 b4 b5
  go_wp2
  go_ret
  exact ⟨rfl,N',HN ()⟩
end Go.Proofs.YtlfijfodklhplaaGreat
