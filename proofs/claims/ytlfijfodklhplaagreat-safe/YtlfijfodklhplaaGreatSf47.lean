import Derived.Test.YtlfijfodklhplaaGreatSf46
import Derived.Test.YtlfijfodklhplaaGreatSf07
set_option linter.unusedVariables false
set_option linter.unusedSimpArgs false
namespace Go.Proofs.YtlfijfodklhplaaGreat.Ghs
open Go.RowKit
structure E3 where
  a:Nat
  b:Nat
  w:Nat
def krOne (c:(Nat→Nat) × List E3) (e:E3):(Nat→Nat) × List E3 :=
  if c.1 e.a=c.1 e.b then c else (fun k=>if c.1 k=c.1 e.b then c.1 e.a else c.1 k,c.2++[e])
def krs (L:List E3):(Nat→Nat) × List E3:=L.foldl krOne (fun k=>k,[])
def KJ (c:(Nat→Nat) × List E3):Prop:=∀ x y,c.1 x=c.1 y→∀ S:Nat→Prop,(∀ e ∈ c.2,(S e.a ↔ S e.b))→(S x ↔ S y)
theorem kj_one {c:(Nat→Nat) × List E3} (h:KJ c) (e:E3):KJ (krOne c e):=by
  unfold krOne
  split
  · exact h
  · intro x y hxy S hS
    dsimp only at hxy hS
    have h1:∀ e ∈ c.2,(S e.a ↔ S e.b):=fun e he=>hS e (by simp [he])
    have h2:S e.a ↔ S e.b:=hS e (by simp)
    have hx:=h x e.b
    have hy:=h y e.b
    have hx2:=h x e.a
    have hy2:=h y e.a
    have hxy2:=h x y
    by_cases c1:c.1 x=c.1 e.b
    · by_cases c2:c.1 y=c.1 e.b
      · rw [hx c1 S h1,hy c2 S h1]
      · rw [if_pos c1,if_neg c2] at hxy
        rw [hx c1 S h1,hy2 hxy.symm S h1,h2]
    · by_cases c2:c.1 y=c.1 e.b
      · rw [if_neg c1,if_pos c2] at hxy
        rw [hx2 hxy S h1,hy c2 S h1,h2]
      · rw [if_neg c1,if_neg c2] at hxy
        exact hxy2 hxy S h1
theorem kj_fold : ∀ (L : List E3) {c : (Nat → Nat) × List E3}, KJ c → KJ (L.foldl krOne c)
  | [],c,h=>h
  | e :: L,c,h=>kj_fold L (kj_one h e)
theorem kr_mono : ∀ (L : List E3) (c : (Nat → Nat) × List E3) (e : E3), e ∈ c.2 → e ∈ (L.foldl krOne c).2
  | [],c,e,h=>h
  | x :: L,c,e,h=>kr_mono L (krOne c x) e (by unfold krOne; split <;> simp [h])
theorem kr_from : ∀ (L : List E3) (c : (Nat → Nat) × List E3) (e : E3), e ∈ (L.foldl krOne c).2 → e ∈ c.2 ∨ e ∈ L
  | [],c,e,h=>Or.inl h
  | x :: L,c,e,h=>by
    rcases kr_from L (krOne c x) e h with h1 | h1
    · unfold krOne at h1
      split at h1
      · exact Or.inl h1
      · simp at h1
        rcases h1 with h1 | h1
        · exact Or.inl h1
        · right; simp [h1]
    · right; simp [h1]
theorem kr_cut {L:List E3} (hL:L.Pairwise (fun x y=>x.w < y.w)) {e:E3} (he:e ∈ L) (S:Nat→Prop) (hS:¬ (S e.a ↔ S e.b)) (hm:∀ x ∈ L,¬ (S x.a ↔ S x.b)→e.w≤x.w):e ∈ (krs L).2:=by
  obtain ⟨X,Y,rfl⟩:=List.append_of_mem he
  unfold krs
  rw [List.foldl_append,List.foldl_cons]
  refine kr_mono Y _ e ?_
  have hj:KJ (X.foldl krOne (fun k=>k,[])):=kj_fold X (fun x y hxy S _=>by dsimp only at hxy; rw [hxy])
  have hf:=kr_from X (fun k=>k,[])
  generalize X.foldl krOne (fun k=>k,[])=c at hj hf
  unfold krOne
  split
  · rename_i heq
    exfalso
    refine hS (hj _ _ heq S fun x hx=>?_)
    apply Classical.byContradiction
    intro hn
    have hxX:x ∈ X:=by
      rcases hf x hx with h1 | h1
      · cases h1
      · exact h1
    have h1:=hm x (by simp [hxX]) hn
    have h2:=(List.pairwise_append.1 hL).2.2 x hxX e (by simp)
    omega
  · simp
def grOf (n : Nat) (L : List E3) (h1 : ∀ e ∈ L, e.a < n ∧ e.b < n ∧ e.a ≠ e.b ∧ 1 ≤ e.w ∧ e.w ≤ 1000) (hL : L.Pairwise (fun x y => x.w < y.w))
    (w:Nat→Nat→Nat) (hw:∀ u v,w u v=w v u) (hwe:∀ e ∈ L,w e.a e.b=e.w):Gr where
  n:=n
  adj u v:=∃ e ∈ L,(e.a=u∧e.b=v)∨(e.a=v∧e.b=u)
  w:=w
  sym:=fun u v ⟨e,he,h⟩=>⟨e,he,h.symm⟩
  irr:=fun u ⟨e,he,h⟩=>by
    have:=(h1 e he).2.2.1
    rcases h with ⟨h2,h3⟩ | ⟨h2,h3⟩ <;> exact this (h2.trans h3.symm)
  lt:=fun u v ⟨e,he,h⟩=>by
    have:=h1 e he
    rcases h with ⟨h2,h3⟩ | ⟨h2,h3⟩ <;> omega
  ws:=hw
  w1:=fun u v ⟨e,he,h⟩=>by
    have h2:=h1 e he
    have h3:=hwe e he
    rcases h with ⟨rfl,rfl⟩ | ⟨rfl,rfl⟩
    · omega
    · rw [hw]; omega
  wd:=fun u v x y ⟨e,he,h⟩ ⟨f,hf,k⟩ hh=>by
    have h3:=hwe e he
    have h4:=hwe f hf
    have hs:=hw
    have e1:w u v=e.w:=by
      rcases h with ⟨rfl,rfl⟩ | ⟨rfl,rfl⟩
      · exact h3
      · rw [hw]; exact h3
    have e2:w x y=f.w:=by
      rcases k with ⟨rfl,rfl⟩ | ⟨rfl,rfl⟩
      · exact h4
      · rw [hw]; exact h4
    have hef:e=f:=by
      apply Classical.byContradiction
      intro hne
      have:=List.pairwise_iff_getElem.1 hL
      obtain ⟨i,hi,rfl⟩:=List.getElem_of_mem he
      obtain ⟨j,hj,rfl⟩:=List.getElem_of_mem hf
      rcases Nat.lt_trichotomy i j with c | c | c
      · have:=this i j hi hj c; omega
      · subst c; exact hne rfl
      · have:=this j i hj hi c; omega
    subst hef
    rcases h with ⟨rfl,rfl⟩ | ⟨rfl,rfl⟩ <;> rcases k with ⟨rfl,rfl⟩ | ⟨rfl,rfl⟩ <;> simp
  mst u v:=∃ e ∈ (krs L).2,(e.a=u∧e.b=v)∨(e.a=v∧e.b=u)
  cut:=fun S u v ⟨e,he,h⟩ hu hv hm=>by
    refine ⟨e,kr_cut hL he S ?_ ?_,h⟩
    · rcases h with ⟨rfl,rfl⟩ | ⟨rfl,rfl⟩
      · exact fun x=>hv (x.1 hu)
      · exact fun x=>hv (x.2 hu)
    · intro x hx hn
      have e1:w u v=e.w:=by
        rcases h with ⟨rfl,rfl⟩ | ⟨rfl,rfl⟩
        · exact hwe e he
        · rw [hw]; exact hwe e he
      have e2:=hwe x hx
      by_cases c:S x.a
      · have c2:¬ S x.b:=fun c2=>hn ⟨fun _=>c2,fun _=>c⟩
        have:=hm x.a x.b ⟨x,hx,Or.inl ⟨rfl,rfl⟩⟩ c c2
        omega
      · have c2:S x.b:=Classical.byContradiction fun c2=>hn ⟨fun y=>(c y).elim,fun y=>(c2 y).elim⟩
        have:=hm x.b x.a ⟨x,hx,Or.inr ⟨rfl,rfl⟩⟩ c2 c
        have e3:=hw x.b x.a
        omega
structure Dir (s r : En) (out back : Fr.Frm → Prop) (H : List Fr.Msg) : Prop where
  data:∀ f,out f→f.data=true→H[f.seq]?=some f.m∧f.seq < s.first + s.shown
  acks:∀ f,back f→f.data=false→f.seq≤r.await
  lo:s.first≤r.await
  hi:r.await≤s.first + s.shown
  len:s.first + s.wait.length=H.length
  wait:∀ i m,s.wait[i]?=some m→H[s.first + i]?=some m
  kept:∀ i m,r.kept[i]?=some (some m)→H[r.await + i]?=some m∧r.await + i < s.first + s.shown
  four:r.kept.length=4
theorem shown_le (e:En):e.shown≤e.wait.length∧e.shown≤4:=by unfold En.shown; omega
theorem frames_mem (n:Nat) (l:List Fr.Msg) (f:Fr.Frm) (h:f ∈ En.frames n l):∃ i m,l[i]?=some m∧f=⟨true,n + i,m⟩:=by
  induction l generalizing n with
  | nil=>simp [En.frames] at h
  | cons x r ih =>
    rcases List.mem_cons.1 h with rfl | h
    · exact ⟨0,x,rfl,rfl⟩
    · obtain ⟨i,m,hi,rfl⟩:=ih (n + 1) h
      exact ⟨i + 1,m,by simpa using hi,by rw [Nat.add_right_comm,Nat.add_assoc]⟩
theorem show_mem (e:En) (k:Nat) (f:Fr.Frm) (h:f ∈ (e.showFrom k).out):f ∈ e.out∨∃ i m,i < e.shown∧e.wait[i]?=some m∧f=⟨true,e.first + i,m⟩:=by
  rcases List.mem_append.1 h with h | h
  · exact Or.inl h
  · obtain ⟨i,m,hi,rfl⟩:=frames_mem _ _ _ h
    rw [List.getElem?_drop] at hi
    have hlt:=(List.getElem?_eq_some_iff.1 hi).1
    rw [List.length_take] at hlt
    rw [List.getElem?_take_of_lt (by omega)] at hi
    exact Or.inr ⟨k + i,m,by unfold En.shown; omega,hi,by rw [Nat.add_assoc]⟩
theorem Dir.new:Dir En.new En.new (fun _=>False) (fun _=>False) []:=by
  refine ⟨fun _ h=>h.elim,fun _ h=>h.elim,Nat.le_refl _,by simp [En.new],rfl,fun i m h=>by simp [En.new] at h,fun i m h=>?_,rfl⟩
  have:i=0∨i=1∨i=2∨i=3∨4≤i:=by omega
  rcases this with rfl | rfl | rfl | rfl | h4
  · simp [En.new] at h
  · simp [En.new] at h
  · simp [En.new] at h
  · simp [En.new] at h
  · have:=(List.getElem?_eq_some_iff.1 h).1
    simp [En.new] at this
    omega
theorem Dir.less {s r:En} {out back out' back':Fr.Frm→Prop} {H:List Fr.Msg} (h:Dir s r out back H) (ho:∀ f,out' f→out f) (hb:∀ f,back' f→back f):Dir s r out' back' H :=
  { h with data:=fun f hf=>h.data f (ho f hf),acks:=fun f hf=>h.acks f (hb f hf) }
theorem get_app {H:List Fr.Msg} {i:Nat} {m x:Fr.Msg} (h:H[i]?=some m):(H++[x])[i]?=some m:=by
  have:=(List.getElem?_eq_some_iff.1 h).1
  rw [List.getElem?_append_left this]; exact h
theorem Dir.send {s r:En} {out back out':Fr.Frm→Prop} {H:List Fr.Msg} (h:Dir s r out back H) (x:Fr.Msg) (ho:∀ f,out' f→out f∨f ∈ (s.send x).out) (hs:∀ f ∈ s.out,out f):Dir (s.send x) r out' back (H++[x]):=by
  have hw:∀ i m,(s.send x).wait[i]?=some m→(H++[x])[s.first + i]?=some m:=by
    intro i m hm
    have hm':(s.wait++[x])[i]?=some m:=hm
    by_cases hi:i < s.wait.length
    · rw [List.getElem?_append_left hi] at hm'
      exact get_app (h.wait i m hm')
    · rw [List.getElem?_append_right (by omega)] at hm'
      have hj:=(List.getElem?_eq_some_iff.1 hm').1
      simp at hj
      have:i - s.wait.length=0:=by omega
      rw [this] at hm'
      have hl:=h.len
      rw [List.getElem?_append_right (by omega),show s.first + i - H.length=0 by omega]
      exact hm'
  have hsh:s.first + s.shown≤(s.send x).first + (s.send x).shown:=by
    show s.first + s.shown≤s.first + min (s.wait++[x]).length 4
    unfold En.shown; simp; omega
  refine { data:=?_,acks:=h.acks,lo:=h.lo,hi:=Nat.le_trans h.hi hsh,len:=?_,wait:=hw,kept:=fun i m hm=>⟨get_app (h.kept i m hm).1,Nat.lt_of_lt_of_le (h.kept i m hm).2 hsh⟩,four:=h.four }
  · intro f hf hd
    have old:out f→(H++[x])[f.seq]?=some f.m∧f.seq < (s.send x).first + (s.send x).shown:=fun hf=>⟨get_app (h.data f hf hd).1,Nat.lt_of_lt_of_le (h.data f hf hd).2 hsh⟩
    rcases ho f hf with hf | hf
    · exact old hf
    · rcases show_mem (s.put x) _ f hf with hf | ⟨i,m,hi,hm,rfl⟩
      · exact old (hs f hf)
      · exact ⟨hw i m hm,by show s.first + i < s.first + _; exact Nat.add_lt_add_left hi _⟩
  · show s.first + (s.wait++[x]).length=(H++[x]).length
    have:=h.len
    simp; omega
theorem Dir.tick {s r:En} {out back out':Fr.Frm→Prop} {H:List Fr.Msg} (h:Dir s r out back H) (ho:∀ f,out' f→out f∨f ∈ s.tick.out) (hs:∀ f ∈ s.out,out f):Dir s.tick r out' back H:=by
  refine { data:=?_,acks:=h.acks,lo:=h.lo,hi:=h.hi,len:=h.len,wait:=h.wait,kept:=h.kept,four:=h.four }
  intro f hf hd
  rcases ho f hf with hf | hf
  · exact h.data f hf hd
  · rcases show_mem s 0 f hf with hf | ⟨i,m,hi,hm,rfl⟩
    · exact h.data f (hs f hf) hd
    · exact ⟨h.wait i m hm,Nat.add_lt_add_left hi _⟩
theorem Dir.ack {s r:En} {out back out':Fr.Frm→Prop} {H:List Fr.Msg} (h:Dir s r out back H) (n:Nat) (hn:n≤r.await) (ho:∀ f,out' f→out f∨f ∈ (s.ack n).out) (hs:∀ f ∈ s.out,out f):Dir (s.ack n) r out' back H:=by
  have hhi:=h.hi
  by_cases hc:s.first < n∧n≤s.first + s.shown
  · have hk:n - s.first≤s.shown:=by omega
    have hle:=shown_le s
    have e1:s.ack n=(s.drop (n - s.first)).showFrom (s.shown - (n - s.first)):=by unfold En.ack; rw [if_pos hc]
    rw [e1] at ho ⊢
    obtain ⟨k,hk'⟩:∃ k,k=n - s.first:=⟨_,rfl⟩
    rw [← hk'] at hk ho ⊢
    have hsh:s.first + s.shown≤(s.first + k) + (s.drop k).shown:=by
      show s.first + s.shown≤s.first + k + min (s.wait.drop k).length 4
      unfold En.shown at hk ⊢; simp; omega
    have hw:∀ i m,(s.wait.drop k)[i]?=some m→H[s.first + k + i]?=some m:=by
      intro i m hm
      rw [List.getElem?_drop] at hm
      rw [Nat.add_assoc]
      exact h.wait _ m hm
    refine { data:=?_,acks:=h.acks,lo:=?_,hi:=Nat.le_trans h.hi hsh,len:=?_,wait:=hw,kept:=fun i m hm=>⟨(h.kept i m hm).1,Nat.lt_of_lt_of_le (h.kept i m hm).2 hsh⟩,four:=h.four }
    · intro f hf hd
      have old:out f→H[f.seq]?=some f.m∧f.seq < s.first + k + (s.drop k).shown:=fun hf=>⟨(h.data f hf hd).1,Nat.lt_of_lt_of_le (h.data f hf hd).2 hsh⟩
      rcases ho f hf with hf | hf
      · exact old hf
      · rcases show_mem (s.drop k) _ f hf with hf | ⟨i,m,hi,hm,rfl⟩
        · exact old (hs f hf)
        · exact ⟨hw i m hm,Nat.add_lt_add_left hi _⟩
    · show s.first + k≤r.await
      omega
    · show s.first + k + (s.wait.drop k).length=H.length
      have:=h.len
      simp; omega
  · have e1:s.ack n=s:=by unfold En.ack; rw [if_neg hc]
    rw [e1] at ho ⊢
    exact h.less (fun f hf=>(ho f hf).elim id (fun x=>hs f x)) (fun f hf=>hf)
theorem ready_get (l:List (Option Fr.Msg)) (i:Nat) (m:Fr.Msg) (h:(En.ready l)[i]?=some m):l[i]?=some (some m):=by
  induction l generalizing i with
  | nil=>simp [En.ready] at h
  | cons x r ih =>
    cases x with
    | none=>simp [En.ready] at h
    | some y =>
      cases i with
      | zero=>simpa [En.ready] using h
      | succ i=>simpa using ih i (by simpa [En.ready] using h)
theorem ready_len (l:List (Option Fr.Msg)):(En.ready l).length≤l.length:=by
  induction l with
  | nil=>simp [En.ready]
  | cons x r ih=>cases x <;> simp [En.ready]; exact ih
theorem Dir.came {s r:En} {out back back':Fr.Frm→Prop} {H:List Fr.Msg} (h:Dir s r out back H) (n:Nat) (x:Fr.Msg) (hx:H[n]?=some x) (hn:n < s.first + s.shown) (hb:∀ f,back' f→back f∨f ∈ (r.came n x).out) (hs:∀ f ∈ r.out,back f) :
    Dir s (r.came n x) out back' H∧(r.came n x).await=r.await + (r.told n x).length∧H.drop r.await=r.told n x++H.drop (r.came n x).await:=by
  obtain ⟨k,hk⟩:∃ k,k=r.keep n x:=⟨_,rfl⟩
  have ka:k.await=r.await:=by
    rw [hk]; unfold En.keep
    split
    · split <;> rfl
    · rfl
  have ko:k.out=r.out:=by
    rw [hk]; unfold En.keep
    split
    · split <;> rfl
    · rfl
  have k4:k.kept.length=4:=by
    rw [hk]; unfold En.keep
    split
    · split
      · simp [h.four]
      · exact h.four
    · exact h.four
  have kk:∀ i m,k.kept[i]?=some (some m)→H[r.await + i]?=some m∧r.await + i < s.first + s.shown:=by
    intro i m hm
    rw [hk] at hm
    unfold En.keep at hm
    by_cases h1:r.await≤n
    · rw [if_pos h1] at hm
      split at hm
      · simp only [List.getElem?_set] at hm
        by_cases h2:n - r.await=i
        · subst h2
          rw [if_pos rfl] at hm
          split at hm
          · simp at hm
            rw [← hm]
            have:r.await + (n - r.await)=n:=by omega
            rw [this]; exact ⟨hx,hn⟩
          · cases hm
        · rw [if_neg h2] at hm
          exact h.kept i m hm
      · exact h.kept i m hm
    · rw [if_neg h1] at hm
      exact h.kept i m hm
  obtain ⟨j,hj⟩:∃ j,j=(En.ready k.kept).length:=⟨_,rfl⟩
  have hj4:j≤4:=by have:=ready_len k.kept; omega
  have ht:∀ i m,(En.ready k.kept)[i]?=some m→H[r.await + i]?=some m∧r.await + i < s.first + s.shown:=fun i m hm=>kk i m (ready_get _ i m hm)
  have htop:r.await + j≤s.first + s.shown:=by
    by_cases h0:j=0
    · have:=h.hi; omega
    · have hlast:=ht (j - 1) _ (List.getElem?_eq_getElem (by omega))
      omega
  have ca:(r.came n x).await=r.await + j:=by
    have:(k.take.answer).await=k.take.await:=by unfold En.answer; split <;> rfl
    show (En.answer (En.take (r.keep n x))).await=_
    rw [← hk,this]
    show k.await + (En.ready k.kept).length=_
    rw [ka,hj]
  have ck:(r.came n x).kept=k.kept.drop j++List.replicate j none:=by
    have:(k.take.answer).kept=k.take.kept:=by unfold En.answer; split <;> rfl
    show (En.answer (En.take (r.keep n x))).kept=_
    rw [← hk,this,hj]; rfl
  have co:∀ f,f ∈ (r.came n x).out→f ∈ r.out∨f=⟨false,r.await + j,Fr.none0⟩:=by
    intro f hf
    have e1:(r.came n x).out=k.take.answer.out:=by rw [hk]; rfl
    rw [e1] at hf
    unfold En.answer at hf
    split at hf
    · rcases List.mem_append.1 hf with x | x
      · exact Or.inl (by rw [← ko]; exact x)
      · simp at x
        refine Or.inr ?_
        rw [x,hj,← ka]; rfl
    · exact Or.inl (by rw [← ko]; exact hf)
  have et:r.told n x=En.ready k.kept:=by unfold En.told; rw [hk]
  have hlen:=h.len
  have hle:=shown_le s
  refine ⟨{ data:=h.data,acks:=?_,lo:=?_,hi:=?_,len:=h.len,wait:=h.wait,kept:=?_,four:=?_ },by rw [ca,et,← hj],?_⟩
  · intro f hf hd
    rw [ca]
    rcases hb f hf with hf | hf
    · have:=h.acks f hf hd; omega
    · rcases co f hf with hf | rfl
      · have:=h.acks f (hs f hf) hd; omega
      · exact Nat.le_refl _
  · rw [ca]; have:=h.lo; omega
  · rw [ca]; exact htop
  · intro i m hm
    rw [ck] at hm
    rw [ca]
    by_cases hi:i < (k.kept.drop j).length
    · rw [List.getElem?_append_left hi,List.getElem?_drop] at hm
      have:=kk _ m hm
      rw [Nat.add_assoc]; exact this
    · rw [List.getElem?_append_right (by omega),List.getElem?_replicate] at hm
      split at hm <;> simp at hm
  · rw [ck]; simp; omega
  · rw [ca,et]
    apply List.ext_getElem?
    intro i
    rw [List.getElem?_drop]
    by_cases hi:i < j
    · rw [List.getElem?_append_left (by omega),List.getElem?_eq_getElem (l:=En.ready k.kept) (by omega)]
      exact (ht i _ (List.getElem?_eq_getElem (by omega))).1
    · rw [List.getElem?_append_right (by omega),List.getElem?_drop,← hj]
      congr 1; omega
open NMsg
theorem Dir.congr {s r s' r':En} {out back out' back':Fr.Frm→Prop} {H:List Fr.Msg} (h:Dir s r out back H) (e1:s'.first=s.first) (e2:s'.wait=s.wait) (e3:r'.await=r.await) (e4:r'.kept=r.kept) (ho:∀ f,out' f→out f) (hb:∀ f,back' f→back f):Dir s' r' out' back' H:=by
  have es:s'.shown=s.shown:=by unfold En.shown; rw [e2]
  exact ⟨fun f hf hd=>by rw [e1,es]; exact h.data f (ho f hf) hd,fun f hf hd=>by rw [e3]; exact h.acks f (hb f hf) hd,by rw [e1,e3]; exact h.lo,by rw [e1,e3,es]; exact h.hi,by rw [e1,e2]; exact h.len,fun i m hm=>by rw [e1]; rw [e2] at hm; exact h.wait i m hm,fun i m hm=>by rw [e4] at hm; rw [e1,e3,es]; exact h.kept i m hm,by rw [e4]; exact h.four⟩
structure LS where
  nodes:Nat→Nod
  en:Nat→Nat→En
  bag:List (Nat × Nat × Option Fr.Frm)
structure LInv (G : Gr) (T : Top G) (S : LS) (H D R : Nat → Nat → List Fr.Msg) : Prop where
  dir:∀ u j k,j < T.dg u→k < T.dg (T.nb u j)→T.nb (T.nb u j) k=u→Dir (S.en u j) (S.en (T.nb u j) k) (fun f=>(u,T.nb u j,some f) ∈ S.bag) (fun f=>(T.nb u j,u,some f) ∈ S.bag) (H u (T.nb u j))
  out:∀ u j,(S.en u j).out=[]
  net:∃ chan,Net G T (fun _=>True) S.nodes chan∧∀ u j k,j < T.dg u→k < T.dg (T.nb u j)→T.nb (T.nb u j) k=u→chan u (T.nb u j)=(D u (T.nb u j)++(H u (T.nb u j)).drop (S.en (T.nb u j) k).await++R u (T.nb u j)).map typed
theorem LInv.less {G:Gr} {T:Top G} {S:LS} {H D R:Nat→Nat→List Fr.Msg} (h:LInv G T S H D R) (bag':List (Nat × Nat × Option Fr.Frm)) (hb:∀ u v f,(u,v,some f) ∈ bag'→(u,v,some f) ∈ S.bag):LInv G T { S with bag:=bag' } H D R :=
  ⟨fun u j k hj hk e=>(h.dir u j k hj hk e).less (fun f=>hb _ _ f) (fun f=>hb _ _ f),h.out,h.net⟩
theorem back {G:Gr} (T:Top G) {u j:Nat} (hj:j < T.dg u):∃ k,k < T.dg (T.nb u j)∧T.nb (T.nb u j) k=u:=T.sur _ _ (G.sym _ _ (T.adj u j hj))
theorem LInv.mod {G : Gr} {T : Top G} {S : LS} {H D R : Nat → Nat → List Fr.Msg} (h : LInv G T S H D R) {u j k : Nat} (hj : j < T.dg u) (hk : k < T.dg (T.nb u j)) (e : T.nb (T.nb u j) k = u) (e' : En) (bag' : List (Nat × Nat × Option Fr.Frm)) (H' : Nat → Nat → List Fr.Msg) (D' R' : Nat → Nat → List Fr.Msg)
    (hb:∀ x y f,(x,y,some f) ∈ bag'→(x,y,some f) ∈ S.bag∨(x=u∧y=T.nb u j)) (ho:e'.out=[])
    (hH:∀ x y,¬ (x=u∧y=T.nb u j)→H' x y=H x y)
    (d1:Dir e' (S.en (T.nb u j) k) (fun f=>(u,T.nb u j,some f) ∈ bag') (fun f=>(T.nb u j,u,some f) ∈ bag') (H' u (T.nb u j)))
    (d2:Dir (S.en (T.nb u j) k) e' (fun f=>(T.nb u j,u,some f) ∈ bag') (fun f=>(u,T.nb u j,some f) ∈ bag') (H (T.nb u j) u))
    (hn:∃ chan,Net G T (fun _=>True) S.nodes chan∧∀ x y z,y < T.dg x→z < T.dg (T.nb x y)→T.nb (T.nb x y) z=x→chan x (T.nb x y)=(D' x (T.nb x y)++(H' x (T.nb x y)).drop (upd2 S.en u j e' (T.nb x y) z).await++R' x (T.nb x y)).map typed) :
    LInv G T { S with en:=upd2 S.en u j e',bag:=bag' } H' D' R':=by
  have huv:u≠T.nb u j:=fun x=>by have:=T.adj u j hj; rw [← x] at this; exact G.irr _ this
  refine ⟨fun x y z hy hz hx=>?_,fun x y=>?_,hn⟩
  · dsimp only
    by_cases c1:x=u∧y=j
    · obtain ⟨rfl,rfl⟩:=c1
      have:z=k:=T.inj _ _ _ hz hk (hx.trans e.symm)
      subst this
      have e1:upd2 S.en x y e' x y=e':=by simp [upd2]
      have e2:upd2 S.en x y e' (T.nb x y) z=S.en (T.nb x y) z:=by simp [upd2,huv.symm]
      rw [e1,e2]; exact d1
    · by_cases c2:T.nb x y=u∧z=j
      · obtain ⟨c2,rfl⟩:=c2
        have hxv:x=T.nb u z:=by rw [← hx,c2]
        subst hxv
        have hyk:y=k:=T.inj _ _ _ hy hk (c2.trans e.symm)
        subst hyk
        rw [c2]
        have e1:upd2 S.en u z e' (T.nb u z) y=S.en (T.nb u z) y:=by simp [upd2,huv.symm]
        have e2:upd2 S.en u z e' u z=e':=by simp [upd2]
        rw [e1,e2,hH _ _ (fun c=>huv c.1.symm)]
        exact d2
      · have n1:¬ (x=u∧T.nb x y=T.nb u j):=fun c=>by
          obtain ⟨rfl,c⟩:=c
          exact c1 ⟨rfl,T.inj _ _ _ hy hj c⟩
        have n2:¬ (T.nb x y=u∧x=T.nb u j):=fun c=>by
          obtain ⟨ca,cb⟩:=c
          refine c2 ⟨ca,?_⟩
          have h3:z < T.dg u:=by rw [← ca]; exact hz
          refine T.inj u z j h3 hj ?_
          rw [← cb,← ca]; exact hx
        have e1:upd2 S.en u j e' x y=S.en x y:=by simp only [upd2,if_neg c1]
        have e2:upd2 S.en u j e' (T.nb x y) z=S.en (T.nb x y) z:=by simp only [upd2,if_neg c2]
        rw [e1,e2,hH _ _ n1]
        refine (h.dir x y z hy hz hx).less (fun f hf=>?_) (fun f hf=>?_)
        · rcases hb _ _ f hf with c | c
          · exact c
          · exact (n1 c).elim
        · rcases hb _ _ f hf with c | c
          · exact c
          · exact (n2 c).elim
  · simp only [upd2]
    split
    · exact ho
    · exact h.out x y
theorem LInv.tick {G : Gr} {T : Top G} {S : LS} {H D R : Nat → Nat → List Fr.Msg} (h : LInv G T S H D R) {u j : Nat} (hj : j < T.dg u) (bag' : List (Nat × Nat × Option Fr.Frm))
    (hb:∀ x y f,(x,y,some f) ∈ bag'→(x,y,some f) ∈ S.bag∨(x=u∧y=T.nb u j∧f ∈ (S.en u j).tick.out)) :
    LInv G T { S with en:=upd2 S.en u j (S.en u j).tick.outs,bag:=bag' } H D R:=by
  obtain ⟨k,hk,e⟩:=back T hj
  have huv:u≠T.nb u j:=fun x=>by have:=T.adj u j hj; rw [← x] at this; exact G.irr _ this
  have hd:=h.dir u j k hj hk e
  have hd2:=h.dir (T.nb u j) k j hk (by rw [e]; exact hj) (by rw [e])
  rw [e] at hd2
  have ho:=h.out u j
  refine h.mod hj hk e _ bag' H D R (fun x y f hf=>(hb x y f hf).imp_right fun c=>⟨c.1,c.2.1⟩) rfl (fun _ _ _=>rfl) ?_ ?_ ?_
  · have:=hd.tick (out':=fun f=>(u,T.nb u j,some f) ∈ bag') (fun f hf=>(hb _ _ f hf).imp_right fun c=>c.2.2) (fun f hf=>by rw [ho] at hf; cases hf)
    refine this.congr rfl rfl rfl rfl (fun f hf=>hf) (fun f hf=>?_)
    rcases hb _ _ f hf with c | c
    · exact c
    · exact (huv c.1.symm).elim
  · refine Dir.congr (back:=fun f=>(u,T.nb u j,some f) ∈ bag') ?_ rfl rfl (r:=(S.en u j).tick) rfl rfl (fun f hf=>hf) (fun f hf=>hf)
    refine { hd2 with data:=fun f hf hd=>hd2.data f ?_ hd,acks:=fun f hf hd=>?_ }
    · rcases hb _ _ f hf with c | c
      · exact c
      · exact (huv c.1.symm).elim
    · rcases hb _ _ f hf with c | c
      · exact hd2.acks f c hd
      · rcases show_mem _ _ f c.2.2 with c | ⟨i,m,_,_,rfl⟩
        · rw [ho] at c; cases c
        · cases hd
  · obtain ⟨chan,n1,n2⟩:=h.net
    refine ⟨chan,n1,fun x y z hy hz hx=>?_⟩
    rw [n2 x y z hy hz hx]
    have:(upd2 S.en u j (S.en u j).tick.outs (T.nb x y) z).await=(S.en (T.nb x y) z).await:=by
      simp only [upd2]; split
      · rename_i c; rw [c.1,c.2]; rfl
      · rfl
    rw [this]
theorem Dir.await_le {s r:En} {out back:Fr.Frm→Prop} {H:List Fr.Msg} (h:Dir s r out back H):r.await≤H.length:=by
  have:=h.hi; have:=h.len; have:=shown_le s; omega
theorem LInv.send {G : Gr} {T : Top G} {S : LS} {H D R : Nat → Nat → List Fr.Msg} (h : LInv G T S H D R) {u j : Nat} (hj : j < T.dg u) {m : Fr.Msg} {r : List Fr.Msg} (hr : R u (T.nb u j) = m :: r) (bag' : List (Nat × Nat × Option Fr.Frm))
    (hb:∀ x y f,(x,y,some f) ∈ bag'→(x,y,some f) ∈ S.bag∨(x=u∧y=T.nb u j∧f ∈ ((S.en u j).send m).out)) :
    LInv G T { S with en:=upd2 S.en u j ((S.en u j).send m).outs,bag:=bag' } (upd2 H u (T.nb u j) (H u (T.nb u j)++[m])) D (upd2 R u (T.nb u j) r):=by
  obtain ⟨k,hk,e⟩:=back T hj
  have huv:u≠T.nb u j:=fun x=>by have:=T.adj u j hj; rw [← x] at this; exact G.irr _ this
  have hd:=h.dir u j k hj hk e
  have hd2:=h.dir (T.nb u j) k j hk (by rw [e]; exact hj) (by rw [e])
  rw [e] at hd2
  have ho:=h.out u j
  have eH:upd2 H u (T.nb u j) (H u (T.nb u j)++[m]) u (T.nb u j)=H u (T.nb u j)++[m]:=by simp [upd2]
  refine h.mod hj hk e _ bag' _ D _ (fun x y f hf=>(hb x y f hf).imp_right fun c=>⟨c.1,c.2.1⟩) rfl (fun x y c=>by simp only [upd2,if_neg c]) ?_ ?_ ?_
  · rw [eH]
    have:=hd.send m (out':=fun f=>(u,T.nb u j,some f) ∈ bag') (fun f hf=>(hb _ _ f hf).imp_right fun c=>c.2.2) (fun f hf=>by rw [ho] at hf; cases hf)
    refine this.congr rfl rfl rfl rfl (fun f hf=>hf) (fun f hf=>?_)
    rcases hb _ _ f hf with c | c
    · exact c
    · exact (huv c.1.symm).elim
  · refine Dir.congr (back:=fun f=>(u,T.nb u j,some f) ∈ bag') ?_ rfl rfl (r:=(S.en u j).send m) rfl rfl (fun f hf=>hf) (fun f hf=>hf)
    refine { hd2 with data:=fun f hf hd=>hd2.data f ?_ hd,acks:=fun f hf hd=>?_ }
    · rcases hb _ _ f hf with c | c
      · exact c
      · exact (huv c.1.symm).elim
    · rcases hb _ _ f hf with c | c
      · exact hd2.acks f c hd
      · rcases show_mem _ _ f c.2.2 with c | ⟨i,x,_,_,rfl⟩
        · have c':f ∈ (S.en u j).out:=c
          rw [ho] at c'; cases c'
        · cases hd
  · obtain ⟨chan,n1,n2⟩:=h.net
    refine ⟨chan,n1,fun x y z hy hz hx=>?_⟩
    rw [n2 x y z hy hz hx]
    have e1:(upd2 S.en u j ((S.en u j).send m).outs (T.nb x y) z).await=(S.en (T.nb x y) z).await:=by
      simp only [upd2]; split
      · rename_i c; rw [c.1,c.2]; rfl
      · rfl
    rw [e1]
    congr 1
    by_cases c:x=u∧T.nb x y=T.nb u j
    · obtain ⟨rfl,c⟩:=c
      have:=T.inj _ _ _ hy hj c
      subst this
      have:z=k:=T.inj _ _ _ hz hk (hx.trans e.symm)
      subst this
      have hl:=hd.await_le
      rw [eH,hr]
      simp only [upd2,and_self,if_true]
      rw [List.drop_append_of_le_length hl]
      simp
    · simp only [upd2,if_neg c]
theorem LInv.came {G : Gr} {T : Top G} {S : LS} {H D R : Nat → Nat → List Fr.Msg} (h : LInv G T S H D R) {v k : Nat} (hk : k < T.dg v) {f : Fr.Frm} (hf : (T.nb v k, v, some f) ∈ S.bag) (hfd : f.data = true) (bag' : List (Nat × Nat × Option Fr.Frm))
    (hb:∀ x y g,(x,y,some g) ∈ bag'→(x,y,some g) ∈ S.bag∨(x=v∧y=T.nb v k∧g ∈ ((S.en v k).came f.seq f.m).out)) :
    LInv G T { S with en:=upd2 S.en v k ((S.en v k).came f.seq f.m).outs,bag:=bag' } H (upd2 D (T.nb v k) v (D (T.nb v k) v++(S.en v k).told f.seq f.m)) R:=by
  obtain ⟨j,hj,e⟩:=back T hk
  have huv:v≠T.nb v k:=fun x=>by have:=T.adj v k hk; rw [← x] at this; exact G.irr _ this
  have hd:=h.dir v k j hk hj e
  have hd2:=h.dir (T.nb v k) j k hj (by rw [e]; exact hk) (by rw [e])
  rw [e] at hd2
  have ho:=h.out v k
  have hxf:=hd2.data f hf hfd
  have hcm:=hd2.came (back':=fun g=>(v,T.nb v k,some g) ∈ bag') f.seq f.m hxf.1 hxf.2 (fun g hg=>(hb _ _ g hg).imp_right fun c=>c.2.2) (fun g hg=>by rw [ho] at hg; cases hg)
  have k1:((S.en v k).came f.seq f.m).first=(S.en v k).first:=by
    unfold En.came En.answer En.take En.keep
    repeat' split
    all_goals rfl
  have k2:((S.en v k).came f.seq f.m).wait=(S.en v k).wait:=by
    unfold En.came En.answer En.take En.keep
    repeat' split
    all_goals rfl
  have k3:∀ g ∈ ((S.en v k).came f.seq f.m).out,g.data=false:=fun g hg=>by
    have h1:((S.en v k).keep f.seq f.m).take.out=[]:=by
      unfold En.take En.keep
      repeat' split
      all_goals exact ho
    unfold En.came En.answer at hg
    split at hg
    · simp [h1] at hg; rw [hg]
    · rw [h1] at hg; cases hg
  refine h.mod hk hj e _ bag' H _ R (fun x y g hg=>(hb x y g hg).imp_right fun c=>⟨c.1,c.2.1⟩) rfl (fun _ _ _=>rfl) ?_ ?_ ?_
  · refine Dir.congr (s:=S.en v k) (out:=fun g=>(v,T.nb v k,some g) ∈ bag') ?_ k1 k2 rfl rfl (fun g hg=>hg) (fun g hg=>hg)
    refine { hd with data:=fun g hg hgd=>hd.data g ?_ hgd,acks:=fun g hg hgd=>hd.acks g ?_ hgd }
    · rcases hb _ _ g hg with c | c
      · exact c
      · have:=k3 g c.2.2; rw [hgd] at this; cases this
    · rcases hb _ _ g hg with c | c
      · exact c
      · exact (huv c.1.symm).elim
  · refine hcm.1.congr rfl rfl rfl rfl (fun g hg=>?_) (fun g hg=>hg)
    rcases hb _ _ g hg with c | c
    · exact c
    · exact (huv c.1.symm).elim
  · obtain ⟨chan,n1,n2⟩:=h.net
    refine ⟨chan,n1,fun x y z hy hz hx=>?_⟩
    rw [n2 x y z hy hz hx]
    congr 1
    by_cases c:T.nb x y=v∧z=k
    · obtain ⟨c,rfl⟩:=c
      have hxu:x=T.nb v z:=by rw [← hx,c]
      subst hxu
      rw [c]
      have e1:(upd2 S.en v z ((S.en v z).came f.seq f.m).outs v z).await=((S.en v z).came f.seq f.m).await:=by simp [upd2]; rfl
      rw [e1,hcm.2.2]
      simp [upd2]
    · have e1:upd2 S.en v k ((S.en v k).came f.seq f.m).outs (T.nb x y) z=S.en (T.nb x y) z:=by simp only [upd2,if_neg c]
      have n3:¬ (x=T.nb v k∧T.nb x y=v):=fun c2=>by
        obtain ⟨ca,cb⟩:=c2
        refine c ⟨cb,T.inj v z k (by rw [← cb]; exact hz) hk ?_⟩
        rw [← ca,← cb]; exact hx
      rw [e1]
      simp only [upd2,if_neg n3]
theorem LInv.ack {G : Gr} {T : Top G} {S : LS} {H D R : Nat → Nat → List Fr.Msg} (h : LInv G T S H D R) {v k : Nat} (hk : k < T.dg v) {f : Fr.Frm} (hf : (T.nb v k, v, some f) ∈ S.bag) (hfd : f.data = false) (bag' : List (Nat × Nat × Option Fr.Frm))
    (hb:∀ x y g,(x,y,some g) ∈ bag'→(x,y,some g) ∈ S.bag∨(x=v∧y=T.nb v k∧g ∈ ((S.en v k).ack f.seq).out)) :
    LInv G T { S with en:=upd2 S.en v k ((S.en v k).ack f.seq).outs,bag:=bag' } H D R:=by
  obtain ⟨j,hj,e⟩:=back T hk
  have huv:v≠T.nb v k:=fun x=>by have:=T.adj v k hk; rw [← x] at this; exact G.irr _ this
  have hd:=h.dir v k j hk hj e
  have hd2:=h.dir (T.nb v k) j k hj (by rw [e]; exact hk) (by rw [e])
  rw [e] at hd2
  have ho:=h.out v k
  have hx:=hd.acks f hf hfd
  have k1:((S.en v k).ack f.seq).await=(S.en v k).await:=by unfold En.ack; split <;> rfl
  have k2:((S.en v k).ack f.seq).kept=(S.en v k).kept:=by unfold En.ack; split <;> rfl
  have k3:∀ g ∈ ((S.en v k).ack f.seq).out,g.data=true:=fun g hg=>by
    unfold En.ack at hg
    split at hg
    · rcases show_mem _ _ g hg with c | ⟨i,m,_,_,rfl⟩
      · have c':g ∈ (S.en v k).out:=c
        rw [ho] at c'; cases c'
      · rfl
    · rw [ho] at hg; cases hg
  refine h.mod hk hj e _ bag' H D R (fun x y g hg=>(hb x y g hg).imp_right fun c=>⟨c.1,c.2.1⟩) rfl (fun _ _ _=>rfl) ?_ ?_ ?_
  · have:=hd.ack (out':=fun g=>(v,T.nb v k,some g) ∈ bag') f.seq hx (fun g hg=>(hb _ _ g hg).imp_right fun c=>c.2.2) (fun g hg=>by rw [ho] at hg; cases hg)
    refine this.congr rfl rfl rfl rfl (fun g hg=>hg) (fun g hg=>?_)
    rcases hb _ _ g hg with c | c
    · exact c
    · exact (huv c.1.symm).elim
  · refine Dir.congr (r:=S.en v k) (back:=fun g=>(v,T.nb v k,some g) ∈ bag') ?_ rfl rfl k1 k2 (fun g hg=>hg) (fun g hg=>hg)
    refine { hd2 with data:=fun g hg hgd=>hd2.data g ?_ hgd,acks:=fun g hg hgd=>hd2.acks g ?_ hgd }
    · rcases hb _ _ g hg with c | c
      · exact c
      · exact (huv c.1.symm).elim
    · rcases hb _ _ g hg with c | c
      · exact c
      · have:=k3 g c.2.2; rw [hgd] at this; cases this
  · obtain ⟨chan,n1,n2⟩:=h.net
    refine ⟨chan,n1,fun x y z hy hz hx=>?_⟩
    rw [n2 x y z hy hz hx]
    have:(upd2 S.en v k ((S.en v k).ack f.seq).outs (T.nb x y) z).await=(S.en (T.nb x y) z).await:=by
      simp only [upd2]; split
      · rename_i c; rw [c.1,c.2]; exact k1
      · rfl
    rw [this]
end Go.Proofs.YtlfijfodklhplaaGreat.Ghs
