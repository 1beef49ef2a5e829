import Derived.Test.YtlfijfodklhplaaGreatSf47
set_option linter.unusedVariables false
set_option linter.unusedSimpArgs false
namespace Go.Proofs.YtlfijfodklhplaaGreat.Ghs
open Go.RowKit
open NMsg
def sentF (l:List (Nat × Fr.Msg)) (j:Nat):List Fr.Msg:=(l.filter (fun c=>c.1 == j)).map (fun c=>c.2)
theorem sentTo_F (n:Nod) (j:Nat):sentTo n j=(sentF n.sent j).map typed:=by simp [sentTo,sentF,List.map_map]
theorem LInv.wake {G:Gr} {T:Top G} {S:LS} {H D R:Nat→Nat→List Fr.Msg} (h:LInv G T S H D R) (u:Nat):LInv G T { S with nodes:=upd S.nodes u (S.nodes u).wake } H D R:=by
  obtain ⟨chan,n1,n2⟩:=h.net
  exact ⟨h.dir,h.out,chan,n1.wake u,n2⟩
theorem LInv.take {G:Gr} {T:Top G} (hsm:G.n < 2 ^ 30) (hdg:∀ u,T.dg u < 2 ^ 30) {S:LS} {H D R:Nat→Nat→List Fr.Msg} (h:LInv G T S H D R) {v k:Nat} (hk:k < T.dg v) {m:Fr.Msg} {r:List Fr.Msg} (hD:D (T.nb v k) v=m :: r) :
    LInv G T { S with nodes:=upd S.nodes v ((S.nodes v).take k m) } H (upd2 D (T.nb v k) v r) R∧(S.nodes v).level≤((S.nodes v).take k m).level:=by
  obtain ⟨chan,n1,n2⟩:=h.net
  obtain ⟨j,hj,e⟩:=back T hk
  have hc:=n2 (T.nb v k) j k hj (by rw [e]; exact hk) (by rw [e])
  rw [e,hD] at hc
  have hc':chan (T.nb v k) v=typed m :: (r++List.drop (S.en v k).await (H (T.nb v k) v)++R (T.nb v k) v).map typed:=by rw [hc]; simp
  refine ⟨⟨h.dir,h.out,_,n1.take hsm hdg hk hc',fun x y z hy hz hx=>?_⟩,n1.take_lev hsm hdg hk hc'⟩
  by_cases c:x=T.nb v k∧T.nb x y=v
  · obtain ⟨rfl,c⟩:=c
    rw [c]
    have hz':z=k:=T.inj v z k (by rw [← c]; exact hz) hk (by rw [c] at hx; exact hx)
    subst hz'
    simp [upd2]
  · simp only [upd2,if_neg c]
    exact n2 x y z hy hz hx
theorem LInv.flush {G:Gr} {T:Top G} {S:LS} {H D R R':Nat→Nat→List Fr.Msg} (h:LInv G T S H D R) {u:Nat} (h1:∀ j,j < T.dg u→R' u (T.nb u j)=R u (T.nb u j)++sentF (S.nodes u).sent j) (h2:∀ x,x≠u→R' x=R x) :
    LInv G T { S with nodes:=upd S.nodes u { S.nodes u with sent:=[] } } H D R':=by
  obtain ⟨chan,n1,n2⟩:=h.net
  refine ⟨h.dir,h.out,fun x y=>if x=u then chan u y++((R' u y).drop (R u y).length).map typed else chan x y,n1.flush (fun j hj=>?_) (fun x hx=>?_),fun x y z hy hz hx=>?_⟩
  · rw [if_pos rfl,h1 j hj,sentTo_F]; simp
  · funext y; rw [if_neg hx]
  · dsimp only
    by_cases c:x=u
    · subst c
      rw [if_pos rfl,n2 x y z hy hz hx,h1 y hy]
      simp
    · rw [if_neg c,h2 x c]; exact n2 x y z hy hz hx
theorem LInv.start (G:Gr) (T:Top G) (S:LS) (hn:∀ u,S.nodes u=Nod.new ((List.range (T.dg u)).map (fun j=>G.w u (T.nb u j)))) (he:∀ u j,S.en u j=En.new) (hb:S.bag=[]):LInv G T S (fun _ _=>[]) (fun _ _=>[]) (fun _ _=>[]):=by
  refine ⟨fun u j k _ _ _=>?_,fun u j=>by rw [he]; rfl,_,Net.start G T S.nodes hn,fun x y z _ _ _=>by simp⟩
  rw [he,he,hb]
  exact Dir.new.less (fun f hf=>by cases hf) (fun f hf=>by cases hf)
def LS.sendOne {G:Gr} (T:Top G) (S S':LS) (u:Nat) (c:Nat × Fr.Msg):Prop :=
  S'.nodes=S.nodes∧S'.en=upd2 S.en u c.1 ((S.en u c.1).send c.2).outs∧∀ x y f,(x,y,some f) ∈ S'.bag→(x,y,some f) ∈ S.bag∨(x=u∧y=T.nb u c.1∧f ∈ ((S.en u c.1).send c.2).out)
inductive LS.sends {G : Gr} (T : Top G) (u : Nat) : LS → List (Nat × Fr.Msg) → LS → Prop
  | nil (S:LS):LS.sends T u S [] S
  | cons {S S1 S2:LS} {c:Nat × Fr.Msg} {l:List (Nat × Fr.Msg)}:LS.sendOne T S S1 u c→LS.sends T u S1 l S2→LS.sends T u S (c :: l) S2
theorem sentF_cons (c:Nat × Fr.Msg) (l:List (Nat × Fr.Msg)) (j:Nat):sentF (c :: l) j=(if c.1=j then [c.2] else [])++sentF l j:=by
  by_cases e:c.1=j <;> simp [sentF,e]
theorem LInv.sends {G:Gr} {T:Top G} {u:Nat} {S S':LS} {l:List (Nat × Fr.Msg)} (hs:LS.sends T u S l S'):∀ {H D R:Nat→Nat→List Fr.Msg},LInv G T S H D R→(∀ c ∈ l,c.1 < T.dg u)→(∀ j,j < T.dg u→R u (T.nb u j)=sentF l j)→(∀ x,x≠u→R x=fun _=>[]) →
    ∃ H' R',LInv G T S' H' D R'∧(∀ x j,j < T.dg x→R' x (T.nb x j)=[])∧(∀ j,j < T.dg u→H' u (T.nb u j)=H u (T.nb u j)++sentF l j)∧S'.nodes=S.nodes:=by
  induction hs with
  | nil S =>
    intro H D R h h1 h2 h3
    refine ⟨H,R,h,fun x j hj=>?_,fun j hj=>by simp [sentF],rfl⟩
    by_cases e:x=u
    · subst e; rw [h2 j hj]; rfl
    · rw [h3 x e]
  | @cons S S1 S2 c l hone _ ih =>
    intro H D R h h1 h2 h3
    obtain ⟨o1,o2,o3⟩:=hone
    have hc:=h1 c (by simp)
    have hr:R u (T.nb u c.1)=c.2 :: sentF l c.1:=by rw [h2 _ hc,sentF_cons]; simp
    have h4:=h.send hc hr S1.bag o3
    have e1:({ S with en:=upd2 S.en u c.1 ((S.en u c.1).send c.2).outs,bag:=S1.bag }:LS)=S1:=by
      cases S1; simp at o1 o2 ⊢; exact ⟨o1.symm,o2.symm⟩
    rw [e1] at h4
    obtain ⟨H',R',a1,a2,a3,a4⟩:=ih h4 (fun d hd=>h1 d (by simp [hd])) (fun j hj=>by
      by_cases e:j=c.1
      · subst e; simp [upd2]
      · have:T.nb u j≠T.nb u c.1:=fun x=>e (T.inj _ _ _ hj hc x)
        simp only [upd2,this,and_false,if_false]
        rw [h2 j hj,sentF_cons,if_neg (fun x=>e x.symm)]; rfl) (fun x hx=>by funext y; simp [upd2,hx,h3 x hx])
    refine ⟨H',R',a1,a2,fun j hj=>?_,a4.trans o1⟩
    rw [a3 j hj,sentF_cons]
    by_cases e:j=c.1
    · subst e; simp [upd2]
    · have:T.nb u j≠T.nb u c.1:=fun x=>e (T.inj _ _ _ hj hc x)
      simp only [upd2,this,and_false,if_false]
      rw [if_neg (fun x=>e x.symm)]; rfl
def no2:Nat→Nat→List Fr.Msg:=fun _ _=>[]
theorem LInv.Rcongr {G:Gr} {T:Top G} {S:LS} {H D R R':Nat→Nat→List Fr.Msg} (h:LInv G T S H D R) (e:∀ x j,j < T.dg x→R' x (T.nb x j)=R x (T.nb x j)):LInv G T S H D R':=by
  obtain ⟨chan,n1,n2⟩:=h.net
  exact ⟨h.dir,h.out,chan,n1,fun x y z hy hz hx=>by rw [n2 x y z hy hz hx,e x y hy]⟩
theorem LInv.Dcongr {G:Gr} {T:Top G} {S:LS} {H D D' R:Nat→Nat→List Fr.Msg} (h:LInv G T S H D R) (e:∀ x j,j < T.dg x→D' x (T.nb x j)=D x (T.nb x j)):LInv G T S H D' R:=by
  obtain ⟨chan,n1,n2⟩:=h.net
  exact ⟨h.dir,h.out,chan,n1,fun x y z hy hz hx=>by rw [n2 x y z hy hz hx,e x y hy]⟩
open Classical in
theorem LInv.post {G:Gr} {T:Top G} {S S':LS} {H D:Nat→Nat→List Fr.Msg} (h:LInv G T S H D no2) {u:Nat} (hl:∀ c ∈ (S.nodes u).sent,c.1 < T.dg u) (hs:LS.sends T u { S with nodes:=upd S.nodes u { S.nodes u with sent:=[] } } (S.nodes u).sent S') :
    ∃ H',LInv G T S' H' D no2∧(∀ j,j < T.dg u→H' u (T.nb u j)=H u (T.nb u j)++sentF (S.nodes u).sent j)∧S'.nodes=upd S.nodes u { S.nodes u with sent:=[] }:=by
  obtain ⟨R,hR1,hR2⟩:∃ R:Nat→Nat→List Fr.Msg,(∀ j,j < T.dg u→R u (T.nb u j)=sentF (S.nodes u).sent j)∧∀ x,x≠u→R x=fun _=>[]:=by
    refine ⟨fun x y=>if x=u then (if hy:∃ j,j < T.dg u∧T.nb u j=y then sentF (S.nodes u).sent hy.choose else []) else [],fun j hj=>?_,fun x hx=>?_⟩
    · have hy:∃ i,i < T.dg u∧T.nb u i=T.nb u j:=⟨j,hj,rfl⟩
      dsimp only
      rw [if_pos rfl,dif_pos hy,T.inj u _ j hy.choose_spec.1 hj hy.choose_spec.2]
    · funext y; dsimp only; rw [if_neg hx]
  have h1:=h.flush (u:=u) (R':=R) (fun j hj=>by rw [hR1 j hj]; simp [no2]) (fun x hx=>by rw [hR2 x hx]; rfl)
  obtain ⟨H',R',a1,a2,a3,a4⟩:=LInv.sends hs h1 hl hR1 hR2
  exact ⟨H',a1.Rcongr (fun x j hj=>by rw [a2 x j hj]; rfl),a3,a4⟩
inductive LS.takes {G : Gr} (T : Top G) (v k : Nat) : LS → List Fr.Msg → LS → Prop
  | nil (S:LS):LS.takes T v k S [] S
  | cons {S S1 S2:LS} {m:Fr.Msg} {l:List Fr.Msg}:(∀ c ∈ ((S.nodes v).take k m).sent,c.1 < T.dg v)→LS.sends T v { S with nodes:=upd S.nodes v { (S.nodes v).take k m with sent:=[] } } ((S.nodes v).take k m).sent S1→LS.takes T v k S1 l S2→LS.takes T v k S (m :: l) S2
theorem LInv.takes {G:Gr} {T:Top G} (hsm:G.n < 2 ^ 30) (hdg:∀ u,T.dg u < 2 ^ 30) {v k:Nat} (hk:k < T.dg v) {S S':LS} {l:List Fr.Msg} (hs:LS.takes T v k S l S'):∀ {H:Nat→Nat→List Fr.Msg},LInv G T S H (upd2 no2 (T.nb v k) v l) no2 →
    ∃ H',LInv G T S' H' no2 no2∧∀ u,(S.nodes u).level≤(S'.nodes u).level:=by
  induction hs with
  | nil S =>
    intro H h
    refine ⟨H,h.Dcongr (fun x j hj=>?_),fun u=>Nat.le_refl _⟩
    simp only [upd2,no2]; split <;> rfl
  | @cons S S1 S2 m l hl hsend _ ih =>
    intro H h
    obtain ⟨h1,hlev⟩:=h.take hsm hdg hk (m:=m) (r:=l) (by simp [upd2])
    have eD:upd2 (upd2 no2 (T.nb v k) v (m :: l)) (T.nb v k) v l=upd2 no2 (T.nb v k) v l:=by
      funext x y; simp only [upd2]; split <;> rfl
    rw [eD] at h1
    have e1:(upd S.nodes v ((S.nodes v).take k m)) v=(S.nodes v).take k m:=upd_at _ _ _
    have h2:=h1.post (u:=v) (S':=S1) (by dsimp only; rw [e1]; exact hl) (by dsimp only; rw [e1,upd_upd]; exact hsend)
    obtain ⟨H1,a1,a2,a3⟩:=h2
    obtain ⟨H',b1,b2⟩:=ih a1
    refine ⟨H',b1,fun u=>Nat.le_trans ?_ (b2 u)⟩
    rw [a3]
    dsimp only
    rw [e1,upd_upd]
    by_cases e:u=v
    · subst e; rw [upd_at]; exact hlev
    · rw [upd_ne _ _ e]; exact Nat.le_refl _
theorem LInv.comes {G : Gr} {T : Top G} (hsm : G.n < 2 ^ 30) (hdg : ∀ u, T.dg u < 2 ^ 30) {S S' : LS} {H : Nat → Nat → List Fr.Msg} (h : LInv G T S H no2 no2) {v k : Nat} (hk : k < T.dg v) {f : Fr.Frm} (hf : (T.nb v k, v, some f) ∈ S.bag) (hfd : f.data = true) (bag' : List (Nat × Nat × Option Fr.Frm))
    (hb:∀ x y g,(x,y,some g) ∈ bag'→(x,y,some g) ∈ S.bag∨(x=v∧y=T.nb v k∧g ∈ ((S.en v k).came f.seq f.m).out))
    (hs:LS.takes T v k { S with en:=upd2 S.en v k ((S.en v k).came f.seq f.m).outs,bag:=bag' } ((S.en v k).told f.seq f.m) S') :
    ∃ H',LInv G T S' H' no2 no2∧∀ u,(S.nodes u).level≤(S'.nodes u).level:=by
  have h1:=h.came hk hf hfd bag' hb
  have e:upd2 no2 (T.nb v k) v (no2 (T.nb v k) v++(S.en v k).told f.seq f.m)=upd2 no2 (T.nb v k) v ((S.en v k).told f.seq f.m):=rfl
  rw [e] at h1
  obtain ⟨H',a1,a2⟩:=LInv.takes hsm hdg hk hs h1
  exact ⟨H',a1,a2⟩
theorem nodup_sub_len {α : Type} : ∀ (l m : List α), l.Nodup → (∀ x ∈ l, x ∈ m) → l.length ≤ m.length
  | [],m,_,_=>Nat.zero_le _
  | a :: l,m,h1,h2=>by
    obtain ⟨X,Y,rfl⟩:=List.append_of_mem (h2 a (by simp))
    have h3:=List.nodup_cons.1 h1
    have:=nodup_sub_len l (X++Y) h3.2 (fun x hx=>by
      have h4:=h2 x (by simp [hx])
      have h5:x≠a:=fun e=>h3.1 (e ▸ hx)
      simp at h4 ⊢
      rcases h4 with h4 | h4 | h4
      · exact Or.inl h4
      · exact (h5 h4).elim
      · exact Or.inr h4)
    simp at this ⊢
    omega
theorem map_nodup {α β : Type} (f : α → β) : ∀ (l : List α), l.Nodup → (∀ x ∈ l, ∀ y ∈ l, f x = f y → x = y) → (l.map f).Nodup
  | [],_,_=>by simp
  | a :: l,h1,h2=>by
    have h3:=List.nodup_cons.1 h1
    rw [List.map_cons]
    refine List.nodup_cons.2 ⟨fun hm=>?_,map_nodup f l h3.2 (fun x hx y hy=>h2 x (by simp [hx]) y (by simp [hy]))⟩
    obtain ⟨b,hb,e⟩:=List.mem_map.1 hm
    have:=h2 b (by simp [hb]) a (by simp) e
    exact h3.1 (this ▸ hb)
open Classical in
theorem span_len {n:Nat} {E:List E3} {c:Nat} (hc:c < n) (p:Nat→Nat) (h1:∀ z,z < n→z≠c→∃ e ∈ E,(e.a=z∧e.b=p z)∨(e.a=p z∧e.b=z)) (h2:∀ z z',z < n→z' < n→z≠c→z'≠c→¬ (p z=z'∧p z'=z)):n≤E.length + 1:=by
  let f:Nat→Option E3:=fun z=>if h:∃ e ∈ E,(e.a=z∧e.b=p z)∨(e.a=p z∧e.b=z) then some h.choose else none
  have hf:∀ z,z < n→z≠c→∃ e,f z=some e∧e ∈ E∧((e.a=z∧e.b=p z)∨(e.a=p z∧e.b=z)):=fun z z1 z2=>by
    have h:=h1 z z1 z2
    exact ⟨h.choose,dif_pos h,h.choose_spec.1,h.choose_spec.2⟩
  have hm:∀ z,z ∈ (List.range n).erase c ↔ z < n∧z≠c:=fun z=>by
    rw [List.Nodup.mem_erase_iff List.nodup_range,List.mem_range]; exact And.comm
  have hnd:(((List.range n).erase c).map f).Nodup:=by
    refine map_nodup f _ (List.Nodup.erase _ List.nodup_range) (fun x hx y hy e=>?_)
    obtain ⟨x1,x2⟩:=(hm x).1 hx
    obtain ⟨y1,y2⟩:=(hm y).1 hy
    obtain ⟨e1,a1,a2,a3⟩:=hf x x1 x2
    obtain ⟨e2,b1,b2,b3⟩:=hf y y1 y2
    rw [a1,b1] at e
    cases e
    apply Classical.byContradiction
    intro hne
    have:=h2 x y x1 y1 x2 y2
    omega
  have hlen:=nodup_sub_len _ (E.map some) hnd (fun o ho=>by
    obtain ⟨z,hz,rfl⟩:=List.mem_map.1 ho
    obtain ⟨z1,z2⟩:=(hm z).1 hz
    obtain ⟨e,a1,a2,a3⟩:=hf z z1 z2
    rw [a1]
    exact List.mem_map.2 ⟨e,a2,rfl⟩)
  rw [List.length_map,List.length_map,List.length_erase,List.length_range] at hlen
  split at hlen <;> omega
def inOrder (es:List E3):List E3:=(List.range' 1 1000).flatMap (fun w=>es.filter (fun e=>e.w == w))
theorem inOrder_mem {es:List E3} (h:∀ e ∈ es,1≤e.w∧e.w≤1000) (e:E3):e ∈ inOrder es ↔ e ∈ es:=by
  unfold inOrder
  rw [List.mem_flatMap]
  constructor
  · rintro ⟨w,_,h2⟩; exact (List.mem_filter.1 h2).1
  · intro he
    have:=h e he
    refine ⟨e.w,List.mem_range'_1.2 (by omega),List.mem_filter.2 ⟨he,by simp⟩⟩
theorem inOrder_inc {es:List E3} (h:es.Pairwise (fun x y=>x.w≠y.w)):(inOrder es).Pairwise (fun x y=>x.w < y.w):=by
  unfold inOrder
  rw [List.pairwise_flatMap]
  constructor
  · intro w _
    refine List.Pairwise.imp_of_mem ?_ (h.filter _)
    intro a b ha hb hne
    have h1:=(List.mem_filter.1 ha).2
    have h2:=(List.mem_filter.1 hb).2
    simp at h1 h2
    omega
  · refine List.Pairwise.imp ?_ List.pairwise_lt_range'
    intro a b hab x hx y hy
    have h1:=(List.mem_filter.1 hx).2
    have h2:=(List.mem_filter.1 hy).2
    simp at h1 h2
    omega
theorem krs_loop (w : Nat) : ∀ (es : List E3) (c : (Nat → Nat) × List E3), es.foldl (fun c e => if e.w = w then krOne c e else c) c = (es.filter (fun e => e.w == w)).foldl krOne c
  | [],c=>rfl
  | e :: es,c=>by
    rw [List.foldl_cons,krs_loop w es]
    by_cases h:e.w=w
    · simp [h]
    · simp [h]
theorem krs_loops (es:List E3):(List.range' 1 1000).foldl (fun c w=>es.foldl (fun c e=>if e.w=w then krOne c e else c) c) (fun k=>k,[])=krs (inOrder es):=by
  unfold krs inOrder
  rw [List.foldl_flatMap]
  congr 1
  funext c w
  exact krs_loop w es c
end Go.Proofs.YtlfijfodklhplaaGreat.Ghs
