import Derived.Test.YtlfijfodklhplaaGreatSf07
import Derived.Test.YtlfijfodklhplaaGreatSf02
set_option linter.unusedVariables false
set_option linter.unusedSimpArgs false
namespace Go.Proofs.YtlfijfodklhplaaGreat
open Go.RowKit
set_option maxHeartbeats 1000000 in
theorem next_any (b o n l wc:Nat) (wa:Option Addr) (w:World) (h0:w.cell? ⟨b,o,none⟩=some (.int .i64 (n:Int))) (h1:w.cell? ⟨b,o + 1,none⟩=some (.slice wa l wc)) (hm:(n:Int) + (l:Int)≤65536) :
    Calls Tryz.prog 162 #[.pointer (some ⟨b,o,none⟩)] w fun e w'=>e=.returned (.int .i64 ((n:Int) + (l:Int)))∧Keep nil w w':=by
  go_enter Tryz.func162,Tryz.ntmps162
  go_wp2_with fail
  go_quiet (fail)
  all_goals
    go_wp2
    go_ret
    exact ⟨rfl,Keep.refl _ _ |>.drewN _⟩
set_option maxHeartbeats 1000000 in
theorem shown_any (b o l wc:Nat) (wa:Option Addr) (w:World) (h1:w.cell? ⟨b,o + 1,none⟩=some (.slice wa l wc)) (hm:(l:Int)≤65536) :
    Calls Tryz.prog 163 #[.pointer (some ⟨b,o,none⟩)] w fun e w'=>e=.returned (.int .i64 ((min l 4:Nat):Int))∧w=w':=by
  go_enter Tryz.func163,Tryz.ntmps163
  go_wp2
  all_goals
    go_ret
    exact ⟨ret_int (by omega),rfl⟩
abbrev mv (m:Fr.Msg):Value:=.agg #[.int .i64 (m.kind:Int),.int .i64 (m.level:Int),.int .i64 (m.name:Int),.bool m.finding]
set_option maxHeartbeats 1000000 in
theorem sentAdd_any (b o n l wc:Nat) (wa:Option Addr) (vs:List Value) (m:Fr.Msg) (w:World) (h1:w.cell? ⟨b,o + 1,none⟩=some (.slice wa l wc)) (hf:w.frozen? ⟨b,o + 1,none⟩=false) (hr:RV w 76 4 wa l wc vs) (hb:¬ inB wa b) (hm:(l:Int)≤65536) :
    Calls Tryz.prog 164 #[.pointer (some ⟨b,o,none⟩),mv m] w fun e w'=>e=.returned (.tuple #[])∧∃ a' c' w1,RV w1 76 4 a' (l + 1) c' (vs++mcell m)∧(∀ g,inB a' g→inB wa g∨w.heap.size≤g)∧Keep (inB wa) w w1∧w'=w1.setCell ⟨b,o + 1,none⟩ (.slice a' (l + 1) c'):=by
  have hbl:b < w.heap.size:=World.block_lt_of_cell? w _ h1
  go_enter Tryz.func164,Tryz.ntmps164
  go_wp2_with fail
  go_region_law (refine step_append_rv rfl (.tmp 8) (.tmp 10) 112 rfl 76 (.agg #[.int .i64 0,.int .i64 0,.int .i64 0,.bool false]) 4 32 Tryz.underlying112 msg_info rfl wa l wc rfl vs ((hr.alloc _).drew.alloc _) ⟨w.heap.size + 1,0,none⟩ 1 1 (by omega) rfl (mcell m) rfl (cells_list (w.alloc (.cells (mcell m).toArray 76)).drew (mcell m) 76 _ (by simp)) (by simpa [mcells] using mcells_one [m]) (by omega) (by omega) ?_; intro a' c' w1 hr1 hg1 hk1; have hk2:Keep (inB wa) w w1:=((((Keep.refl _ w).alloc _).drew).alloc _).trans hk1; have q1:=(hk2.cell b (o + 1) hbl hb).trans h1; have q2:=(hk2.frozen b (o + 1) hbl hb).trans hf)
  all_goals
    go_wp2
    go_end0
    exact ⟨rfl,a',c',w1,hr1,fun g hg=>(hg1 g hg).imp id (fun e=>by rw [e]; simp; omega),hk2,rfl⟩
set_option maxHeartbeats 1000000 in
theorem drop_any (b o g wo n k l wc:Nat) (w:World) (h0:w.cell? ⟨b,o,none⟩=some (.int .i64 (n:Int))) (h1:w.cell? ⟨b,o + 1,none⟩=some (.slice (some ⟨g,wo,none⟩) l wc)) (hf0:w.frozen? ⟨b,o,none⟩=false) (hf:w.frozen? ⟨b,o + 1,none⟩=false) (hn:(n:Int)≤65536) (hk:k≤l) (hl:l≤wc) (hl':(l:Int)≤65536) :
    Calls Tryz.prog 197 #[.pointer (some ⟨b,o,none⟩),.int .i64 (k:Int)] w fun e w'=>e=.returned (.tuple #[])∧∃ wo',(wo'=wo + k * 4∨(wc=k∧wo'=wo))∧w'=(w.setCell ⟨b,o,none⟩ (.int .i64 ((n:Int) + (k:Int)))).setCell ⟨b,o + 1,none⟩ (.slice (some ⟨g,wo',none⟩) (l - k) (wc - k)):=by
  by_cases hc:wc=k
  · subst hc
    go_enter Tryz.func197,Tryz.ntmps197
    have hlw:l=wc:=by omega
    subst hlw
    go_wp2
    go_end0
    exact ⟨rfl,wo,Or.inr ⟨trivial,rfl⟩,by simp⟩
  · have hc':¬ wc - k=0:=by omega
    go_enter Tryz.func197,Tryz.ntmps197
    go_wp2
    go_end0
    exact ⟨rfl,wo + k * 4,Or.inl rfl,rfl⟩
set_option maxHeartbeats 1000000 in
theorem frame_any (b o g wo n k l wc : Nat) (m : Fr.Msg) (w : World) (h0 : w.cell? ⟨b, o, none⟩ = some (.int .i64 (n : Int))) (h1 : w.cell? ⟨b, o + 1, none⟩ = some (.slice (some ⟨g, wo, none⟩) l wc)) (hn : (n : Int) ≤ 65536) (hk : k < l) (hl : (l : Int) ≤ 65536)
    (hm:∀ j u,(mcell m)[j]?=some u→w.cell? ⟨g,wo + k * 4 + j,none⟩=some u) :
    Calls Tryz.prog 194 #[.pointer (some ⟨b,o,none⟩),.int .i64 (k:Int)] w fun e w'=>e=.returned (.agg (fc true ((n:Int) + (k:Int)) (m.kind:Int) (m.level:Int) (m.name:Int) m.finding))∧Keep nil w w':=by
  have hbl:b < w.heap.size:=World.block_lt_of_cell? w _ h1
  have m0:=hm 0 _ rfl
  have m1:=hm 1 _ rfl
  have m2:=hm 2 _ rfl
  have m3:=hm 3 _ rfl
  have hgl:g < w.heap.size:=World.block_lt_of_cell? w _ m0
  rw [Nat.add_zero] at m0
  clear hm
  go_enter Tryz.func194,Tryz.ntmps194
  go_wp2_with fail
  go_region
  all_goals
    go_wp2
    refine bodyPost_ret (v:=.agg (fc true ((n:Int) + (k:Int)) (m.kind:Int) (m.level:Int) (m.name:Int) m.finding)) ?_ rfl ⟨rfl,?_⟩
    · simp [results,Tryz.results194,go_sem]
    · exact ((Keep.refl _ _).alloc _).drew
structure Step (w w' : World) (b : Nat) (p p' : Pl) : Prop where
  wri:∀ k,Wri b p' k→Wri b p k∨w.heap.size≤k
  gs:∀ k,k ∈ p'.gs→k ∈ p.gs∨w.heap.size≤k
  keep:Keep (Wri b p) w w'
theorem Step.refl (w:World) (b:Nat) (p:Pl):Step w w b p p:=⟨fun _ h=>Or.inl h,fun _ h=>Or.inl h,Keep.refl _ _⟩
theorem Step.trans {w w1 w2:World} {b:Nat} {p p1 p2:Pl} (h:Step w w1 b p p1) (k:Step w1 w2 b p1 p2):Step w w2 b p p2 :=
  ⟨fun i hi=>(k.wri i hi).elim (fun x=>h.wri i x) (fun x=>Or.inr (Nat.le_trans h.keep.size x)),fun i hi=>(k.gs i hi).elim (fun x=>h.gs i x) (fun x=>Or.inr (Nat.le_trans h.keep.size x)),
    h.keep.trans' k.keep (fun i hi x=>(h.wri i x).elim id (fun y=>by omega))⟩
theorem Step.of_keep {w w1:World} (b:Nat) (p:Pl) (h:Keep nil w w1):Step w w1 b p p:=⟨fun _ h=>Or.inl h,fun _ h=>Or.inl h,h.mono (fun _ _ e=>e.elim)⟩
theorem Mine.cases {b:Nat} {p:Pl} {k:Nat} (h:Mine b p k):Wri b p k∨k ∈ p.gs:=by
  rcases h with h | h | h | h
  · exact Or.inl (Or.inl h)
  · exact Or.inl (Or.inr (Or.inl h))
  · exact Or.inl (Or.inr (Or.inr h))
  · exact Or.inr h
theorem Wri.mine {b:Nat} {p:Pl} {k:Nat} (h:Wri b p k):Mine b p k:=by
  rcases h with h | h | h
  · exact Or.inl h
  · exact Or.inr (Or.inl h)
  · exact Or.inr (Or.inr (Or.inl h))
theorem Step.mine {w w':World} {b:Nat} {p p':Pl} (h:Step w w' b p p'):∀ k,Mine b p' k→Mine b p k∨w.heap.size≤k:=fun k hk =>
  hk.cases.elim (fun x=>(h.wri k x).imp Wri.mine id) (fun x=>(h.gs k x).imp (fun y=>Or.inr (Or.inr (Or.inr y))) id)
theorem ovals_append (gs:List Nat) (l:List Fr.Frm) (h:gs.length=l.length) (g:Nat) (f:Fr.Frm):ovals (gs++[g]) (l++[f])=ovals gs l++[fval g f]:=by
  simp [ovals,List.zipWith_append h]
theorem Rep.out_one {w w1 : World} {c : Array Value} {t : TypeId} {b o : Nat} {e : En} {p : Pl} (h : Rep w c t b o e p) (f : Fr.Frm) (g : Nat) (hf : FrOk f) (hg : Buf w g (Fr.enc f) 10) (hgm : ¬ Mine b p g) (a' : Option Addr) (c' : Nat)
    (hr:RV w1 56 1 a' (e.out.length + 1) c' (ovals p.gs e.out++[fval g f])) (ha:∀ k,inB a' k→inB p.oa k∨w.heap.size≤k) (hk:Keep (inB p.oa) w w1) :
    Rep (w1.setCell ⟨b,o + 23,none⟩ (.slice a' (e.out.length + 1) c')) c t b o { e with out:=e.out++[f] } { p with oa:=a',oc:=c',gs:=p.gs++[g] }:=by
  have hbl:=h.blk.lt
  have ks:Keep (only b) w1 (w1.setCell ⟨b,o + 23,none⟩ (.slice a' (e.out.length + 1) c')):=(Keep.refl (only b) w1).setCell (p:=⟨b,o + 23,none⟩) (fun _=>rfl) _
  have hlt:=h.lt
  have hab:∀ k,inB a' k→k≠b:=fun k hk' e=>(ha k hk').elim (fun x=>h.ob (e ▸ x)) (fun x=>by omega)
  have hl:({ e with out:=e.out++[f] }:En).cells { p with oa:=a',oc:=c',gs:=p.gs++[g] }=(e.cells p).set 23 (.slice a' (e.out.length + 1) c'):=by
    have:=cells_set23 e p h.four (e.out++[f]) a' c' (p.gs++[g])
    rw [← this]; simp
  refine { blk:=?_,fit:=h.fit,four:=h.four,wrow:=?_,orow:=?_,gl:=by simp [h.gl],bufs:=?_,wb:=h.wb,ob:=fun x=>hab b x rfl,wo:=?_,gw:=?_,gn:=?_,wok:=h.wok,most:=h.most,awt:=h.awt,kn:=h.kn,fok:=?_ }
  · rw [hl]
    exact (h.blk.keep hk h.ob).put_at h.len 23 (by rw [cells_len e p h.four]; omega) _
  · exact (h.wrow.keep hk (fun k hw ho=>h.wo k hw ho)).keep ks (fun k hw hb=>h.wb (hb ▸ hw))
  · show RV _ _ _ a' (e.out++[f]).length c' (ovals (p.gs++[g]) (e.out++[f]))
    rw [ovals_append _ _ h.gl,List.length_append]
    exact hr.keep ks (fun k hk'=>hab k hk')
  · intro i g' f' hg' hf'
    have hgw:∀ k,Buf w k (Fr.enc f') 10→¬ inB p.oa k→k≠b→Buf (w1.setCell ⟨b,o + 23,none⟩ (.slice a' (e.out.length + 1) c')) k (Fr.enc f') 10:=fun k hb h1 h2=>(hb.keep hk h1).keep ks h2
    by_cases hi:i < p.gs.length
    · have hi':i < e.out.length:=by have:=h.gl; omega
      rw [List.getElem?_append_left hi] at hg'
      rw [List.getElem?_append_left hi'] at hf'
      have hw:=h.gw g' (List.mem_of_getElem? hg')
      exact hgw g' (h.bufs i g' f' hg' hf') (fun x=>hw (Or.inr (Or.inr x))) (fun x=>hw (Or.inl x))
    · have hi':¬ i < e.out.length:=by have:=h.gl; omega
      rw [List.getElem?_append_right (by omega)] at hg' hf'
      have e1:i - p.gs.length=0:=by
        have:=(List.getElem?_eq_some_iff.1 hg').1
        simp at this; omega
      have e2:i - e.out.length=0:=by
        have:=(List.getElem?_eq_some_iff.1 hf').1
        simp at this; omega
      rw [e1] at hg'
      rw [e2] at hf'
      simp at hg' hf'
      subst hg' hf'
      exact hgw g hg (fun x=>hgm (Or.inr (Or.inr (Or.inl x)))) (fun x=>hgm (Or.inl x))
  · intro k hw ho
    rcases ha k ho with x | x
    · exact h.wo k hw x
    · have:=hlt k (Or.inr (Or.inl hw)); omega
  · intro k hk' hw
    have hkl:k < w.heap.size∧¬ Wri b p k:=by
      rcases List.mem_append.1 hk' with x | x
      · exact ⟨hlt k (Or.inr (Or.inr (Or.inr x))),h.gw k x⟩
      · simp at x; subst x; exact ⟨hg.lt,fun y=>hgm y.mine⟩
    rcases hw with x | x | x
    · exact hkl.2 (Or.inl x)
    · exact hkl.2 (Or.inr (Or.inl x))
    · rcases ha k x with y | y
      · exact hkl.2 (Or.inr (Or.inr y))
      · omega
  · rw [List.nodup_append]
    refine ⟨h.gn,by simp,?_⟩
    intro x hx y hy e
    simp at hy
    subst hy e
    exact hgm (Or.inr (Or.inr (Or.inr hx)))
  · intro f' hf'
    rcases List.mem_append.1 hf' with x | x
    · exact h.fok f' x
    · simp at x; subst x; exact hf
set_option maxHeartbeats 1000000 in
theorem goesOut_any (c:Array Value) (t:TypeId) (b o:Nat) (e:En) (p:Pl) (f:Fr.Frm) (hf:FrOk f) (w:World) (h:Rep w c t b o e p) (hn:(e.out.length:Int) < 1099511627776) :
    Calls Tryz.prog 193 #[.pointer (some ⟨b,o,none⟩),.agg (fv f)] w fun r w'=>r=.returned (.tuple #[])∧∃ p',Rep w' c t b o { e with out:=e.out++[f] } p'∧Step w w' b p p':=by
  have hbl:=h.blk.lt
  have HF:Unit→FrOk f:=fun _=>hf
  have HR:Unit→Rep w c t b o e p:=fun _=>h
  clear h hf
  go_enter Tryz.func193,Tryz.ntmps193
  go_wp2_with fail
  refine (encode_any f (HF ()) _).mono ?_
  rintro r w1 ⟨g,rfl,hg,hb,hk1⟩
  have hk0:Keep nil w w1:=((Keep.refl nil w).alloc _).trans hk1
  have h1:=(HR ()).keep hk0 (fun _ _ x=>x)
  have hz:=hk0.size
  simp only [World.size_alloc] at hg
  have q1:=h1.c23
  have hf23:=h1.frozen (o + 23)
  have HB:Unit→Buf w1 g (Fr.enc f) 10:=fun _=>hb
  have H1:Unit→Rep w1 c t b o e p:=fun _=>h1
  have hr:=h1.orow
  have hob:=h1.ob
  clear hb h1
  go_wp2_with (at_builtin; refine wpList_append_rv _ rfl (.tmp 15) (.tmp 17) 105 rfl 56 (.slice none 0 0) 1 24 Tryz.underlying105 list_info rfl p.oa e.out.length p.oc rfl (ovals p.gs e.out) (hr.alloc _) ⟨w1.heap.size,0,none⟩ 1 1 (by omega) rfl [fval g f] rfl (cells_list w1 [fval g f] 56 _ rfl) (by simp [fval,Value.oneCell']) (by omega) (by omega) ?_; intro a' c' w2 hr2 hg2 hk2; have hk3:Keep (inB p.oa) w1 w2:=((Keep.refl _ w1).alloc _).trans hk2; have q2:=(hk3.cell b (o + 23) (by omega) hob).trans q1; have q3:=(hk3.frozen b (o + 23) (by omega) hob).trans hf23)
  go_end0
  have h1:=H1 ()
  refine ⟨rfl,{ p with oa:=a',oc:=c',gs:=p.gs++[g] },?_,?_⟩
  · exact h1.out_one f g (HF ()) (HB ()) (fun x=>by have:=(HR ()).lt g x; omega) a' c' hr2 (fun k hk=>(hg2 k hk).imp id (fun e=>by rw [e]; simp)) hk3
  · have ha:∀ k,inB a' k→inB p.oa k∨w.heap.size≤k:=fun k hk=>(hg2 k hk).imp id (fun e=>by rw [e]; simp; omega)
    refine ⟨fun k hk=>?_,fun k hk=>?_,?_⟩
    · rcases hk with x | x | x
      · exact Or.inl (Or.inl x)
      · exact Or.inl (Or.inr (Or.inl x))
      · exact (ha k x).imp (fun y=>Or.inr (Or.inr y)) id
    · rcases List.mem_append.1 hk with y | y
      · exact Or.inl y
      · simp at y; subst y; exact Or.inr (by omega)
    · exact ((hk0.mono (ex':=Wri b p) (fun _ _ e=>e.elim)).trans (hk3.mono (fun _ _ e=>Or.inr (Or.inr e)))).setCell (p:=⟨b,o + 23,none⟩) (fun _=>Or.inl rfl) _
theorem run_append_rvS {P : Program} (w : World) (t ty e : TypeId) (z : Value) (size bytes : Nat) (ht : P.underlying t = some (.slice e)) (hinfo : (P.info? e).map (fun i => (i.zero, i.size, i.bytes)) = some (some z, size, bytes)) (hzs : z.cells.size = size)
    (a:Option Addr) (n c:Nat) (vs:List Value) (hb:RV w e size a n c vs) (ad:Addr) (m c':Nat) (h0:0 < m) (news:List Value) (hm:news.length=m * size)
    (hc:∀ j u,news[j]?=some u→w.cell? (ad.add j)=some u) (h1:∀ u ∈ news,u.oneCell'=true) (hbytes:(n + m) * bytes≤140737488355328) (h63:n + m≤9223372036854775807) :
    ∃ a' k' w',(Builtin.append_ #[t,t] ty #[.slice a n c,.slice (some ad) m c']).run P w=.ok (.slice a' (n + m) k') w'∧RV w' e size a' (n + m) k' (vs++news)∧((a'=a∧k'=c)∨(a'=some ⟨w.heap.size,0,none⟩∧Keep nil w w'))∧Keep (inB a) w w':=by
  obtain ⟨hn,hnc,hb⟩:=hb
  have hlen:(vs++news).length=(n + m) * size:=by rw [List.length_append,hn,hm,Nat.add_mul]
  rcases hb with ⟨rfl,rfl,rfl⟩ | ⟨g,o,rfl,hb⟩
  · have hv:vs=[]:=List.eq_nil_of_length_eq_zero (by simpa using hn)
    subst hv
    rw [Nat.zero_add] at hbytes h63 ⊢
    obtain ⟨k',w',hr,h2,h3,h4⟩:=run_append_new (P:=P) w t ty e z size bytes ht hinfo hzs ad m c' h0 news hm hc hbytes h63
    obtain ⟨sp,hbl,hsp⟩:=h2
    refine ⟨_,k',w',hr,⟨by simpa using hm,h3,Or.inr ⟨w.heap.size,0,rfl,[],sp,by simpa using hbl,rfl,by simp at hsp ⊢; omega⟩⟩,Or.inr ⟨rfl,h4⟩,h4.mono (fun _ _ e=>e.elim)⟩
  · obtain ⟨i,hi,hz,hs,hby⟩:=info_parts hinfo
    have hb0:=hb
    obtain ⟨pre,sp,hbl,rfl,hl⟩:=hb
    by_cases hroom:n + m≤c
    · have hsp:m * size≤sp.length:=by
        have:(n + m) * size≤c * size:=Nat.mul_le_mul_right _ hroom
        rw [Nat.add_mul] at this; omega
      have hr:=run_append_room_at (P:=P) w t ty e i ht hi g pre.length n c (pre++vs++sp).toArray hbl ad m c' news (by rw [hm,hs]) hc h1 hroom (by simp [hs,hm,hn]; omega)
      refine ⟨_,c,_,hr,⟨hlen,hroom,Or.inr ⟨g,pre.length,rfl,pre,sp.drop (m * size),?_,rfl,by simp [hm,hn]; omega⟩⟩,Or.inl ⟨rfl,rfl⟩,?_⟩
      · unfold Blk at hbl ⊢
        rw [setRow_heap w g _ _ _ _ hbl]
        have e1:(pre++vs++sp).take (pre.length + n * i.size)=pre++vs:=by rw [hs,← hn,← List.length_append]; exact List.take_left
        have e2:(pre++vs++sp).drop (pre.length + n * i.size + news.length)=sp.drop (m * size):=by rw [hs,← hn,hm,← List.length_append,List.drop_append,List.drop_of_length_le (by omega)]; simp
        rw [e1,e2]; simp
      · exact ⟨rfl,rfl,rfl,by simp [World.setRow],fun k hk hn=>setRow_other w g k _ (fun e=>hn (inB_some.2 e))⟩
    · have hg:c < n + m:=by omega
      have hr:=run_append_grow (P:=P) w t ty e i z ht hi hz ⟨g,pre.length,none⟩ n c vs (by rw [hn,hs]) (fun j v hv=>by
        rw [Addr.add_lit]; exact hb0.cell j v hv) ad m c' news (by rw [hm,hs]) hc hg (by omega) (by rw [hby]; exact growslice_fits hg hbytes)
      have hge:=grownCap_ge w (n + m) c e
      refine ⟨_,_,_,hr,⟨hlen,hge,Or.inr ⟨w.heap.size,0,rfl,[],(Builtin.zeroCells z.cells (grownCap w (n + m) c e - (n + m))).toList,?_,rfl,?_⟩⟩,Or.inr ⟨rfl,((Keep.refl _ w).drew).alloc _⟩,((Keep.refl _ w).drew).alloc _⟩
      · have:=Blk.new w.drew (vs.toArray++news.toArray++Builtin.zeroCells z.cells (grownCap w (n + m) c e - (n + m))) e
        have e3:vs.toArray++news.toArray++Builtin.zeroCells z.cells (grownCap w (n + m) c e - (n + m))=([]++(vs++news)++(Builtin.zeroCells z.cells (grownCap w (n + m) c e - (n + m))).toList).toArray:=by
          apply Array.ext'; simp
        rw [e3] at this ⊢
        exact this
      · rw [zero_len,hzs,List.length_append,hn,hm,← Nat.add_mul,← Nat.add_mul]
        exact Nat.mul_le_mul_right _ (by omega)
theorem wpList_append_rvS {P : Program} (w : World) {ops : Array Oper} {rest : List Oper} {o : Oper} {a : Act} {Q : Exit → Act → World → Prop}
    (hg:o.guard=none) (s x:Operand) (t:TypeId) (hop:o.op=Op.call { callee:=Callee.builtin Builtin.append,args:=#[s,x],argTypes:=#[t,t] })
    (e:TypeId) (z:Value) (size bytes:Nat) (ht:P.underlying t=some (.slice e)) (hinfo:(P.info? e).map (fun i=>(i.zero,i.size,i.bytes))=some (some z,size,bytes)) (hzs:z.cells.size=size)
    (sa:Option Addr) (n c:Nat) (hs:a.eval s=.slice sa n c) (vs:List Value) (hb:RV w e size sa n c vs) (ad:Addr) (m c':Nat) (h0:0 < m) (hx:a.eval x=.slice (some ad) m c') (news:List Value) (hm:news.length=m * size)
    (hc:∀ j u,news[j]?=some u→w.cell? (ad.add j)=some u) (h1:∀ u ∈ news,u.oneCell'=true) (hbytes:(n + m) * bytes≤140737488355328) (h63:n + m≤9223372036854775807)
    (hK:∀ a' k' w',RV w' e size a' (n + m) k' (vs++news)→((a'=sa∧k'=c)∨(a'=some ⟨w.heap.size,0,none⟩∧Keep nil w w'))→Keep (inB sa) w w'→wpList P ops Q rest (a.put o.dst (.slice a' (n + m) k')) w') :
    wpList P ops Q (o :: rest) a w:=by
  refine wpList_plain hg fun K hK'=>?_
  obtain ⟨a',k',w',hrun,r1,r2,r3⟩:=run_append_rvS (P:=P) w t o.type e z size bytes ht hinfo hzs sa n c vs hb ad m c' h0 news hm hc h1 hbytes h63
  unfold Oper.wp
  simp [execOp,hop,resolve,invoke,builtin,hs,hx,hrun,Result.andThen]
  exact hK' _ _ (hK a' k' w' r1 r2 r3)
theorem step_append_rvS {P : Program} {ops : Array Oper} {o : Oper} {a : Act} {w : World} {K : Act → World → Prop} {Q : Exit → Act → World → Prop} {E : Prop}
    (hg:o.guard=none) (s x:Operand) (t:TypeId) (hop:o.op=Op.call { callee:=Callee.builtin Builtin.append,args:=#[s,x],argTypes:=#[t,t] })
    (e:TypeId) (z:Value) (size bytes:Nat) (ht:P.underlying t=some (.slice e)) (hinfo:(P.info? e).map (fun i=>(i.zero,i.size,i.bytes))=some (some z,size,bytes)) (hzs:z.cells.size=size)
    (sa:Option Addr) (n c:Nat) (hs:a.eval s=.slice sa n c) (vs:List Value) (hb:RV w e size sa n c vs) (ad:Addr) (m c':Nat) (h0:0 < m) (hx:a.eval x=.slice (some ad) m c') (news:List Value) (hm:news.length=m * size)
    (hc:∀ j u,news[j]?=some u→w.cell? (ad.add j)=some u) (h1:∀ u ∈ news,u.oneCell'=true) (hbytes:(n + m) * bytes≤140737488355328) (h63:n + m≤9223372036854775807)
    (hK:∀ a' k' w',RV w' e size a' (n + m) k' (vs++news)→((a'=sa∧k'=c)∨(a'=some ⟨w.heap.size,0,none⟩∧Keep nil w w'))→Keep (inB sa) w w'→K (a.put o.dst (.slice a' (n + m) k')) w') :
    if Region.wanted o (yielded ops a.tmps)=true then Oper.wp P o a w K Q else E:=by
  have hw:Region.wanted o (yielded ops a.tmps)=true:=by simp [Region.wanted,hg]
  rw [if_pos hw]
  obtain ⟨a',k',w',hrun,r1,r2,r3⟩:=run_append_rvS (P:=P) w t o.type e z size bytes ht hinfo hzs sa n c vs hb ad m c' h0 news hm hc h1 hbytes h63
  unfold Oper.wp
  simp [execOp,hop,resolve,invoke,builtin,hs,hx,hrun,Result.andThen]
  exact hK a' k' w' r1 r2 r3
structure Ed where
  a:Int
  b:Int
  wt:Int
def Ed.cells (e:Ed):List Value:=[.int .i64 e.a,.int .i64 e.b,.int .i64 e.wt]
def ecells (l:List Ed):List Value:=l.flatMap Ed.cells
theorem ecells_len (l:List Ed):(ecells l).length=l.length * 3:=by
  induction l with
  | nil=>rfl
  | cons e t ih=>simp only [ecells,List.flatMap_cons,List.length_append,List.length_cons] at ih ⊢; rw [ih]; simp [Ed.cells]; omega
theorem ecells_one (l:List Ed):∀ u ∈ ecells l,u.oneCell'=true:=by
  intro u hu
  obtain ⟨e,_,h⟩:=List.mem_flatMap.1 hu
  simp only [Ed.cells,List.mem_cons,List.not_mem_nil,or_false] at h
  rcases h with rfl | rfl | rfl <;> rfl
def ERow (w:World) (b o:Nat) (l:List Ed):Prop:=∀ j u,(ecells l)[j]?=some u→w.cell? ⟨b,o + j,none⟩=some u
theorem ERow.keep {ex:Nat→Prop} {w w':World} {b o:Nat} {l:List Ed} (h:ERow w b o l) (k:Keep ex w w') (hb:b < w.heap.size) (hn:¬ ex b):ERow w' b o l:=fun j u hu=>(k.cell b (o + j) hb hn).trans (h j u hu)
theorem cells_erow {w:World} {b o:Nat} {l:List Ed} (h:ERow w b o l):∀ j u,(ecells l)[j]?=some u→w.cell? ((⟨b,o,none⟩:Addr).add j)=some u:=fun j u hu=>by
  rw [Addr.add_lit]; exact h j u hu
theorem edge_info:(Tryz.prog.info? 30).map (fun i=>(i.zero,i.size,i.bytes))=some (some (.agg #[.int .i64 0,.int .i64 0,.int .i64 0]),3,24):=by kernel_rfl
theorem cells_elist (w:World) (vs:List Value) (t:TypeId) (n:Nat) (hn:n=w.heap.size):∀ j u,vs[j]?=some u→(w.alloc (.cells vs.toArray t)).cell? ((⟨n,0,none⟩:Addr).add j)=some u:=by
  intro j u hu
  subst hn
  rw [Addr.add_lit,Nat.zero_add,World.cell?_alloc_new,List.getElem?_toArray]
  exact hu
end Go.Proofs.YtlfijfodklhplaaGreat
