import Derived.Test.YtlfijfodklhplaaGreatSf26
set_option linter.unusedVariables false
set_option linter.unusedSimpArgs false
namespace Go.Proofs.YtlfijfodklhplaaGreat
open Go.RowKit
theorem abs_bag_get {N:Nt} {k:Nat} {x:Pk} (h:N.L[k]?=some x):N.abs.bag[k]?=some x.abs:=by simp [Nt.abs,h]
theorem aok_lose {A:AN} {B:Nat} (h:AOk A B) (k:Nat):AOk (A.lose k) B :=
  ⟨h.few,h.well,h.out,h.kept,by have:=h.bag; have:=List.length_eraseIdx_le A.bag k; show (A.bag.eraseIdx k).length≤300; omega,fun x hx=>h.pk x (List.mem_of_mem_eraseIdx hx),h.sym⟩
theorem NtR.lose {w w':World} {N:Nt} (h:NtR w N) {k:Nat} {x:Pk} (hx:N.L[k]?=some x) (hb:Bag w' N.nb 2 (N.L.eraseIdx k) N.ba N.bc) (ht:BagTo w w' N.nb 2 N.ba N.ba (.slice N.ba (N.L.length - 1) N.bc)) :
    NtR w' (N.setB (N.L.eraseIdx k) N.ba N.bc N.way)∧NtTo w w' N (N.setB (N.L.eraseIdx k) N.ba N.bc N.way)∧(N.setB (N.L.eraseIdx k) N.ba N.bc N.way).abs=N.abs.lose k∧PRow w' x.g x.l x.c∧¬ (N.setB (N.L.eraseIdx k) N.ba N.bc N.way).Own x.g:=by
  have hl:(N.L.eraseIdx k).length=N.L.length - 1:=by
    rw [List.length_eraseIdx,if_pos (List.getElem?_eq_some_iff.1 hx).1]
  rw [← hl] at ht
  obtain ⟨r1, r2⟩ := h.setB (N.L.eraseIdx k) N.ba N.bc N.way hb ht (fun y hy => Or.inl (List.mem_of_mem_eraseIdx hy)) (h.pkn.sublist (List.eraseIdx_sublist ..))
    (fun b hb'=>⟨hb',fun y hy e=>by have:=h.apart .way .pks b hb' ⟨y,List.mem_of_mem_eraseIdx hy,e⟩; cases this⟩)
  have t1:=r2 w N (NtTo.refl w N) (fun y hy=>Or.inl (List.mem_of_mem_eraseIdx hy))
  have hxm:x ∈ N.L:=List.mem_of_getElem? hx
  refine ⟨r1,t1,?_,?_,?_⟩
  · simp only [Nt.abs,Nt.setB,AN.lose,List.eraseIdx_eq_take_drop_succ,List.map_append,List.map_take,List.map_drop]
  · refine (h.pks x hxm).keep ht.keep (fun b hb' e=>?_)
    rw [inB_some.1 hb'] at e
    rcases e with e | e
    · have:=h.apart .pks .net x.g ⟨x,hxm,rfl⟩ e; cases this
    · have:=h.apart .pks .bag x.g ⟨x,hxm,rfl⟩ e; cases this
  · rintro ⟨q,hq,hk⟩
    have key:∀ q',N.own q' x.g→q'=.pks:=fun q' h1=>h.apart q' .pks x.g h1 ⟨x,hxm,rfl⟩
    cases q with
    | way=>exact hq rfl
    | net=>have:=key .net hk; cases this
    | edges=>have:=key .edges hk; cases this
    | spots=>have:=key .spots hk; cases this
    | bag=>have:=key .bag hk; cases this
    | spot i a=>have:=key (.spot i a) hk; cases this
    | pks =>
      obtain ⟨y,hy,e⟩:=hk
      have hp:=h.pkn
      have hsp:N.L=N.L.take k++x :: N.L.drop (k + 1):=by
        obtain ⟨hk',e'⟩:=List.getElem?_eq_some_iff.1 hx
        rw [← e',← List.drop_eq_getElem_cons hk',List.take_append_drop]
      rw [hsp,List.pairwise_append,List.pairwise_cons] at hp
      have hy2:y ∈ N.L.take k++N.L.drop (k + 1):=by
        have:N.L.eraseIdx k=N.L.take k++N.L.drop (k + 1):=List.eraseIdx_eq_take_drop_succ ..
        rw [← this]; exact hy
      rcases List.mem_append.1 hy2 with h1 | h1
      · exact hp.2.2 y h1 x (List.mem_cons_self ..) e
      · exact hp.2.1.1 y h1 e.symm
set_option maxRecDepth 100000 in
set_option maxHeartbeats 4000000 in
theorem mlose_no (N:Nt) (k:Int) (w:World) (h:NtR w N) (hk:¬ (0≤k∧k < (N.L.length:Int))) :
    Calls Tryz.prog 68 #[.pointer (some ⟨N.nb,0,none⟩),.int .i64 k] w fun r w'=>r=.returned (.int .i64 7)∧Keep nil w w':=by
  have HH:Unit→∀ w1,_:=fun _ w1=>bagHas_any N.ba N.L.length N.bc k w1
  rw [decide_eq_false hk] at HH
  have q2:=h.c2
  have hnl:=h.blk.lt
  generalize N.nb=nb at *
  clear h hk
  go_enter Tryz.func68,Tryz.ntmps68
  go_wp2_with fail
  refine Calls.mono (HH () _) ?_
  rintro r w1 ⟨rfl,k1⟩
  have K1:Unit→Keep nil w w1:=fun _=>k1
  clear k1 HH
  go_wp2
  go_ret
  exact ⟨rfl,K1 ()⟩
set_option maxRecDepth 100000 in
set_option maxHeartbeats 4000000 in
theorem mlose_yes (N:Nt) (k:Nat) (x:Pk) (B:Nat) (w:World) (h:NtR w N) (hx:N.L[k]?=some x) (ho:AOk N.abs B) :
    Calls Tryz.prog 68 #[.pointer (some ⟨N.nb,0,none⟩),.int .i64 (k:Int)] w fun r w'=>r=.returned (.int .i64 0)∧∃ N',NtR w' N'∧N'.abs=N.abs.lose k∧NtTo w w' N N'∧N'.way=N.way∧AOk N'.abs B:=by
  have hkl:=(List.getElem?_eq_some_iff.1 hx).1
  have hb3:(N.L.length:Int)≤300:=by have:=ho.bag; rw [NtR.abs_len.1] at this; omega
  have HH:Unit→∀ w1,_:=fun _ w1=>bagHas_any N.ba N.L.length N.bc (k:Int) w1
  rw [decide_eq_true (p:=0≤(k:Int)∧(k:Int) < (N.L.length:Int)) ⟨by omega,by omega⟩] at HH
  have H:Unit→NtR w N∧N.L[k]?=some x∧AOk N.abs B:=fun _=>⟨h,hx,ho⟩
  have HT:Unit→∀ w1,Keep nil w w1→_:=fun _ w1 k1=>bagTake_any N.nb 2 N.L N.ba N.bc k x w1 ((h.keep k1 (fun _ _ e=>e)).bag) hx hb3
  have q2:=h.c2
  have hnl:=h.blk.lt
  obtain ⟨nb,hnb⟩:∃ nb,nb=N.nb:=⟨_,rfl⟩
  have HNB:Unit→nb=N.nb:=fun _=>hnb
  rw [← hnb] at HT q2 hnl ⊢
  clear h hx ho hkl hb3 hnb
  go_enter Tryz.func68,Tryz.ntmps68
  go_wp2_with fail
  refine Calls.mono (HH () _) ?_
  rintro r w1 ⟨rfl,k1⟩
  have K1:Unit→Keep nil w w1:=fun _=>k1
  have hnl1:nb < w1.heap.size:=Nat.lt_of_lt_of_le hnl k1.size
  clear k1 HH q2 hnl
  go_wp2_with fail
  refine Calls.mono (HT () w1 (K1 ())) ?_
  rintro r w2 ⟨rfl,hb,hbt⟩
  have HN:Unit→∃ N',NtR w2 N'∧N'.abs=N.abs.lose k∧NtTo w w2 N N'∧N'.way=N.way∧AOk N'.abs B:=fun _=>by
    have h1:=(H ()).1.keep (K1 ()) (fun _ _ e=>e)
    rw [HNB ()] at hb hbt
    obtain ⟨r1,r2,r3,_,_⟩:=h1.lose (H ()).2.1 hb hbt
    exact ⟨_,r1,r3,(NtTo.of_keep N (K1 ())).trans r2,rfl,by rw [r3]; exact aok_lose (H ()).2.2 k⟩
  clear hb hbt HT hnl1
  go_wp2
  go_ret
  exact ⟨rfl,HN ()⟩
set_option maxRecDepth 100000 in
set_option maxHeartbeats 4000000 in
theorem magain_no (N:Nt) (k:Int) (w:World) (h:NtR w N) (hk:¬ (0≤k∧k < (N.L.length:Int))) :
    Calls Tryz.prog 69 #[.pointer (some ⟨N.nb,0,none⟩),.int .i64 k] w fun r w'=>r=.returned (.int .i64 7)∧Keep nil w w':=by
  have HH:Unit→∀ w1,_:=fun _ w1=>bagHas_any N.ba N.L.length N.bc k w1
  rw [decide_eq_false hk] at HH
  have q2:=h.c2
  have hnl:=h.blk.lt
  generalize N.nb=nb at *
  clear h hk
  go_enter Tryz.func69,Tryz.ntmps69
  go_wp2_with fail
  refine Calls.mono (HH () _) ?_
  rintro r w1 ⟨rfl,k1⟩
  have K1:Unit→Keep nil w w1:=fun _=>k1
  clear k1 HH
  go_wp2
  go_ret
  exact ⟨rfl,K1 ()⟩
theorem NtR.addNew {w w1 w2:World} {N:Nt} (h:NtR w N) (k1:Keep nil w w1) (y:Pk) (hy:PRow w1 y.g y.l y.c) (hyn:w.heap.size≤y.g) (ba':Option Addr) (bc':Nat) (hb:Bag w2 N.nb 2 (badd N.L y) ba' bc') (ht:BagTo w1 w2 N.nb 2 N.ba ba' (.slice ba' (badd N.L y).length bc')) :
    ∃ N',NtR w2 N'∧N'.abs=N.abs.add y.abs∧NtTo w w2 N N'∧N'.way=N.way:=by
  have hyl:y.g < w1.heap.size:=hy.lt y.g (inB_self _ _)
  have h1:=h.wayTo k1 (fun b=>N.way b∨b=y.g) (fun b hb'=>by
    rcases hb' with e | e
    · exact Or.inl e
    · rw [e]; exact Or.inr ⟨hyn,hyl⟩)
  have hold:∀ z ∈ N.L,z.g≠y.g:=fun z hz e=>by have:=(h.pks z hz).lt z.g (inB_self _ _); omega
  obtain ⟨r1, r2⟩ := h1.setB (badd N.L y) ba' bc' N.way hb ht
    (fun x hx=>by
      rcases mem_badd hx with e | rfl
      · exact Or.inl e
      · exact Or.inr ⟨Or.inr rfl,hy⟩)
    (badd_apart h.pkn hold)
    (fun b hb'=>⟨Or.inl hb',fun x hx e=>by
      rcases mem_badd hx with e2 | rfl
      · have:=h.apart .way .pks b hb' ⟨x,e2,e⟩; cases this
      · have:=h.wayl b hb'; omega⟩)
  have t0:NtTo w w1 N { N with way:=fun b=>N.way b∨b=y.g }:=(NtTo.of_keep N k1).way N.way _
  refine ⟨_,r1,?_,r2 w N t0 (fun x hx=>?_),rfl⟩
  · exact abs_add { N with way:=fun b=>N.way b∨b=y.g } y ba' bc' N.way
  · rcases mem_badd hx with e | rfl
    · exact Or.inl e
    · exact Or.inr (Or.inr hyn)
theorem NtR.pkt {N:Nt} {B k:Nat} {x:Pk} (ho:AOk N.abs B) (hx:N.L[k]?=some x):0 < x.l.length∧(x.l.length:Int) < 1000∧(∀ y ∈ x.l,y < 256):=by
  obtain ⟨h1,h2,h3,_⟩:=ho.pk x.abs (List.mem_of_getElem? (abs_bag_get hx))
  have e:x.abs.l=x.l:=rfl
  rw [e] at h1 h2 h3
  exact ⟨h2,by omega,h1⟩
set_option maxRecDepth 100000 in
set_option maxHeartbeats 4000000 in
theorem magain_yes (N:Nt) (k:Nat) (x:Pk) (B:Nat) (w:World) (h:NtR w N) (hx:N.L[k]?=some x) (ho:AOk N.abs B) :
    Calls Tryz.prog 69 #[.pointer (some ⟨N.nb,0,none⟩),.int .i64 (k:Int)] w fun r w'=>r=.returned (.int .i64 0)∧∃ N',NtR w' N'∧N'.abs=N.abs.again k∧NtTo w w' N N'∧N'.way=N.way∧AOk N'.abs B:=by
  have hkl:=(List.getElem?_eq_some_iff.1 hx).1
  have hb3:(N.L.length:Int)≤300:=by have:=ho.bag; rw [NtR.abs_len.1] at this; omega
  have hk9:(k:Int) < 1000:=by omega
  have hkI:(k:Int) < (N.L.length:Int):=by omega
  have HH:Unit→∀ w1,_:=fun _ w1=>bagHas_any N.ba N.L.length N.bc (k:Int) w1
  rw [decide_eq_true (p:=0≤(k:Int)∧(k:Int) < (N.L.length:Int)) ⟨by omega,by omega⟩] at HH
  have H:Unit→NtR w N∧N.L[k]?=some x∧AOk N.abs B:=fun _=>⟨h,hx,ho⟩
  have HC:Unit→∀ w1,Keep nil w w1→∃ g q,N.ba=some ⟨g,q,none⟩∧g < w1.heap.size∧N.nb < w1.heap.size∧w1.cell? ⟨N.nb,2,none⟩=some (.slice (some ⟨g,q,none⟩) N.L.length N.bc)∧w1.cell? ⟨g,q + k * 4,none⟩=some (.int .i64 (x.from_:Int))∧w1.cell? ⟨g,q + k * 4 + 1,none⟩=some (.int .i64 (x.to_:Int))∧w1.cell? ⟨g,q + k * 4 + 2,none⟩=some x.slice∧w1.cell? ⟨g,q + k * 4 + 3,none⟩=some (.bool x.sp):=fun _ w1 k1=>by
    have h1:=h.keep k1 (fun _ _ e=>e)
    obtain ⟨g,q,a1,a2,a3,a4,a5,a6⟩:=h1.bag.at_ k x hx
    exact ⟨g,q,a1,a2,h1.blk.lt,by rw [← a1]; exact h1.c2,a3,a4,a5,a6⟩
  have HA:Unit→∀ w1,Keep nil w w1→_:=fun _ w1 k1=>alike_any x w1 ((h.pks x (List.mem_of_getElem? hx)).keep k1 (fun _ _ e=>e)) (NtR.pkt ho hx).1 (NtR.pkt ho hx).2.1
  have HD:Unit→∀ (w1:World) (y:Pk),Keep nil w w1→_:=fun _ w1 y k1=>bagAdd_any N.nb 2 N.L N.ba N.bc y w1 ((h.keep k1 (fun _ _ e=>e)).bag) hb3
  have q2:=h.c2
  have hnl:=h.blk.lt
  obtain ⟨nb,hnb⟩:∃ nb,nb=N.nb:=⟨_,rfl⟩
  have HNB:Unit→nb=N.nb:=fun _=>hnb
  rw [← hnb] at HC HD q2 hnl ⊢
  clear h hx ho hkl hb3 hnb
  go_enter Tryz.func69,Tryz.ntmps69
  go_wp2_with fail
  refine Calls.mono (HH () _) ?_
  rintro r w1 ⟨rfl,k1⟩
  have K1:Unit→Keep nil w w1:=fun _=>k1
  obtain ⟨g,q,hba,hgl,hnl1,c2,e0,e1,e2,e3⟩:=HC () w1 k1
  obtain ⟨xf,xt,xl,xg,xc,xs⟩:=x
  simp only [Pk.slice,pkv] at e0 e1 e2 e3 HA HD
  generalize hxl:xl.length=xln at e2 HA
  have HXL:Unit→xl.length=xln:=fun _=>hxl
  clear k1 HH q2 hnl HC hba hxl
  go_wp2_with fail
  have HD2:Unit→∀ (w2:World) (g' c':Nat),Keep nil w1.drew w2→Calls Tryz.prog 120 #[.pointer (some ⟨nb,2,none⟩),.agg #[.int .i64 (xf:Int),.int .i64 (xt:Int),.slice (some ⟨g',0,none⟩) xln c',.bool xs]] w2 fun r w'=>r=.returned (.tuple #[])∧∃ ba' bc',Bag w' nb 2 (badd N.L ⟨xf,xt,xl,g',c',xs⟩) ba' bc'∧BagTo w2 w' nb 2 N.ba ba' (.slice ba' (badd N.L ⟨xf,xt,xl,g',c',xs⟩).length bc'):=fun _ w2 g' c' k2=>by
    have:=HD () w2 ⟨xf,xt,xl,g',c',xs⟩ ((K1 ()).drew.trans k2)
    simp only [HXL ()] at this
    exact this
  clear HD
  go_region_with (first | (go_at_call 121; refine (HA () _ (by first | exact (K1 ()).drew | exact K1 ())).mono ?_; rintro r w2 ⟨g',c',rfl,hp',hk',hgs⟩) | (go_at_call 120; refine (HD2 () _ _ _ (by assumption)).mono ?_; rintro r w3 ⟨rfl,ba',bc',hb,hbt⟩))
  have HN:Unit→∃ N',NtR w3 N'∧N'.abs=N.abs.again k∧NtTo w w3 N N'∧N'.way=N.way∧AOk N'.abs B:=fun _=>by
    rw [HNB ()] at hb hbt
    obtain ⟨N',r1,r2,r3,r4⟩:=(H ()).1.addNew ((K1 ()).drew.trans hk') ⟨xf,xt,xl,g',c',xs⟩ hp' (Nat.le_trans (K1 ()).drew.size hgs) ba' bc' hb hbt
    have hab:N'.abs=N.abs.again k:=by rw [r2,AN.again,abs_bag_get (H ()).2.1]; rfl
    refine ⟨N',r1,hab,r3,r4,?_⟩
    rw [r2]
    exact aok_add (H ()).2.2 ((H ()).2.2.pk (⟨xf,xt,xl,xg,xc,xs⟩:Pk).abs (List.mem_of_getElem? (abs_bag_get (H ()).2.1)))
  clear hb hbt HD2 HA hp' hk' hgs c2 e0 e1 e2 e3 hgl hnl1
  go_wp2
  go_ret
  exact ⟨rfl,HN ()⟩
set_option maxRecDepth 100000 in
set_option maxHeartbeats 4000000 in
theorem mpackets_any (N:Nt) (B:Nat) (w:World) (h:NtR w N) (ho:AOk N.abs B) :
    Calls Tryz.prog 39 #[.pointer (some ⟨N.nb,0,none⟩)] w fun r w'=>∃ T a c,r=.returned (.slice a T.length c)∧Tel w w' N.L T a c:=by
  have HT:Unit→∀ w1,Keep nil w w1→_:=fun _ w1 k1=>bagTell_any N.nb 2 N.L N.ba N.bc w1 ((h.keep k1 (fun _ _ e=>e)).bag) (by have:=ho.bag; rw [NtR.abs_len.1] at this; omega) (fun x hx=>by
    obtain ⟨j,hj,e⟩:=List.getElem_of_mem hx
    have hx':N.L[j]?=some x:=by rw [List.getElem?_eq_getElem hj,e]
    exact ⟨(h.pks x hx).keep k1 (fun _ _ e=>e),(NtR.pkt ho hx').1,(NtR.pkt ho hx').2.1⟩)
  have q2:=h.c2
  have hnl:=h.blk.lt
  generalize N.nb=nb at *
  clear h ho
  go_enter Tryz.func39,Tryz.ntmps39
  go_wp2_with fail
  refine Calls.mono (HT () w (Keep.refl nil w)) ?_
  rintro r w1 ⟨T,a,c,rfl,ht⟩
  have HT1:Unit→Tel w w1 N.L T a c:=fun _=>ht
  clear ht HT q2 hnl
  go_wp2
  go_ret
  exact ⟨T,a,c,rfl,HT1 ()⟩
set_option maxRecDepth 100000 in
set_option maxHeartbeats 4000000 in
theorem mlook_any (N:Nt) (k:Nat) (s:Sp) (B:Nat) (w:World) (h:NtR w N) (hs:N.sps[k]?=some s) (ho:AOk N.abs B) :
    Calls Tryz.prog 38 #[.pointer (some ⟨N.nb,0,none⟩),.int .i64 (k:Int)] w fun r w'=>∃ a c,r=.returned (.tuple #[lookv s.n a c,.int .i64 0])∧RV w' 3 1 a s.n.edges.length c (icells (s.n.edges.map (·.2)))∧Keep nil w w'∧∀ i,inB a i→w.heap.size≤i:=by
  have hkl:=(List.getElem?_eq_some_iff.1 hs).1
  have hk9:(k:Int) < 2000:=by have:=ho.few; rw [NtR.abs_len.2] at this; omega
  have hkI:(k:Int) < (N.sps.length:Int):=by omega
  have HH:Unit→∀ w1,Keep nil w w1→_:=fun _ w1 k1=>(h.keep k1 (fun _ _ e=>e)).hasNode (k:Int)
  rw [decide_eq_true (p:=0≤(k:Int)∧(k:Int) < (N.sps.length:Int)) ⟨by omega,by omega⟩] at HH
  have HC:Unit→∀ w1,Keep nil w w1→∃ pb po,w1.cell? ⟨N.nb,1,none⟩=some (.slice (some ⟨pb,po,none⟩) N.sps.length N.pc)∧N.nb < w1.heap.size∧pb < w1.heap.size∧w1.cell? ⟨pb,po + k * 2,none⟩=some (.pointer (some ⟨s.b,0,none⟩))∧s.b < w1.heap.size:=fun _ w1 k1=>by
    have h1:=h.keep k1 (fun _ _ e=>e)
    obtain ⟨pb,po,hpa,hpl,hp0,hp1⟩:=h1.spot_at hs
    have q1:=h1.c1
    rw [hpa] at q1
    exact ⟨pb,po,q1,h1.blk.lt,hpl,hp0,(h1.nods k s hs).blk.lt⟩
  have HL:Unit→∀ w1,Keep nil w w1→_:=fun _ w1 k1=>nlook_any s.b s.n s.p w1 ((h.nods k s hs).keep k1 (fun _ _ e=>e)) (by
    have h1:=(ho.well k s.abs (abs_spot hs)).1.good.rise.few
    exact h1)
  obtain ⟨nb,hnb⟩:∃ nb,nb=N.nb:=⟨_,rfl⟩
  rw [← hnb] at HH HC ⊢
  clear h hs ho hkl hnb
  go_enter Tryz.func38,Tryz.ntmps38
  go_wp2_with fail
  obtain ⟨W0,hW0⟩:∃ W0,W0=w.alloc (.cells #[.int .i64 0,.int .i64 0,.int .i64 0,.bool false,.int .i64 0,.slice none 0 0] 50):=⟨_,rfl⟩
  have k0:Keep nil w W0:=by rw [hW0]; exact (Keep.refl nil w).alloc _
  have b0:Blk W0 w.heap.size #[.int .i64 0,.int .i64 0,.int .i64 0,.bool false,.int .i64 0,.slice none 0 0] 50:=by rw [hW0]; exact Blk.new _ _ _
  rw [← hW0]
  refine Calls.mono (HH () W0 k0) ?_
  rintro r w1 ⟨rfl,k1⟩
  have b1:=b0.keep k1 id
  have k01:=k0.trans k1
  obtain ⟨pb,po,q1,hnl,hpl,hp0,hbl⟩:=HC () w1 k01
  have K1:Unit→Keep nil w w1:=fun _=>k01
  obtain ⟨xb,hxb⟩:∃ xb,xb=w.heap.size:=⟨_,rfl⟩
  rw [← hxb] at b1 ⊢
  have HB1:Unit→Blk w1 xb #[.int .i64 0,.int .i64 0,.int .i64 0,.bool false,.int .i64 0,.slice none 0 0] 50∧xb=w.heap.size:=fun _=>⟨b1,hxb⟩
  clear HH HC k1 k0 k01 b0 hW0 hxb
  go_wp2_with fail
  refine Calls.mono (HL () w1 (K1 ())) ?_
  rintro r w2 ⟨a,c,rfl,hrow,k2,hnew⟩
  have b2:=(HB1 ()).1.keep k2 id
  have HR:Unit→RV w2 3 1 a s.n.edges.length c (icells (s.n.edges.map (·.2)))∧Keep nil w w2∧(∀ i,inB a i→w1.heap.size≤i)∧xb < w1.heap.size∧xb=w.heap.size:=fun _=>⟨hrow,(K1 ()).trans k2,hnew,(HB1 ()).1.lt,(HB1 ()).2⟩
  have x0:=b2.cell 0
  have x1:=b2.cell 1
  have x2:=b2.cell 2
  have x3:=b2.cell 3
  have x4:=b2.cell 4
  have x5:=b2.cell 5
  have f0:=b2.frozen 0
  have f1:=b2.frozen 1
  have f2:=b2.frozen 2
  have f3:=b2.frozen 3
  have f4:=b2.frozen 4
  have f5:=b2.frozen 5
  have hxl:=b2.lt
  have HB2:Unit→Blk w2 xb #[.int .i64 0,.int .i64 0,.int .i64 0,.bool false,.int .i64 0,.slice none 0 0] 50:=fun _=>b2
  simp only [List.size_toArray,List.getElem?_toArray,List.getElem?_cons_zero,List.getElem?_cons_succ] at x0 x1 x2 x3 x4 x5
  obtain ⟨lk,hlk⟩:∃ lk,lk=lookv s.n a c:=⟨_,rfl⟩
  obtain ⟨st,lv,nm,ov,ofl,el,hq⟩:∃ (st lv nm:Nat) (ov:Bool) (ofl el:Nat),lookv s.n a c=.agg #[.int .i64 (st:Int),.int .i64 (lv:Int),.int .i64 (nm:Int),.bool ov,.int .i64 (ofl:Int),.slice a el c]:=⟨_,_,_,_,_,_,rfl⟩
  have HQ:Unit→lookv s.n a c=.agg #[.int .i64 (st:Int),.int .i64 (lv:Int),.int .i64 (nm:Int),.bool ov,.int .i64 (ofl:Int),.slice a el c]:=fun _=>hq
  rw [hq]
  clear hrow k2 hnew b2 HL q1 hp0 hbl hnl hpl HB1 hlk lk hq
  go_wp2
  obtain ⟨W5,hW5⟩:∃ W5,W5=((((((w2.setCell ⟨xb,0,none⟩ (.int .i64 (st:Int))).setCell ⟨xb,1,none⟩ (.int .i64 (lv:Int))).setCell ⟨xb,2,none⟩ (.int .i64 (nm:Int))).setCell ⟨xb,3,none⟩ (.bool ov)).setCell ⟨xb,4,none⟩ (.int .i64 (ofl:Int))).setCell ⟨xb,5,none⟩ (.slice a el c)):=⟨_,rfl⟩
  have B5:Blk W5 xb #[.int .i64 (st:Int),.int .i64 (lv:Int),.int .i64 (nm:Int),.bool ov,.int .i64 (ofl:Int),.slice a el c] 50:=by
    have:=((((((HB2 ()).set 0 (.int .i64 (st:Int))).set 1 (.int .i64 (lv:Int))).set 2 (.int .i64 (nm:Int))).set 3 (.bool ov)).set 4 (.int .i64 (ofl:Int))).set 5 (.slice a el c)
    rw [← hW5] at this
    exact this
  have K5:Unit→Keep (only xb) w2 W5:=fun _=>by
    rw [hW5]
    exact ((((((Keep.refl (only xb) w2).setCell (p:=⟨xb,0,none⟩) (fun _=>rfl) _).setCell (p:=⟨xb,1,none⟩) (fun _=>rfl) _).setCell (p:=⟨xb,2,none⟩) (fun _=>rfl) _).setCell (p:=⟨xb,3,none⟩) (fun _=>rfl) _).setCell (p:=⟨xb,4,none⟩) (fun _=>rfl) _).setCell (p:=⟨xb,5,none⟩) (fun _=>rfl) _
  rw [← hW5]
  have y0:=B5.cell 0
  have y1:=B5.cell 1
  have y2:=B5.cell 2
  have y3:=B5.cell 3
  have y4:=B5.cell 4
  have y5:=B5.cell 5
  simp only [List.size_toArray,List.getElem?_toArray,List.getElem?_cons_zero,List.getElem?_cons_succ] at y0 y1 y2 y3 y4 y5
  clear x0 x1 x2 x3 x4 x5 f0 f1 f2 f3 f4 f5 hxl hW5 B5
  refine bodyPost_ret (v:=.tuple #[.agg #[.int .i64 (st:Int),.int .i64 (lv:Int),.int .i64 (nm:Int),.bool ov,.int .i64 (ofl:Int),.slice a el c],.int .i64 0]) (by simp [results,Tryz.results38,go_sem,y0,y1,y2,y3,y4,y5]) rfl ?_
  obtain ⟨r1,r2,r3,r4,r5⟩:=HR ()
  refine ⟨a,c,by rw [HQ ()],r1.keep (K5 ()) (fun i hi e=>?_),?_,fun i hi=>Nat.le_trans (K1 ()).size (r3 i hi)⟩
  · have:=r3 i hi
    rw [show i=xb from e] at this
    omega
  · exact r2.trans' (K5 ()) (fun i hi e=>by rw [show i=xb from e,r5] at hi; omega)
structure Tst (w wr : World) (N : Nt) (k : Nat) (B i : Nat) (M : Nt) : Prop where
  rep:NtR wr M
  abs:M.abs=N.abs.ticks k i
  to_:NtTo w wr N M
  way:M.way=N.way
  ok:AOk M.abs B
theorem Tst.side {w wr:World} {N M:Nt} {k B i:Nat} {s:Sp} (h:Tst w wr N k B i M) (hs:N.sps[k]?=some s) {j:Nat} (hj:j < s.ss.length):∃ s' d',M.sps[k]?=some s'∧s'.ss[j]?=some d'∧s'.sa=s.sa∧s'.sc=s.sc∧s'.ss.length=s.ss.length:=by
  obtain ⟨s',h1,h2⟩:=h.to_.spot hs
  obtain ⟨_,h3,h4,_,h5⟩:=fix_parts h2
  exact ⟨s',_,h1,List.getElem?_eq_getElem (by omega),h3,h4,h5⟩
theorem Tst.next {w wr w2 w3 : World} {N M M2 M3 : Nt} {k B i : Nat} (h : Tst w wr N k B i M) {s' : Sp} {d' : Sd} (hs' : M.sps[k]? = some s') (hd' : s'.ss[i]? = some d')
    (h2:M2.abs=M.abs.modE k i En.tick) (h2t:NtTo wr w2 M M2) (h2w:M2.way=M.way) (h2f:∀ f ∈ d'.e.tick.out,FrOk f)
    (r3:NtR w3 M3) (a3:M3.abs=M2.abs.carry k i) (t3:NtTo w2 w3 M2 M3) (w3':M3.way=M2.way):Tst w w3 N k B (i + 1) M3:=by
  refine ⟨r3,?_,h.to_.trans (h2t.trans t3),(w3'.trans h2w).trans h.way,?_⟩
  · rw [a3,h2,h.abs]
    simp only [AN.ticks,List.range_succ,List.foldl_append,List.foldl_cons,List.foldl_nil,AN.tickOne]
  · rw [a3,h2]
    exact aok_carry h.ok (abs_side hs' hd') _ (fun e he=>kok_tick he) h2f
theorem nods_ticks (k:Nat) (A:AN) (n:Nat):(A.ticks k n).nods=A.nods:=by
  induction n with
  | zero=>rfl
  | succ n ih =>
    have:A.ticks k (n + 1)=(A.ticks k n).tickOne k n:=by simp only [AN.ticks,List.range_succ,List.foldl_append,List.foldl_cons,List.foldl_nil]
    rw [this,AN.tickOne,nods_carry,nods_modE,ih]
set_option maxRecDepth 100000 in
set_option maxHeartbeats 4000000 in
theorem mtick_any (N:Nt) (k:Nat) (s:Sp) (B:Nat) (w:World) (h:NtR w N) (hs:N.sps[k]?=some s) (ho:AOk N.abs B) (hst:ASt N.abs) :
    Calls Tryz.prog 66 #[.pointer (some ⟨N.nb,0,none⟩),.int .i64 (k:Int)] w fun r w'=>r=.returned (.int .i64 0)∧∃ N',NtR w' N'∧N'.abs=N.abs.tick k∧NtTo w w' N N'∧N'.way=N.way∧AOk N'.abs B∧ASt N'.abs:=by
  have hkl:=(List.getElem?_eq_some_iff.1 hs).1
  have hk9:(k:Int) < 2000:=by have:=ho.few; rw [NtR.abs_len.2] at this; omega
  have hkI:(k:Int) < (N.sps.length:Int):=by omega
  obtain ⟨hw1,hw2,hw3⟩:=ho.well k s.abs (abs_spot hs)
  have hsl9:(s.ss.length:Int) < 1000:=by
    have h2:s.n.edges.length=s.ss.length:=by simpa [Sp.abs] using hw2
    have:=hw1.good.rise.few
    have h3:s.abs.n.edges.length=s.n.edges.length:=rfl
    omega
  have HH:Unit→_:=fun _=>h.hasNode (k:Int)
  rw [decide_eq_true (p:=0≤(k:Int)∧(k:Int) < (N.sps.length:Int)) ⟨by omega,by omega⟩] at HH
  have H:Unit→NtR w N∧N.sps[k]?=some s∧AOk N.abs B∧ASt N.abs∧(s.ss.length:Int) < 1000:=fun _=>⟨h,hs,ho,hst,hsl9⟩
  have HC:Unit→∀ (w1:World) (M:Nt),NtR w1 M→N.nb=M.nb→N.pa=M.pa→N.pc=M.pc→N.sps.length=M.sps.length→(∃ s',M.sps[k]?=some s'∧s'.fix=s.fix)→∃ pb po,N.pa=some ⟨pb,po,none⟩∧w1.cell? ⟨N.nb,1,none⟩=some (.slice (some ⟨pb,po,none⟩) N.sps.length N.pc)∧N.nb < w1.heap.size∧pb < w1.heap.size∧w1.cell? ⟨pb,po + k * 2 + 1,none⟩=some (.slice s.sa s.ss.length s.sc):=fun _ w1 M h1 e1 e2 e3 e4 ⟨s',e5,e6⟩=>by
    obtain ⟨pb,po,hpa,hpl,hp0,hp1⟩:=h1.spot_at e5
    have q1:=h1.c1
    obtain ⟨_,f2,f3,_,f5⟩:=fix_parts e6
    rw [hpa] at q1
    rw [f2,f3,f5] at hp1
    exact ⟨pb,po,e2.trans hpa,by rw [e1,e3,e4]; exact q1,by rw [e1]; exact h1.blk.lt,hpl,hp1⟩
  obtain ⟨pb,po,hpa,_⟩:=HC () w N h rfl rfl rfl rfl ⟨s,hs,rfl⟩
  have HC2:Unit→∀ (w1:World) (M:Nt),NtR w1 M→N.nb=M.nb→N.pa=M.pa→N.pc=M.pc→N.sps.length=M.sps.length→(∃ s',M.sps[k]?=some s'∧s'.fix=s.fix)→w1.cell? ⟨N.nb,1,none⟩=some (.slice (some ⟨pb,po,none⟩) N.sps.length N.pc)∧N.nb < w1.heap.size∧pb < w1.heap.size∧w1.cell? ⟨pb,po + k * 2 + 1,none⟩=some (.slice s.sa s.ss.length s.sc):=fun _ w1 M h1 e1 e2 e3 e4 e5=>by
    obtain ⟨pb',po',a1,a2⟩:=HC () w1 M h1 e1 e2 e3 e4 e5
    rw [hpa] at a1
    cases a1
    exact a2
  obtain ⟨nb,hnb⟩:∃ nb,nb=N.nb:=⟨_,rfl⟩
  have HNB:Unit→nb=N.nb:=fun _=>hnb
  obtain ⟨ln,hln⟩:∃ ln,ln=s.ss.length:=⟨_,rfl⟩
  have HLN:Unit→ln=s.ss.length:=fun _=>hln
  rw [← hnb] at HH HC2 ⊢
  rw [← hln] at HC2
  clear h hs ho hst hkl hnb hln hw1 hw2 hw3 hsl9 HC
  go_enter Tryz.func66,Tryz.ntmps66
  go_wp2_with fail
  refine Calls.mono (HH ()) ?_
  rintro r w1 ⟨rfl,k1⟩
  have H1:Unit→Tst w w1 N k B 0 N:=fun _=>⟨(H ()).1.keep k1 (fun _ _ e=>e),rfl,NtTo.of_keep N k1,rfl,(H ()).2.2.1⟩
  obtain ⟨q1,hnl,hpl,hp1⟩:=HC2 () w1 N (H1 ()).rep (HNB ()) rfl rfl rfl ⟨s,(H ()).2.1,rfl⟩
  clear HH k1
  go_wp2_with fail
  go_loopw [19] (fun v wr=>∃ (i:Nat) (M:Nt),i≤ln∧v=.int .i64 (i:Int)∧Tst w wr N k B i M) (fun v _=>ln - (intOf v).toNat)
  case atStart=>exact ⟨0,N,by omega,rfl,H1 ()⟩
  case round =>
    obtain ⟨i,M,hi,rfl,hM⟩:=hrel
    have HM:Unit→Tst w wr N k B i M∧i≤ln:=fun _=>⟨hM,hi⟩
    have hMn:M.nb=nb:=by rw [HNB ()]; exact hM.to_.nb
    clear q1 hnl hpl hp1
    obtain ⟨q1,hnl,hpl,hp1⟩:=HC2 () wr M hM.rep hMn.symm hM.to_.pa.symm hM.to_.pc.symm hM.to_.len.symm (hM.to_.spot (H ()).2.1)
    by_cases hil:i < ln
    · have HIL:Unit→i < ln:=fun _=>hil
      have hiI:(i:Int) < (ln:Int):=by omega
      have hi9:(i:Int) < 1000:=by have:=(H ()).2.2.2.2; rw [← HLN ()] at this; omega
      obtain ⟨s',d',hs',hd',hsa,hsc,hsl⟩:=hM.side (H ()).2.1 (j:=i) (by rw [← HLN ()]; exact hil)
      obtain ⟨g,o,cc,hsa',hgl,hto,hrep,hset⟩:=hM.rep.turnE hs' hd'
      rw [hsa] at hsa'
      have HP:Unit→M.sps[k]?=some s'∧s'.ss[i]?=some d'∧s'.ss.length=s.ss.length:=fun _=>⟨hs',hd',hsl⟩
      have HSE:Unit→∀ w1,Keep nil wr w1→_:=fun _ w1 k1=>linkTick_any cc 181 g (o + i * 25 + 1) d'.e d'.p w1 (hrep.keep k1 (fun _ _ e=>e)) (by have:=hM.ok.out k s'.abs (abs_spot hs') i d'.abs (by simp [Sp.abs,hd']); have h2:d'.e.out=[]:=this; rw [h2]; simp)
      have HSET:Unit→_:=fun _=>hset
      rw [hsa'] at hp1
      clear hi hil hM hto hrep hset hs' hd' hsa hsa' hsc hsl hMn
      go_wp2_with fail
      refine Calls.mono (HSE () wr (Keep.refl nil wr)) ?_
      rintro r w2 ⟨rfl,p',hr2,hst2⟩
      obtain ⟨M2,s2,d2,HM2⟩:∃ M2 s2 d2,Unit→NtR w2 M2∧M2.abs=M.abs.modE k i En.tick∧NtTo wr w2 M M2∧M2.way=M.way∧(∀ f ∈ d'.e.tick.out,FrOk f)∧M2.sps[k]?=some s2∧s2.ss[i]?=some d2∧d2.e=d'.e.tick∧s2.ss.length=s'.ss.length∧M2.sps.length=M.sps.length∧M2.L=M.L:=by
        obtain ⟨M2,s2,d2,a1,a2,a3,a4,a5,a6,a7,a8,a9,a10,a11,a12,a13⟩:=HSET () wr w2 _ p' (Keep.refl nil wr) hr2 hst2
        exact ⟨M2,s2,d2,fun _=>⟨a1,a2 _ rfl,a3,a4,a5,a6,a7,a8,a9,a10,a11⟩⟩
      have HCY:Unit→∀ w4,Keep nil w2 w4→_:=fun _ w4 k4=>by
        obtain ⟨a1,a2,a3,a4,a5,a6,a7,a8,a9,a10,a11⟩:=HM2 ()
        have hMs:=(HM ()).1.ok
        refine carry_any M2 k i s2 d2 w4 (a1.keep k4 (fun _ _ e=>e)) a6 a7 ?_ ?_ ?_ ?_
        · rw [a11]; have:=hMs.bag; rw [NtR.abs_len.1] at this; omega
        · rw [a10]; have:=hMs.few; rw [NtR.abs_len.2] at this; omega
        · rw [a9,(HP ()).2.2]; have:=(H ()).2.2.2.2; omega
        · rw [a8]
          have h1:=tick_len d'.e
          have h2:d'.e.out=[]:=hMs.out k s'.abs (abs_spot (HP ()).1) i d'.abs (by have:=(HP ()).2.1; simp [Sp.abs,this])
          rw [h2] at h1
          simp only [List.length_nil] at h1
          omega
      have hnb2:M2.nb=nb:=by rw [HNB (),(HM2 ()).2.2.1.nb,(HM ()).1.to_.nb]
      rw [hnb2] at HCY
      clear HSET HSE hr2 hst2 q1 hp1 hnb2 hnl hpl hgl
      go_wp2_with fail
      refine Calls.mono (HCY () w2 (Keep.refl nil w2)) ?_
      rintro r w5 ⟨rfl,M3,b1,b2,b3,b4⟩
      have HN:Unit→Tst w w5 N k B (i + 1) M3:=fun _=>by
        obtain ⟨a1,a2,a3,a4,a5,a6,a7,a8,a9,a10,a11⟩:=HM2 ()
        exact (HM ()).1.next (HP ()).1 (HP ()).2.1 a2 a3 a4 a5 b1 b2 b3 b4
      clear HCY b1 b2 b3 b4
      go_wp2
      exact ⟨⟨i + 1,M3,by have:=HIL (); omega,by go_num,HN ()⟩,by have:=HIL (); simp [intOf]; omega⟩
    · have HE:Unit→i=s.ss.length:=fun _=>by have:=(HM ()).2; rw [← HLN ()]; omega
      have hiI:¬ ((i:Int) < (ln:Int)):=by omega
      clear hi hil hM hMn
      go_wp2
      go_ret
      have h1:=(HM ()).1
      have ha:M.abs=N.abs.tick k:=by rw [h1.abs,AN.tick,abs_spot (H ()).2.1,HE ()]; simp [Sp.abs]
      exact ⟨rfl,M,h1.rep,ha,h1.to_,h1.way,h1.ok,by rw [h1.abs]; unfold ASt; rw [nods_ticks]; exact (H ()).2.2.2.1⟩
end Go.Proofs.YtlfijfodklhplaaGreat
