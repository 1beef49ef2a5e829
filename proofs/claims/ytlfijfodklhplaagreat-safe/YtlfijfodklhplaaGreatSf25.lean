import Derived.Test.YtlfijfodklhplaaGreatSf24
import Derived.Test.YtlfijfodklhplaaGreatSf19
import Derived.Deep.MidRow
set_option linter.unusedVariables false
set_option linter.unusedSimpArgs false
namespace Go.Proofs.YtlfijfodklhplaaGreat
open Go.RowKit
theorem spcells_get (l:List Sp):∀ (k:Nat) (s:Sp),l[k]?=some s→(spcells l)[k * 2]?=some (.pointer (some ⟨s.b,0,none⟩))∧(spcells l)[k * 2 + 1]?=some (.slice s.sa s.ss.length s.sc):=by
  induction l with
  | nil=>intro k s h; simp at h
  | cons x t ih =>
    intro k s h
    have hc:spcells (x :: t)=spcell x++spcells t:=by simp [spcells]
    have hl:(spcell x).length=2:=rfl
    rw [hc]
    cases k with
    | zero =>
      simp only [List.getElem?_cons_zero,Option.some.injEq] at h
      subst h
      exact ⟨rfl,rfl⟩
    | succ k =>
      simp only [List.getElem?_cons_succ] at h
      obtain ⟨h1,h2⟩:=ih k s h
      refine ⟨?_,?_⟩
      · rw [List.getElem?_append_right (by omega),hl,show (k + 1) * 2 - 2=k * 2 by omega]; exact h1
      · rw [List.getElem?_append_right (by omega),hl,show (k + 1) * 2 + 1 - 2=k * 2 + 1 by omega]; exact h2
theorem NtR.spot_at {w:World} {N:Nt} (h:NtR w N) {k:Nat} {s:Sp} (hs:N.sps[k]?=some s):∃ pb po,N.pa=some ⟨pb,po,none⟩∧pb < w.heap.size∧w.cell? ⟨pb,po + k * 2,none⟩=some (.pointer (some ⟨s.b,0,none⟩))∧w.cell? ⟨pb,po + k * 2 + 1,none⟩=some (.slice s.sa s.ss.length s.sc):=by
  have hj:=(List.getElem?_eq_some_iff.1 hs).1
  obtain ⟨g,q,h3,hv⟩:=rv_pos h.prow (by omega)
  obtain ⟨c0,c1⟩:=spcells_get N.sps k s hs
  exact ⟨g,q,h3,hv.lt,hv.cell _ _ c0,by rw [Nat.add_assoc]; exact hv.cell _ _ c1⟩
theorem NtR.c0 {w:World} {N:Nt} (h:NtR w N):w.cell? ⟨N.nb,0,none⟩=some (.slice N.ea N.es.length N.ec):=by rw [h.blk.cell]; rfl
theorem NtR.c1 {w:World} {N:Nt} (h:NtR w N):w.cell? ⟨N.nb,1,none⟩=some (.slice N.pa N.sps.length N.pc):=by rw [h.blk.cell]; rfl
theorem NtR.c2 {w:World} {N:Nt} (h:NtR w N):w.cell? ⟨N.nb,2,none⟩=some (.slice N.ba N.L.length N.bc):=by rw [h.blk.cell]; rfl
theorem Buf.prow {w:World} {g c:Nat} {l:List Nat} (h:Buf w g l c):PRow w g l c:=by
  obtain ⟨sp,hb,hl⟩:=h
  exact ⟨by simp,by omega,Or.inr ⟨g,0,rfl,[],sp,by simpa using hb,rfl,by simp; omega⟩⟩
theorem badd_le (L:List Pk) (x:Pk) (h:L.length≤300):(badd L x).length≤300:=by
  unfold badd; split
  · simp; omega
  · exact h
theorem mem_badd {L:List Pk} {x y:Pk} (h:y ∈ badd L x):y ∈ L∨y=x:=by
  unfold badd at h
  split at h
  · rcases List.mem_append.1 h with h | h
    · exact Or.inl h
    · exact Or.inr (List.mem_singleton.1 h)
  · exact Or.inl h
theorem badd_apart {L:List Pk} {x:Pk} (h:L.Pairwise (fun x y=>x.g≠y.g)) (hx:∀ y ∈ L,y.g≠x.g):(badd L x).Pairwise (fun x y=>x.g≠y.g):=by
  unfold badd; split
  · rw [List.pairwise_append]
    exact ⟨h,List.pairwise_singleton _ _,fun a ha b hb=>by rw [List.mem_singleton.1 hb]; exact hx a ha⟩
  · exact h
structure Cry (w wr : World) (N : Nt) (k j : Nat) (d : Sd) (i : Nat) (M : Nt) : Prop where
  rep:NtR wr M
  abs:M.abs=(N.abs.modE k j En.outs).adds k d.to_ (d.e.out.take i)
  to_:NtTo w wr N M
  way:M.way=fun b=>N.way b∨inB d.p.oa b∨b ∈ d.p.gs.drop i
  len:M.L.length≤300
  row:RV wr 56 1 d.p.oa d.e.out.length d.p.oc (ovals d.p.gs d.e.out)
  bufs:∀ (i' g:Nat) (f:Fr.Frm),i≤i'→d.p.gs[i']?=some g→d.e.out[i']?=some f→Buf wr g (Fr.enc f) 10
theorem Cry.side {w wr:World} {N M:Nt} {k j i:Nat} {d:Sd} {s:Sp} (h:Cry w wr N k j d i M) (hs:N.sps[k]?=some s) (hd:s.ss[j]?=some d):∃ s' d',M.sps[k]?=some s'∧s'.ss[j]?=some d'∧s'.sa=s.sa∧d'.to_=d.to_:=by
  obtain ⟨s',h1,h2⟩:=h.to_.spot hs
  obtain ⟨_,h3,_,h4,h5⟩:=fix_parts h2
  have h6:(s'.ss.map Sd.to_)[j]?=some d.to_:=by rw [h4]; simp [hd]
  rw [List.getElem?_map] at h6
  obtain ⟨d',h7,h8⟩:=Option.map_eq_some_iff.1 h6
  exact ⟨s',d',h1,h7,h3,h8⟩
theorem Cry.keep {w wr w1:World} {N M:Nt} {k j i:Nat} {d:Sd} (h:Cry w wr N k j d i M) (k1:Keep nil wr w1):Cry w w1 N k j d i M :=
  ⟨h.rep.keep k1 (fun _ _ e=>e),h.abs,h.to_.trans (NtTo.of_keep M k1),h.way,h.len,h.row.keep k1 (fun _ _ e=>e),fun i' g f a b c=>(h.bufs i' g f a b c).keep k1 (fun e=>e)⟩
theorem take_succ_get {α:Type} {l:List α} {i:Nat} {x:α} (h:l[i]?=some x):l.take (i + 1)=l.take i++[x]:=by rw [List.take_add_one,h]; rfl
theorem Cry.next {w wr w2 : World} {N M : Nt} {k j i : Nat} {d : Sd} (h : Cry w wr N k j d i M) (hE : RepL w d.e d.p) (hO : ∀ b, b ∈ d.p.gs → N.Own b ∧ ¬ N.way b) {g : Nat} {f : Fr.Frm} (hg : d.p.gs[i]? = some g) (hf : d.e.out[i]? = some f) (ba' : Option Addr) (bc' : Nat)
    (hb:Bag w2 M.nb 2 (badd M.L ⟨k,d.to_,Fr.enc f,g,10,false⟩) ba' bc') (hto:BagTo wr w2 M.nb 2 M.ba ba' (.slice ba' (badd M.L ⟨k,d.to_,Fr.enc f,g,10,false⟩).length bc')) :
    ∃ M',Cry w w2 N k j d (i + 1) M':=by
  have hgm:g ∈ d.p.gs:=List.mem_of_getElem? hg
  have hdrop:d.p.gs.drop i=g :: d.p.gs.drop (i + 1):=by
    obtain ⟨hi,e⟩:=List.getElem?_eq_some_iff.1 hg
    rw [List.drop_eq_getElem_cons hi,e]
  have hgd:g ∈ d.p.gs.drop i:=by rw [hdrop]; exact List.mem_cons_self ..
  have hgw:M.way g:=by rw [h.way]; exact Or.inr (Or.inr hgd)
  have hnd:g ∉ d.p.gs.drop (i + 1):=by
    have:=hE.gn.sublist (List.drop_sublist i d.p.gs)
    rw [hdrop] at this
    exact (List.nodup_cons.1 this).1
  have hold:∀ y ∈ M.L,¬ M.way y.g:=fun y hy e=>by have:=h.rep.apart .pks .way y.g ⟨y,hy,rfl⟩ e; cases this
  have hbuf:=h.bufs i g f (Nat.le_refl _) hg hf
  have hne:∀ b,M.way b→¬ (b=M.nb∨inB M.ba b):=fun b hb' e=>by
    rcases e with e | e
    · have:=h.rep.apart .way .net b hb' e; cases this
    · have:=h.rep.apart .way .bag b hb' e; cases this
  obtain ⟨r1, r2⟩ := h.rep.setB (badd M.L ⟨k, d.to_, Fr.enc f, g, 10, false⟩) ba' bc' (fun b => N.way b ∨ inB d.p.oa b ∨ b ∈ d.p.gs.drop (i + 1)) hb hto
    (fun x hx=>by
      rcases mem_badd hx with e | rfl
      · exact Or.inl e
      · exact Or.inr ⟨hgw,hbuf.prow⟩)
    (badd_apart h.rep.pkn (fun y hy e=>hold y hy (e ▸ hgw)))
    (fun b hb'=>by
      have hw':M.way b:=by
        rw [h.way]
        rcases hb' with e | e | e
        · exact Or.inl e
        · exact Or.inr (Or.inl e)
        · exact Or.inr (Or.inr (by rw [hdrop]; exact List.mem_cons_of_mem _ e))
      refine ⟨hw',fun x hx e=>?_⟩
      rcases mem_badd hx with e2 | rfl
      · exact hold x e2 (e ▸ hw')
      · subst e
        rcases hb' with e | e | e
        · exact (hO _ hgm).2 e
        · exact (hE.gw _ hgm).2 e
        · exact hnd e)
  refine ⟨_,r1,?_,?_,rfl,badd_le _ _ h.len,?_,?_⟩
  · rw [abs_add,h.abs,take_succ_get hf]
    simp [AN.adds,List.foldl_append,Pk.abs]
  · exact r2 w N h.to_ (fun x hx=>by
      rcases mem_badd hx with e | rfl
      · exact Or.inl e
      · exact Or.inr (Or.inl (hO g hgm).1))
  · exact h.row.keep hto.keep (fun b hb'=>hne b (by rw [h.way]; exact Or.inr (Or.inl hb')))
  · intro i' g' f' hi' hg' hf'
    refine (h.bufs i' g' f' (by omega) hg' hf').keep hto.keep (hne g' ?_)
    rw [h.way]
    refine Or.inr (Or.inr ?_)
    obtain ⟨hl,e⟩:=List.getElem?_eq_some_iff.1 hg'
    exact List.mem_of_getElem? (i:=i' - i) (by rw [List.getElem?_drop,show i + (i' - i)=i' by omega]; exact hg')
theorem Cry.done {w wr:World} {N M:Nt} {k j:Nat} {d:Sd} {s:Sp} (h:Cry w wr N k j d d.e.out.length M) (hs:N.sps[k]?=some s) (hd:s.ss[j]?=some d) :
    NtR wr { M with way:=N.way }∧({ M with way:=N.way }:Nt).abs=N.abs.carry k j∧NtTo w wr N { M with way:=N.way }:=by
  refine ⟨h.rep.wayTo (Keep.refl nil wr) N.way (fun i hi=>Or.inl (by rw [h.way]; exact Or.inl hi)),?_,?_⟩
  · rw [abs_way,h.abs,List.take_length,AN.carry,abs_side hs hd]
  · have:=h.to_.way N.way N.way; exact this
theorem Cry.start {w w1 : World} {N : Nt} {k j : Nat} {d : Sd} {s : Sp} (h : NtR w N) (hs : N.sps[k]? = some s) (hd : s.ss[j]? = some d) (hl : N.L.length ≤ 300) {g o : Nat} {c : Array Value} (hsa : s.sa = some ⟨g, o, none⟩)
    (hr:Rep w1 c 181 g (o + j * 25 + 1) d.e.outs { d.p with oa:=none,oc:=0,gs:=[] }) (hk:Keep (only g) w w1)
    (hset:∀ (w':World) (e':En) (p':Pl) (R:Nat→Prop),Rep w' c 181 g (o + j * 25 + 1) e' p'→Keep (fun k=>k=g∨ELst d.p k) w w'→(∀ k,ELst p' k→ELst d.p k∨w.heap.size≤k)→(∀ k,R k→ELst d.p k∧¬ ELst p' k) →
        NtR w' (N.setE k s j d e' p' R)∧NtTo w w' N (N.setE k s j d e' p' R)) :
    ∃ M,Cry w w1 N k j d 0 M:=by
  have hE:=h.ends k s hs j d hd
  have hgE:∀ b,ELst d.p b→b≠g:=fun b hb e=>by
    subst e
    have:=h.apart (.spot k (.ends j)) (.spot k .side) b ⟨s,hs,d,hd,hb⟩ ⟨s,hs,by show inB s.sa b; rw [hsa]; exact inB_self b o⟩
    cases this
  obtain ⟨r1, r2⟩ := hset w1 d.e.outs { d.p with oa := none, oc := 0, gs := [] } (fun b => inB d.p.oa b ∨ b ∈ d.p.gs) hr (hk.mono (fun _ _ e => Or.inl e))
    (fun b hb=>by
      rcases hb with e | e | e
      · exact Or.inl (Or.inl e)
      · exact (inB_none b e).elim
      · cases e)
    (fun b hb=>by
      rcases hb with e | e
      · refine ⟨Or.inr (Or.inl e),?_⟩
        rintro (x | x | x)
        · exact hE.wo b x e
        · exact inB_none b x
        · cases x
      · refine ⟨Or.inr (Or.inr e),?_⟩
        rintro (x | x | x)
        · exact (hE.gw b e).1 x
        · exact inB_none b x
        · cases x)
  refine ⟨_,r1,?_,r2,rfl,hl,hE.orow.keep hk (fun b hb=>hgE b (Or.inr (Or.inl hb))),fun i' g' f' _ hg' hf'=>(hE.bufs i' g' f' hg' hf').keep hk (hgE g' (Or.inr (Or.inr (List.mem_of_getElem? hg'))))⟩
  rw [abs_setE hs hd _ _ _ En.outs rfl]; rfl
theorem Cry.frame {w wr:World} {N M:Nt} {k j i:Nat} {d:Sd} (h:Cry w wr N k j d i M) (hE:RepL w d.e d.p) (hi:i < d.e.out.length):∃ g f oa oo,d.p.gs[i]?=some g∧d.e.out[i]?=some f∧d.p.oa=some ⟨oa,oo,none⟩∧oa < wr.heap.size∧wr.cell? ⟨oa,oo + i,none⟩=some (.slice (some ⟨g,0,none⟩) (Fr.enc f).length 10):=by
  have hg:d.p.gs[i]?=some (d.p.gs[i]'(by rw [hE.gl]; exact hi)):=List.getElem?_eq_getElem _
  have hf:d.e.out[i]?=some d.e.out[i]:=List.getElem?_eq_getElem _
  obtain ⟨oa,oo,h1,h2⟩:=rv_pos h.row (by omega)
  refine ⟨_,_,oa,oo,hg,hf,h1,h2.lt,h2.cell i _ ?_⟩
  rw [ovals,List.getElem?_zipWith,hg,hf]
  simp only [fval,enc_len]
set_option maxRecDepth 100000 in
set_option maxHeartbeats 4000000 in
theorem carry_any (N:Nt) (k j:Nat) (s:Sp) (d:Sd) (w:World) (h:NtR w N) (hs:N.sps[k]?=some s) (hd:s.ss[j]?=some d) (hl:(N.L.length:Int)≤300) (hk9:(N.sps.length:Int) < 2000) (hj9:(s.ss.length:Int) < 2000) (ho9:(d.e.out.length:Int) < 1000000) :
    Calls Tryz.prog 112 #[.pointer (some ⟨N.nb,0,none⟩),.int .i64 (k:Int),.int .i64 (j:Int)] w fun r w'=>r=.returned (.tuple #[])∧∃ N',NtR w' N'∧N'.abs=N.abs.carry k j∧NtTo w w' N N'∧N'.way=N.way:=by
  obtain ⟨g,o,c,hsa,hgl,hto,hrep,hset⟩:=h.atEnd hs hd
  obtain ⟨pb,po,hpa,hpl,hp0,hp1⟩:=h.spot_at hs
  have hkl:=(List.getElem?_eq_some_iff.1 hs).1
  have hjl:=(List.getElem?_eq_some_iff.1 hd).1
  have q1:=h.c1
  have hnl:=h.blk.lt
  have hE:=h.ends k s hs j d hd
  have hO:∀ b,b ∈ d.p.gs→N.Own b∧¬ N.way b:=fun b hb=>by
    have h1:N.own (.spot k (.ends j)) b:=⟨s,hs,d,hd,Or.inr (Or.inr hb)⟩
    exact ⟨⟨_,by simp,h1⟩,fun e=>by have:=h.apart _ _ b h1 (show N.own .way b from e); cases this⟩
  rw [hpa] at q1
  rw [hsa] at hp1
  have H:Unit→NtR w N∧N.sps[k]?=some s∧s.ss[j]?=some d∧N.L.length≤300∧RepL w d.e d.p∧(∀ b,b ∈ d.p.gs→N.Own b∧¬ N.way b):=fun _=>⟨h,hs,hd,by omega,hE,hO⟩
  have HO9:Unit→(d.e.out.length:Int) < 1000000:=fun _=>ho9
  have HC:Unit→∀ w1,Keep nil w w1→_:=fun _ w1 k1=>linkOut_any c 181 g (o + j * 25 + 1) d.e d.p w1 (hrep.keep k1 (fun _ _ e=>e))
  have HS:Unit→∀ w1,Rep w1 c 181 g (o + j * 25 + 1) d.e.outs { d.p with oa:=none,oc:=0,gs:=[] }→Keep (only g) w w1→∃ M,Cry w w1 N k j d 0 M:=fun _ w1 hr hk=>Cry.start h hs hd (by omega) hsa hr hk hset
  have HNB:Unit→∀ M wr i,Cry w wr N k j d i M→M.nb=N.nb:=fun _ M wr i hc=>hc.to_.nb
  have HTO:Unit→∀ M wr i,Cry w wr N k j d i M→wr.cell? ⟨g,o + j * 25,none⟩=some (.int .i64 (d.to_:Int))∧g < wr.heap.size:=fun _ M wr i hc=>by
    obtain ⟨s',d',a1,a2,a3,a4⟩:=hc.side hs hd
    obtain ⟨g',o',_,b1,b2,b3,_⟩:=hc.rep.atEnd a1 a2
    rw [a3,hsa] at b1
    cases b1
    exact ⟨by rw [← a4]; exact b3,b2⟩
  have hkI:(k:Int) < (N.sps.length:Int):=by omega
  have hjI:(j:Int) < (s.ss.length:Int):=by omega
  have hk8:(k:Int) < 2000:=by omega
  have hj8:(j:Int) < 2000:=by omega
  obtain ⟨nb,hnb⟩:∃ nb,nb=N.nb:=⟨_,rfl⟩
  obtain ⟨ln,hln⟩:∃ ln,ln=d.e.out.length:=⟨_,rfl⟩
  have HNB2:Unit→nb=N.nb∧ln=d.e.out.length:=fun _=>⟨hnb,hln⟩
  rw [← hln] at HC
  rw [← hnb] at q1 hnl ⊢
  clear h hs hd hl hrep hset hE hO hkl hjl hto hsa hpa ho9 hnb hln
  go_enter Tryz.func112,Tryz.ntmps112
  go_wp2_with fail
  refine Calls.mono (HC () _ (Keep.refl nil w)) ?_
  rintro r w1 ⟨rfl,hr1,hk1⟩
  have H1:Unit→∃ M,Cry w w1 N k j d 0 M:=fun _=>HS () w1 hr1 hk1
  clear HC HS hr1 hk1 hp0 hp1 q1 hgl hpl hnl
  go_wp2_with fail
  go_loopw [24] (fun v wr=>∃ (i:Nat) (M:Nt),i≤ln∧v=.int .i64 (i:Int)∧Cry w wr N k j d i M) (fun v _=>ln - (intOf v).toNat)
  case atStart =>
    obtain ⟨M,hM⟩:=H1 ()
    exact ⟨0,M,by omega,rfl,hM⟩
  case round =>
    obtain ⟨i,M,hi,rfl,hM⟩:=hrel
    have HM:Unit→Cry w wr N k j d i M∧i≤ln:=fun _=>⟨hM,hi⟩
    obtain ⟨ht0,htl⟩:=HTO () M wr i hM
    have hnw:nb < wr.heap.size:=by rw [(HNB2 ()).1,← HNB () M wr i hM]; exact hM.rep.blk.lt
    by_cases hil:i < ln
    · have HIL:Unit→i < ln:=fun _=>hil
      have hiI:(i:Int) < (ln:Int):=by omega
      have hi9:(i:Int) < 1000000:=by have:=HO9 (); rw [← (HNB2 ()).2] at this; omega
      have HI9:Unit→(i:Int) < 1000000:=fun _=>hi9
      obtain ⟨gi,f,oa,oo,hg,hf,hoa,hol,hoc⟩:=hM.frame (H ()).2.2.2.2.1 (by rw [← (HNB2 ()).2]; exact hil)
      have HGF:Unit→d.p.gs[i]?=some gi∧d.e.out[i]?=some f:=fun _=>⟨hg,hf⟩
      have HA:Unit→∀ w1,Keep nil wr w1→_:=fun _ w1 k1=>bagAdd_any M.nb 2 M.L M.ba M.bc ⟨k,d.to_,Fr.enc f,gi,10,false⟩ w1 (((HM ()).1.rep.keep k1 (fun _ _ e=>e)).bag) (by have:=(HM ()).1.len; omega)
      simp only [Pk.slice] at HA
      rw [HNB () M wr i hM,← (HNB2 ()).1] at HA
      obtain ⟨fl,hfl⟩:∃ fl,fl=(Fr.enc f).length:=⟨_,rfl⟩
      rw [← hfl] at HA hoc
      clear hi hil hM hg hf hfl
      rw [hoa]
      go_wp2_with fail
      go_still_tail 11,(by kernel_rfl)
      go_wp2_with fail
      refine Calls.mono (HA () _ ((Keep.refl nil wr).drew)) ?_
      rintro r w2 ⟨rfl,ba',bc',hb,hbt⟩
      have HN:Unit→∃ M',Cry w w2 N k j d (i + 1) M':=fun _=>((HM ()).1.keep ((Keep.refl nil wr).drew)).next (H ()).2.2.2.2.1 (H ()).2.2.2.2.2 (HGF ()).1 (HGF ()).2 ba' bc' (by rw [HNB () M wr i (HM ()).1,← (HNB2 ()).1]; exact hb) (by rw [HNB () M wr i (HM ()).1,← (HNB2 ()).1]; exact hbt)
      clear HA hb hbt hoc hol ht0 htl hnw
      go_wp2
      obtain ⟨M',hM'⟩:=HN ()
      exact ⟨⟨i + 1,M',by have:=HIL (); omega,by go_num,hM'⟩,by have:=HIL (); simp [intOf]; omega⟩
    · have ei:i=ln:=by omega
      have HE:Unit→i=ln:=fun _=>ei
      have hiI:¬ ((i:Int) < (ln:Int)):=by omega
      clear hi hil hM ei
      go_wp2
      go_end0
      obtain ⟨r1,r2,r3⟩:=Cry.done (by have:=(HM ()).1; rw [HE (),(HNB2 ()).2] at this; exact this) (H ()).2.1 (H ()).2.2.1
      exact ⟨rfl,_,r1,r2,r3,rfl⟩
theorem side_size:(Tryz.prog.info? 181).map (·.size)=some 25:=by kernel_rfl
theorem edgeTo1_list (kb k t:Nat) (cs:List Value) (hl:cs.length=24) (w:World) (hc:w.cell? ⟨kb,0,none⟩=some (.int .i64 (k:Int))) (hkl:kb < w.heap.size) :
    Calls Tryz.prog 169 #[.agg (.int .i64 (t:Int) :: cs).toArray,.pointer (some ⟨kb,0,none⟩)] w fun r w'=>r=.returned (.bool (decide (t=k)))∧Keep nil w w' :=
  match cs,hl with
  | [v1,v2,v3,v4,v5,v6,v7,v8,v9,v10,v11,v12,v13,v14,v15,v16,v17,v18,v19,v20,v21,v22,v23,v24],_=>edgeTo1_any kb k t v1 v2 v3 v4 v5 v6 v7 v8 v9 v10 v11 v12 v13 v14 v15 v16 v17 v18 v19 v20 v21 v22 v23 v24 w hc hkl
def SRow2 (w:World) (g q:Nat) (tos:List Nat):Prop:=∀ (i t:Nat),tos[i]?=some t→∃ cs:List Value,cs.length=24∧w.rangeAt g (q + i * 25) (.int .i64 (t:Int) :: cs)
theorem SRow2.keep {ex:Nat→Prop} {w w':World} {g q:Nat} {tos:List Nat} (h:SRow2 w g q tos) (k:Keep ex w w') (hg:g < w.heap.size) (hn:¬ ex g):SRow2 w' g q tos:=fun i t ht=>by
  obtain ⟨cs,h1,h2⟩:=h i t ht
  exact ⟨cs,h1,fun j v hv=>(k.cell g _ hg hn).trans (h2 j v hv)⟩
set_option maxRecDepth 100000 in
set_option maxHeartbeats 4000000 in
theorem sideIndex_any (kb k g q sc:Nat) (tos:List Nat) (j:Nat) (w:World) (hs:SRow2 w g q tos) (hg:g < w.heap.size) (hl:(tos.length:Int) < 1000) (hj:tos[j]?=some k) (hf:∀ i,i < j→tos[i]?≠some k) (hc:w.cell? ⟨kb,0,none⟩=some (.int .i64 (k:Int))) (hkl:kb < w.heap.size) :
    Calls Tryz.prog 168 #[.slice (some ⟨g,q,none⟩) tos.length sc,.func (.func 169) #[] #[.pointer (some ⟨kb,0,none⟩)]] w fun r w'=>r=.returned (.int .i64 (j:Int))∧Keep nil w w':=by
  have H:Unit→SRow2 w g q tos∧g < w.heap.size∧(tos.length:Int) < 1000∧tos[j]?=some k∧(∀ i,i < j→tos[i]?≠some k)∧w.cell? ⟨kb,0,none⟩=some (.int .i64 (k:Int))∧kb < w.heap.size:=fun _=>⟨hs,hg,hl,hj,hf,hc,hkl⟩
  clear hs hg hl hj hf hc hkl
  go_enter Tryz.func168,Tryz.ntmps168
  go_wp2_with fail
  go_loopw [8] (fun v wr=>∃ i:Nat,i≤j∧v=.int .i64 (i:Int)∧Keep nil w wr) (fun v _=>tos.length - (intOf v).toNat)
  case atStart=>exact ⟨0,by omega,rfl,Keep.refl _ _⟩
  case round =>
    obtain ⟨i,hi,rfl,hkw⟩:=hrel
    have hjl:=(List.getElem?_eq_some_iff.1 (H ()).2.2.2.1).1
    have HR:Unit→Keep nil w wr∧i≤j∧j < tos.length:=fun _=>⟨hkw,hi,hjl⟩
    obtain ⟨t,ht⟩:∃ t,tos[i]?=some t:=⟨_,List.getElem?_eq_getElem (by omega)⟩
    have HT:Unit→tos[i]?=some t:=fun _=>ht
    obtain ⟨cs,HCL,HCR⟩:∃ cs:List Value,(Unit→cs.length=24)∧(Unit→wr.rangeAt g (q + i * 25) (.int .i64 (t:Int) :: cs)):=by
      obtain ⟨cs,h1,h2⟩:=(H ()).1.keep hkw (H ()).2.1 id i t ht
      exact ⟨cs,fun _=>h1,fun _=>h2⟩
    have hgl:g < wr.heap.size:=Nat.lt_of_lt_of_le (H ()).2.1 hkw.size
    have hiI:(i:Int) < (tos.length:Int):=by omega
    have hi9:(i:Int) < 1000:=by have:=(H ()).2.2.1; omega
    have HC:Unit→∀ w1,Keep nil wr w1→_:=fun _ w1 k1=>edgeTo1_list kb k t cs (HCL ()) w1 (((HR ()).1.trans k1).cell kb 0 (H ()).2.2.2.2.2.2 id |>.trans (H ()).2.2.2.2.2.1) (Nat.lt_of_lt_of_le (H ()).2.2.2.2.2.2 ((HR ()).1.trans k1).size)
    clear hkw hi hjl ht
    go_wp2_with (refine wpList_load_mid rfl 181 _ rfl g (q + i * 25) rfl (.int .i64 (t:Int) :: cs) _ (HCR ()) Tryz.underlying181 rfl (side_size.trans (congrArg some (congrArg Nat.succ (HCL ()).symm))) ?_)
    refine Calls.mono (HC () _ (Keep.refl nil wr)) ?_
    rintro r w2 ⟨rfl,hk2⟩
    have HK:Unit→Keep nil w w2:=fun _=>(HR ()).1.trans hk2
    clear hk2 HC
    by_cases hd:t=k
    · rw [decide_eq_true hd]
      have HIJ:Unit→i=j:=fun _=>by
        rcases Nat.lt_or_ge i j with h | h
        · exact ((H ()).2.2.2.2.1 i h (by rw [HT (),hd])).elim
        · have:=(HR ()).2.1; omega
      go_wp2
      go_ret
      exact ⟨by rw [← HIJ ()]; rfl,HK ()⟩
    · rw [decide_eq_false hd]
      have HIJ:Unit→i < j:=fun _=>by
        rcases Nat.lt_or_ge i j with h | h
        · exact h
        · have e:i=j:=by have:=(HR ()).2.1; omega
          have h1:=(H ()).2.2.2.1
          rw [← e,HT ()] at h1
          exact (hd (Option.some.inj h1)).elim
      go_wp2
      exact ⟨⟨i + 1,by have:=HIJ (); omega,by go_num,HK ()⟩,by have:=HIJ (); have:=(HR ()).2.2; simp [intOf]; omega⟩
theorem NtR.srow {w:World} {N:Nt} (h:NtR w N) {k:Nat} {s:Sp} (hs:N.sps[k]?=some s) {g o:Nat} (hsa:s.sa=some ⟨g,o,none⟩):SRow2 w g o (s.ss.map Sd.to_):=by
  intro i t ht
  rw [List.getElem?_map] at ht
  obtain ⟨d,hd,rfl⟩:=Option.map_eq_some_iff.1 ht
  obtain ⟨g',o',c,h1,_,h3,h4,_⟩:=h.atEnd hs hd
  rw [hsa] at h1
  cases h1
  refine ⟨d.e.cells d.p,cells_len d.e d.p h4.four,fun j v hv=>?_⟩
  cases j with
  | zero=>simp only [List.getElem?_cons_zero,Option.some.injEq] at hv; subst hv; exact h3
  | succ j =>
    rw [List.getElem?_cons_succ] at hv
    have:=h4.cell j v hv
    rw [show o + i * 25 + 1 + j=o + i * 25 + (j + 1) by omega] at this
    exact this
set_option maxRecDepth 100000 in
set_option maxHeartbeats 4000000 in
theorem edgeTo_any (pb po k g q sc:Nat) (tos:List Nat) (j:Nat) (w:World) (hc:w.cell? ⟨pb,po + 1,none⟩=some (.slice (some ⟨g,q,none⟩) tos.length sc)) (hpl:pb < w.heap.size) (hs:SRow2 w g q tos) (hg:g < w.heap.size) (hl:(tos.length:Int) < 1000) (hj:tos[j]?=some k) (hf:∀ i,i < j→tos[i]?≠some k) :
    Calls Tryz.prog 115 #[.pointer (some ⟨pb,po,none⟩),.int .i64 (k:Int)] w fun r w'=>r=.returned (.int .i64 (j:Int))∧Keep nil w w':=by
  have HC:Unit→∀ w1 kb,Keep nil w w1→w1.cell? ⟨kb,0,none⟩=some (.int .i64 (k:Int))→kb < w1.heap.size→_:=fun _ w1 kb k1 hc hkl=>sideIndex_any kb k g q sc tos j w1 (hs.keep k1 hg id) (Nat.lt_of_lt_of_le hg k1.size) hl hj hf hc hkl
  clear hs hj hf hl
  go_enter Tryz.func115,Tryz.ntmps115
  go_wp2_with fail
  refine Calls.mono (HC () _ w.heap.size ((Keep.refl nil w).alloc _) (by simp) (by simp)) ?_
  rintro r w2 ⟨rfl,hk2⟩
  have HK:Unit→Keep nil w w2:=fun _=>((Keep.refl nil w).alloc _).trans hk2
  clear hk2 HC
  go_wp2
  go_ret
  exact ⟨rfl,HK ()⟩
end Go.Proofs.YtlfijfodklhplaaGreat
