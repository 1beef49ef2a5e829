import Derived.Test.YtlfijfodklhplaaGreatTn19
import Derived.Test.YtlfijfodklhplaaGreatTn15
import Derived.Deep.MidRow
set_option maxRecDepth 100000
set_option maxHeartbeats 4000000
set_option linter.unusedVariables false
set_option linter.unusedSimpArgs false
namespace Go.Proofs.YtlfijfodklhplaaGreat
open Go.RowKit
theorem carry_any(N:Nt)(k j:Nat)(s:Sp)(d:Sd)(w:World)(h:NtR w N)(hs:N.sps[k]?=some s)(hd:s.ss[j]?=some d)(hl:(N.L.length:Int)≤300)(hk9:(N.sps.length:Int)<2000)(hj9:(s.ss.length:Int)<2000)(ho9:(d.e.out.length:Int)<1000000):
 Calls Tryz.prog 112 #[.pointer (some ⟨N.nb,0,none⟩),.int .i64 (k:Int),.int .i64 (j:Int)] w fun r w'=>r=.returned (.tuple #[])∧∃N',NtR w' N'∧N'.abs=N.abs.carry k j∧NtTo w w' N N'∧N'.way=N.way:=by
 obtain⟨g,o,c,hsa,hgl,hto,hrep,hset⟩:=h.atEnd hs hd
 obtain⟨pb,po,hpa,hpl,hp0,hp1⟩:=h.spot_at hs
 have hkl:=(List.getElem?_eq_some_iff.1 hs).1
 have hjl:=(List.getElem?_eq_some_iff.1 hd).1
 have q1:=h.c1
 have hnl:=h.blk.lt
 have hE:=h.ends k s hs j d hd
 have hO:∀b,b∈d.p.gs→N.Own b∧¬N.way b:=fun b hb=>by
  have h1:N.own (.spot k (.ends j)) b:=⟨s,hs,d,hd,Or.inr (Or.inr hb)⟩
  exact⟨⟨_,by simp,h1⟩,fun e=>by have:=h.apart _ _ b h1 (show N.own .way b from e);cases this⟩
 rw[hpa]at q1
 rw[hsa]at hp1
 have H:Unit→NtR w N∧N.sps[k]?=some s∧s.ss[j]?=some d∧N.L.length≤300∧RepL w d.e d.p∧(∀b,b∈d.p.gs→N.Own b∧¬N.way b):=fun _=>⟨h,hs,hd,by omega,hE,hO⟩
 have HO9:Unit→(d.e.out.length:Int)<1000000:=fun _=>ho9
 have HC:Unit→∀w1,Keep nil w w1→_:=fun _ w1 k1=>linkOut_any c 181 g (o+j * 25+1) d.e d.p w1 (hrep.keep k1 (fun _ _ e=>e))
 have HS:Unit→∀w1,Rep w1 c 181 g (o+j * 25+1) d.e.outs { d.p with oa:=none,oc:=0,gs:=[]}→Keep (only g) w w1→∃M,Cry w w1 N k j d 0 M:=fun _ w1 hr hk=>Cry.start h hs hd (by omega) hsa hr hk hset
 have HNB:Unit→∀M wr i,Cry w wr N k j d i M→M.nb=N.nb:=fun _ M wr i hc=>hc.to_.nb
 have HTO:Unit→∀M wr i,Cry w wr N k j d i M→wr.cell? ⟨g,o+j * 25,none⟩=some (.int .i64 (d.to_:Int))∧g<wr.heap.size:=fun _ M wr i hc=>by
  obtain⟨s',d',a1,a2,a3,a4⟩:=hc.side hs hd
  obtain⟨g',o',_,b1,b2,b3,_⟩:=hc.rep.atEnd a1 a2
  rw[a3,hsa]at b1
  cases b1
  exact⟨by rw[←a4];exact b3,b2⟩
 have hkI:(k:Int)<(N.sps.length:Int):=by omega
 have hjI:(j:Int)<(s.ss.length:Int):=by omega
 have hk8:(k:Int)<2000:=by omega
 have hj8:(j:Int)<2000:=by omega
 obtain⟨nb,hnb⟩:∃nb,nb=N.nb:=⟨_,rfl⟩
 obtain⟨ln,hln⟩:∃ln,ln=d.e.out.length:=⟨_,rfl⟩
 have HNB2:Unit→nb=N.nb∧ln=d.e.out.length:=fun _=>⟨hnb,hln⟩
 rw[←hln]at HC
 rw[←hnb]at q1 hnl⊢
 clear h hs hd hl hrep hset hE hO hkl hjl hto hsa hpa ho9 hnb hln
 go_enter Tryz.func112,Tryz.ntmps112
 go_wp2_with fail
 refine Calls.mono (HC () _ (Keep.refl nil w)) ?_
 rintro r w1 ⟨rfl,hr1,hk1⟩
 have H1:Unit→∃M,Cry w w1 N k j d 0 M:=fun _=>HS () w1 hr1 hk1
 clear HC HS hr1 hk1 hp0 hp1 q1 hgl hpl hnl
 go_wp2_with fail
 go_loopw [24] (fun v wr=>∃(i:Nat) (M:Nt),i≤ln∧v=.int .i64 (i:Int)∧Cry w wr N k j d i M) (fun v _=>ln - (intOf v).toNat)
 case atStart=>
  obtain⟨M,hM⟩:=H1 ()
  exact⟨0,M,by omega,rfl,hM⟩
 case round=>
  obtain⟨i,M,hi,rfl,hM⟩:=hrel
  have HM:Unit→Cry w wr N k j d i M∧i≤ln:=fun _=>⟨hM,hi⟩
  obtain⟨ht0,htl⟩:=HTO () M wr i hM
  have hnw:nb<wr.heap.size:=by rw[(HNB2 ()).1,←HNB () M wr i hM];exact hM.rep.blk.lt
  by_cases hil:i<ln
  ·have HIL:Unit→i<ln:=fun _=>hil
   have hiI:(i:Int)<(ln:Int):=by omega
   have hi9:(i:Int)<1000000:=by have:=HO9 ();rw[←(HNB2 ()).2]at this;omega
   have HI9:Unit→(i:Int)<1000000:=fun _=>hi9
   obtain⟨gi,f,oa,oo,hg,hf,hoa,hol,hoc⟩:=hM.frame (H ()).2.2.2.2.1 (by rw[←(HNB2 ()).2];exact hil)
   have HGF:Unit→d.p.gs[i]?=some gi∧d.e.out[i]?=some f:=fun _=>⟨hg,hf⟩
   have HA:Unit→∀w1,Keep nil wr w1→_:=fun _ w1 k1=>bagAdd_any M.nb 2 M.L M.ba M.bc ⟨k,d.to_,Fr.enc f,gi,10,false⟩ w1 (((HM ()).1.rep.keep k1 (fun _ _ e=>e)).bag) (by have:=(HM ()).1.len;omega)
   simp only[Pk.slice]at HA
   rw[HNB () M wr i hM,←(HNB2 ()).1]at HA
   obtain⟨fl,hfl⟩:∃fl,fl=(Fr.enc f).length:=⟨_,rfl⟩
   rw[←hfl]at HA hoc
   clear hi hil hM hg hf hfl
   rw[hoa]
   go_wp2_with fail
   go_still_tail 11,(by kernel_rfl)
   go_wp2_with fail
   refine Calls.mono (HA () _ ((Keep.refl nil wr).drew)) ?_
   rintro r w2 ⟨rfl,ba',bc',hb,hbt⟩
   have HN:Unit→∃M',Cry w w2 N k j d (i+1) M':=fun _=>((HM ()).1.keep ((Keep.refl nil wr).drew)).next (H ()).2.2.2.2.1 (H ()).2.2.2.2.2 (HGF ()).1 (HGF ()).2 ba' bc' (by rw[HNB () M wr i (HM ()).1,←(HNB2 ()).1];exact hb) (by rw[HNB () M wr i (HM ()).1,←(HNB2 ()).1];exact hbt)
   clear HA hb hbt hoc hol ht0 htl hnw
   go_wp2
   obtain⟨M',hM'⟩:=HN ()
   exact⟨⟨i+1,M',by have:=HIL ();omega,by go_num,hM'⟩,by have:=HIL ();simp[intOf];omega⟩
  ·have ei:i=ln:=by omega
   have HE:Unit→i=ln:=fun _=>ei
   have hiI:¬((i:Int)<(ln:Int)):=by omega
   clear hi hil hM ei
   go_wp2
   go_end0
   obtain⟨r1,r2,r3⟩:=Cry.done (by have:=(HM ()).1;rw[HE (),(HNB2 ()).2]at this;exact this) (H ()).2.1 (H ()).2.2.1
   exact⟨rfl,_,r1,r2,r3,rfl⟩
theorem side_size:(Tryz.prog.info? 181).map (·.size)=some 25:=by kernel_rfl
theorem edgeTo1_list(kb k t:Nat)(cs:List Value)(hl:cs.length=24)(w:World)(hc:w.cell? ⟨kb,0,none⟩=some (.int .i64 (k:Int)))(hkl:kb<w.heap.size):
 Calls Tryz.prog 169 #[.agg (.int .i64 (t:Int)::cs).toArray,.pointer (some ⟨kb,0,none⟩)] w fun r w'=>r=.returned (.bool (decide (t=k)))∧Keep nil w w':=
 match cs,hl with
 |[v1,v2,v3,v4,v5,v6,v7,v8,v9,v10,v11,v12,v13,v14,v15,v16,v17,v18,v19,v20,v21,v22,v23,v24],_=>edgeTo1_any kb k t v1 v2 v3 v4 v5 v6 v7 v8 v9 v10 v11 v12 v13 v14 v15 v16 v17 v18 v19 v20 v21 v22 v23 v24 w hc hkl
def SRow2(w:World)(g q:Nat)(tos:List Nat):Prop:=∀(i t:Nat),tos[i]?=some t→∃cs:List Value,cs.length=24∧w.rangeAt g (q+i * 25) (.int .i64 (t:Int)::cs)
theorem SRow2.keep{ex:Nat→Prop}{w w':World}{g q:Nat}{tos:List Nat}(h:SRow2 w g q tos)(k:Keep ex w w')(hg:g<w.heap.size)(hn:¬ex g):SRow2 w' g q tos:=fun i t ht=>by
 obtain⟨cs,h1,h2⟩:=h i t ht
 exact⟨cs,h1,fun j v hv=>(k.cell g _ hg hn).trans (h2 j v hv)⟩
theorem sideIndex_any(kb k g q sc:Nat)(tos:List Nat)(j:Nat)(w:World)(hs:SRow2 w g q tos)(hg:g<w.heap.size)(hl:(tos.length:Int)<1000)(hj:tos[j]?=some k)(hf:∀i,i<j→tos[i]?≠some k)(hc:w.cell? ⟨kb,0,none⟩=some (.int .i64 (k:Int)))(hkl:kb<w.heap.size):
 Calls Tryz.prog 168 #[.slice (some ⟨g,q,none⟩) tos.length sc,.func (.func 169) #[] #[.pointer (some ⟨kb,0,none⟩)]] w fun r w'=>r=.returned (.int .i64 (j:Int))∧Keep nil w w':=by
 have H:Unit→SRow2 w g q tos∧g<w.heap.size∧(tos.length:Int)<1000∧tos[j]?=some k∧(∀i,i<j→tos[i]?≠some k)∧w.cell? ⟨kb,0,none⟩=some (.int .i64 (k:Int))∧kb<w.heap.size:=fun _=>⟨hs,hg,hl,hj,hf,hc,hkl⟩
 clear hs hg hl hj hf hc hkl
 go_enter Tryz.func168,Tryz.ntmps168
 go_wp2_with fail
 go_loopw [8] (fun v wr=>∃i:Nat,i≤j∧v=.int .i64 (i:Int)∧Keep nil w wr) (fun v _=>tos.length - (intOf v).toNat)
 case atStart=>exact⟨0,by omega,rfl,Keep.refl _ _⟩
 case round=>
  obtain⟨i,hi,rfl,hkw⟩:=hrel
  have hjl:=(List.getElem?_eq_some_iff.1 (H ()).2.2.2.1).1
  have HR:Unit→Keep nil w wr∧i≤j∧j<tos.length:=fun _=>⟨hkw,hi,hjl⟩
  obtain⟨t,ht⟩:∃t,tos[i]?=some t:=⟨_,List.getElem?_eq_getElem (by omega)⟩
  have HT:Unit→tos[i]?=some t:=fun _=>ht
  obtain⟨cs,HCL,HCR⟩:∃cs:List Value,(Unit→cs.length=24)∧(Unit→wr.rangeAt g (q+i * 25) (.int .i64 (t:Int)::cs)):=by
   obtain⟨cs,h1,h2⟩:=(H ()).1.keep hkw (H ()).2.1 id i t ht
   exact⟨cs,fun _=>h1,fun _=>h2⟩
  have hgl:g<wr.heap.size:=Nat.lt_of_lt_of_le (H ()).2.1 hkw.size
  have hiI:(i:Int)<(tos.length:Int):=by omega
  have hi9:(i:Int)<1000:=by have:=(H ()).2.2.1;omega
  have HC:Unit→∀w1,Keep nil wr w1→_:=fun _ w1 k1=>edgeTo1_list kb k t cs (HCL ()) w1 (((HR ()).1.trans k1).cell kb 0 (H ()).2.2.2.2.2.2 id |>.trans (H ()).2.2.2.2.2.1) (Nat.lt_of_lt_of_le (H ()).2.2.2.2.2.2 ((HR ()).1.trans k1).size)
  clear hkw hi hjl ht
  go_wp2_with (refine wpList_load_mid rfl 181 _ rfl g (q+i * 25) rfl (.int .i64 (t:Int)::cs) _ (HCR ()) Tryz.underlying181 rfl (side_size.trans (congrArg some (congrArg Nat.succ (HCL ()).symm))) ?_)
  refine Calls.mono (HC () _ (Keep.refl nil wr)) ?_
  rintro r w2 ⟨rfl,hk2⟩
  have HK:Unit→Keep nil w w2:=fun _=>(HR ()).1.trans hk2
  clear hk2 HC
  by_cases hd:t=k
  ·rw[decide_eq_true hd]
   have HIJ:Unit→i=j:=fun _=>by
    rcases Nat.lt_or_ge i j with h|h
    ·exact((H ()).2.2.2.2.1 i h (by rw[HT (),hd])).elim
    ·have:=(HR ()).2.1;omega
   go_wp2
   go_ret
   exact⟨by rw[←HIJ ()];rfl,HK ()⟩
  ·rw[decide_eq_false hd]
   have HIJ:Unit→i<j:=fun _=>by
    rcases Nat.lt_or_ge i j with h|h
    ·exact h
    ·have e:i=j:=by have:=(HR ()).2.1;omega
     have h1:=(H ()).2.2.2.1
     rw[←e,HT ()]at h1
     exact(hd (Option.some.inj h1)).elim
   go_wp2
   exact⟨⟨i+1,by have:=HIJ ();omega,by go_num,HK ()⟩,by have:=HIJ ();have:=(HR ()).2.2;simp[intOf];omega⟩
theorem NtR.srow{w:World}{N:Nt}(h:NtR w N){k:Nat}{s:Sp}(hs:N.sps[k]?=some s){g o:Nat}(hsa:s.sa=some ⟨g,o,none⟩):SRow2 w g o (s.ss.map Sd.to_):=by
 intro i t ht
 rw[List.getElem?_map]at ht
 obtain⟨d,hd,rfl⟩:=Option.map_eq_some_iff.1 ht
 obtain⟨g',o',c,h1,_,h3,h4,_⟩:=h.atEnd hs hd
 rw[hsa]at h1
 cases h1
 refine⟨d.e.cells d.p,cells_len d.e d.p h4.four,fun j v hv=>?_⟩
 cases j with
 |zero=>simp only[List.getElem?_cons_zero,Option.some.injEq]at hv;subst hv;exact h3
 |succ j=>
  rw[List.getElem?_cons_succ]at hv
  have:=h4.cell j v hv
  rw[show o+i * 25+1+j=o+i * 25+(j+1)by omega]at this
  exact this
theorem edgeTo_any(pb po k g q sc:Nat)(tos:List Nat)(j:Nat)(w:World)(hc:w.cell? ⟨pb,po+1,none⟩=some (.slice (some ⟨g,q,none⟩) tos.length sc))(hpl:pb<w.heap.size)(hs:SRow2 w g q tos)(hg:g<w.heap.size)(hl:(tos.length:Int)<1000)(hj:tos[j]?=some k)(hf:∀i,i<j→tos[i]?≠some k):
 Calls Tryz.prog 115 #[.pointer (some ⟨pb,po,none⟩),.int .i64 (k:Int)] w fun r w'=>r=.returned (.int .i64 (j:Int))∧Keep nil w w':=by
 have HC:Unit→∀w1 kb,Keep nil w w1→w1.cell? ⟨kb,0,none⟩=some (.int .i64 (k:Int))→kb<w1.heap.size→_:=fun _ w1 kb k1 hc hkl=>sideIndex_any kb k g q sc tos j w1 (hs.keep k1 hg id) (Nat.lt_of_lt_of_le hg k1.size) hl hj hf hc hkl
 clear hs hj hf hl
 go_enter Tryz.func115,Tryz.ntmps115
 go_wp2_with fail
 refine Calls.mono (HC () _ w.heap.size ((Keep.refl nil w).alloc _) (by simp) (by simp)) ?_
 rintro r w2 ⟨rfl,hk2⟩
 have HK:Unit→Keep nil w w2:=fun _=>((Keep.refl nil w).alloc _).trans hk2
 clear hk2 HC
 go_wp2
 go_ret
 exact⟨rfl,HK ()⟩
theorem modify_get{α:Type}{l:List α}{i k:Nat}{f:α→α}{y:α}(h:(l.modify i f)[k]?=some y):∃x,l[k]?=some x∧y=if i=k then f x else x:=by
 rw[List.getElem?_modify]at h
 cases hx:l[k]? with
 |none=>rw[hx]at h;simp at h
 |some x=>
  rw[hx]at h
  simp only[Option.map_some,Option.some.injEq,Option.map_eq_map]at h
  exact⟨x,rfl,h.symm⟩
theorem modify_map{α β:Type}(g:α→β)(l:List α)(i:Nat)(f:α→α)(h:∀x,g (f x)=g x):(l.modify i f).map g=l.map g:=by
 apply List.ext_getElem?
 intro k
 rw[List.getElem?_map,List.getElem?_map,List.getElem?_modify]
 cases l[k]? with
 |none=>simp
 |some x=>by_cases e:i=k<;>simp[e,h]
theorem modify_two{α:Type}(l:List α)(i:Nat)(f g:α→α):(l.modify i f).modify i g=l.modify i (fun x=>g (f x)):=by
 apply List.ext_getElem?
 intro k
 rw[List.getElem?_modify,List.getElem?_modify,List.getElem?_modify]
 cases l[k]? with
 |none=>simp
 |some x=>by_cases e:i=k<;>simp[e]
def AN.shape(A:AN):List (List Nat):=A.sps.map (fun s=>s.ss.map (fun d=>d.1))
def POk(S:List (List Nat))(x:AP):Prop:=(∀y∈x.l,y<256)∧0<x.l.length∧x.l.length<1000∧∃l,S[x.t]?=some l∧x.f∈l
def Symm(S:List (List Nat)):Prop:=∀(i:Nat) (l:List Nat) (t:Nat),S[i]?=some l→t∈l→∃l',S[t]?=some l'∧i∈l'
def KOk(e:En):Prop:=∀m,some m∈e.kept→MOk m
structure AOk(A:AN)(B:Nat):Prop where
 few:A.sps.length≤1000
 well:∀(i:Nat) (s:AS),A.sps[i]?=some s→NWell s.n∧s.n.edges.length=s.ss.length∧s.n.off.length≤B
 out:∀(i:Nat) (s:AS),A.sps[i]?=some s→∀(j:Nat) (d:Nat×En),s.ss[j]?=some d→d.2.out=[]
 kept:∀(i:Nat) (s:AS),A.sps[i]?=some s→∀(j:Nat) (d:Nat×En),s.ss[j]?=some d→KOk d.2
 bag:A.bag.length≤300
 pk:∀x∈A.bag,POk A.shape x
 sym:Symm A.shape
theorem shape_modE(A:AN)(i j:Nat)(f:En→En):(A.modE i j f).shape=A.shape:=
 modify_map _ _ _ _ (fun s=>modify_map _ _ _ _ (fun d=>rfl))
theorem shape_modN(A:AN)(i:Nat)(f:Nod→Nod):(A.modN i f).shape=A.shape:=modify_map _ _ _ _ (fun s=>rfl)
theorem add_sps(A:AN)(x:AP):(A.add x).sps=A.sps∧(A.add x).es=A.es:=by unfold AN.add;split<;>exact⟨rfl,rfl⟩
theorem shape_add(A:AN)(x:AP):(A.add x).shape=A.shape:=by unfold AN.shape;rw[(add_sps A x).1]
theorem mem_add{A:AN}{x y:AP}(h:y∈(A.add x).bag):y∈A.bag∨y=x:=by
 unfold AN.add at h
 split at h
 ·rcases List.mem_append.1 h with h|h
  ·exact Or.inl h
  ·exact Or.inr (List.mem_singleton.1 h)
 ·exact Or.inl h
theorem aok_add{A:AN}{B:Nat}(h:AOk A B){x:AP}(hx:POk A.shape x):AOk (A.add x) B:=by
 refine⟨?_,?_,?_,?_,?_,?_,?_⟩
 ·rw[(add_sps A x).1];exact h.few
 ·rw[(add_sps A x).1];exact h.well
 ·rw[(add_sps A x).1];exact h.out
 ·rw[(add_sps A x).1];exact h.kept
 ·unfold AN.add;split
  ·simp;omega
  ·exact h.bag
 ·intro y hy
  rw[shape_add]
  rcases mem_add hy with e|rfl
  ·exact h.pk y e
  ·exact hx
 ·rw[shape_add];exact h.sym
theorem aok_adds{B:Nat}(i t:Nat)(l:List Fr.Frm):∀A:AN,AOk A B→(∃s,A.shape[t]?=some s∧i∈s)→(∀f∈l,FrOk f)→AOk (A.adds i t l) B:=by
 induction l with
 |nil=>intro A h _ _;exact h
 |cons f r ih=>
  intro A h hs hf
  show AOk ((A.add ⟨i,t,Fr.enc f,false⟩).adds i t r) B
  have hf0:=hf f (List.mem_cons_self ..)
  have hl:=enc_len f
  have hfl:flen f=10∨flen f=5:=by unfold flen;split<;>simp
  refine ih _ (aok_add h ⟨enc_byte f hf0,?_,?_,hs⟩) (by rw[shape_add];exact hs) (fun g hg=>hf g (List.mem_cons_of_mem _ hg))
  ·simp only[hl];omega
  ·simp only[hl];omega
theorem side_get{A:AN}{i j:Nat}{d:Nat×En}(h:A.side i j=some d):∃s,A.sps[i]?=some s∧s.ss[j]?=some d:=by
 unfold AN.side at h
 obtain⟨s,h1,h2⟩:=Option.bind_eq_some_iff.1 h
 exact⟨s,h1,h2⟩
theorem modE_two(A:AN)(i j:Nat)(f g:En→En):(A.modE i j f).modE i j g=A.modE i j (fun e=>g (f e)):=by
 unfold AN.modE
 simp only[modify_two]
theorem side_modE{A:AN}{i j:Nat}{d:Nat×En}(h:A.side i j=some d)(f:En→En):(A.modE i j f).side i j=some (d.1,f d.2):=by
 obtain⟨s,h1,h2⟩:=side_get h
 unfold AN.side AN.modE
 simp[h1,h2]
theorem aok_modE{A:AN}{B:Nat}(h:AOk A B)(i j:Nat)(f:En→En)(hf:∀e,(f e).out=[])(hk:∀e,KOk e→KOk (f e)):AOk (A.modE i j f) B:=by
 refine⟨?_,?_,?_,?_,h.bag,?_,?_⟩
 ·simpa [AN.modE]using h.few
 ·intro k s hs
  obtain⟨x,hx,rfl⟩:=modify_get hs
  obtain⟨h1,h2,h3⟩:=h.well k x hx
  split
  ·exact⟨h1,by simpa using h2,h3⟩
  ·exact⟨h1,h2,h3⟩
 ·intro k s hs j' d hd
  obtain⟨x,hx,rfl⟩:=modify_get hs
  split at hd
  ·obtain⟨y,hy,rfl⟩:=modify_get hd
   split
   ·exact hf _
   ·exact h.out k x hx j' y hy
  ·exact h.out k x hx j' d hd
 ·intro k s hs j' d hd
  obtain⟨x,hx,rfl⟩:=modify_get hs
  split at hd
  ·obtain⟨y,hy,rfl⟩:=modify_get hd
   split
   ·exact hk _ (h.kept k x hx j' y hy)
   ·exact h.kept k x hx j' y hy
  ·exact h.kept k x hx j' d hd
 ·rw[shape_modE];exact h.pk
 ·rw[shape_modE];exact h.sym
theorem carry_eq{A:AN}{i j:Nat}{d:Nat×En}(hd:A.side i j=some d)(f:En→En):(A.modE i j f).carry i j=(A.modE i j (fun e=>(f e).outs)).adds i d.1 (f d.2).out:=by
 unfold AN.carry
 rw[side_modE hd f]
 simp only[modE_two]
theorem aok_carry{A:AN}{B:Nat}(h:AOk A B){i j:Nat}{d:Nat×En}(hd:A.side i j=some d)(f:En→En)(hk:∀e,KOk e→KOk (f e))(hf:∀fr∈(f d.2).out,FrOk fr):AOk ((A.modE i j f).carry i j) B:=by
 rw[carry_eq hd f]
 refine aok_adds i d.1 _ _ (aok_modE h i j _ (fun e=>rfl) (fun e he=>hk e he)) ?_ hf
 rw[shape_modE]
 obtain⟨s,h1,h2⟩:=side_get hd
 exact h.sym i (s.ss.map (fun d=>d.1)) d.1 (by simp[AN.shape,h1]) (List.mem_map.2 ⟨d,List.mem_of_getElem? h2,rfl⟩)
theorem aok_modN{A:AN}{B B':Nat}(h:AOk A B)(hB:B≤B')(i:Nat)(f:Nod→Nod)(hf:∀s,A.sps[i]?=some s→NWell (f s.n)∧(f s.n).edges.length=s.n.edges.length∧(f s.n).off.length≤B'):AOk (A.modN i f) B':=by
 refine⟨?_,?_,?_,?_,h.bag,?_,?_⟩
 ·simpa [AN.modN]using h.few
 ·intro k s hs
  obtain⟨x,hx,rfl⟩:=modify_get hs
  obtain⟨h1,h2,h3⟩:=h.well k x hx
  split
  ·rename_i e
   subst e
   obtain⟨f1,f2,f3⟩:=hf x hx
   exact⟨f1,f2.trans h2,f3⟩
  ·exact⟨h1,h2,by omega⟩
 ·intro k s hs j' d hd
  obtain⟨x,hx,rfl⟩:=modify_get hs
  split at hd
  ·exact h.out k x hx j' d hd
  ·exact h.out k x hx j' d hd
 ·intro k s hs j' d hd
  obtain⟨x,hx,rfl⟩:=modify_get hs
  split at hd
  ·exact h.kept k x hx j' d hd
  ·exact h.kept k x hx j' d hd
 ·rw[shape_modN];exact h.pk
 ·rw[shape_modN];exact h.sym
theorem kok_try{e:En}(h:KOk e)(m:Fr.Msg):KOk (e.try m):=by
 unfold En.try
 split
 ·exact h
 ·exact h
theorem kok_tick{e:En}(h:KOk e):KOk e.tick:=h
theorem kok_inn{e:En}(h:KOk e){q:Option Fr.Frm}(hq:∀f,q=some f→FrOk f):KOk (e.inn q)∧∀m∈e.tld q,MOk m:=by
 cases q with
 |none=>exact⟨h,fun m hm=>by cases hm⟩
 |some f=>
  have hf:=hq f rfl
  obtain⟨fd,fs,fm⟩:=f
  cases fd with
  |false=>
   refine⟨?_,fun m hm=>by cases hm⟩
   show KOk (e.ack fs)
   unfold En.ack
   split
   ·exact h
   ·exact h
  |true=>
   have hm:MOk fm:=by
    rcases hf.2 with⟨_,a,b,c,d⟩|⟨a,_⟩
    ·exact⟨a,b,c,d⟩
    ·cases a
   have hk:KOk (e.keep fs fm):=by
    unfold En.keep
    split
    ·split
     ·intro m h1
      rcases List.mem_or_eq_of_mem_set h1 with h2|h2
      ·exact h m h2
      ·cases h2;exact hm
     ·exact h
    ·exact h
   have rdy:∀(l:List (Option Fr.Msg)),(∀m,some m∈l→MOk m)→∀m∈En.ready l,MOk m:=by
    intro l
    induction l with
    |nil=>intro _ m h1;cases h1
    |cons x r ih=>
     intro hl m h1
     cases x with
     |none=>cases h1
     |some y=>
      rcases List.mem_cons.1 h1 with rfl|h2
      ·exact hl _ (List.mem_cons_self ..)
      ·exact ih (fun m hm=>hl m (List.mem_cons_of_mem _ hm)) m h2
   refine⟨?_,rdy _ hk⟩
   show KOk ((e.keep fs fm).take.answer)
   have ht:KOk (e.keep fs fm).take:=by
    intro m h1
    rcases List.mem_append.1 h1 with h2|h2
    ·exact hk m (List.mem_of_mem_drop h2)
    ·have:=(List.mem_replicate.1 h2).2;cases this
   unfold En.answer
   split
   ·exact ht
   ·exact ht
theorem NtR.way_not{w:World}{N:Nt}(h:NtR w N){k:Nat}(hk:N.way k):¬N.Own k:=by
 rintro⟨q,hq,hk1⟩
 exact hq (h.apart q .way k hk1 hk)
theorem way_setE(N:Nt)(i:Nat)(s:Sp)(j:Nat)(d:Sd)(e:En)(p:Pl):(N.setE i s j d e p (fun _=>False)).way=N.way:=by
 funext k;simp[Nt.setE,Nt.setS]
theorem way_setN(N:Nt)(i:Nat)(s:Sp)(n:Nod)(p:Np):(N.setN i s n p (fun _=>False)).way=N.way:=by
 funext k;simp[Nt.setN,Nt.setS]
theorem mine_of_step{w w':World}{b:Nat}{p p':Pl}(h:Step w w' b p p')(hn:¬ELst p' b):(∀k,ELst p' k→ELst p k∨w.heap.size≤k)∧Keep (fun k=>k=b∨ELst p k) w w':=by
 have hW:∀k,Wri b p k→k=b∨ELst p k:=by
  rintro k (e|e|e)
  ·exact Or.inl e
  ·exact Or.inr (Or.inl e)
  ·exact Or.inr (Or.inr (Or.inl e))
 refine⟨?_,h.keep.mono (fun k _ e=>hW k e)⟩
 intro k hk
 have hne:k≠b:=fun e=>hn (e▸hk)
 have key:Wri b p' k→ELst p k∨w.heap.size≤k:=fun x=>by
  rcases h.wri k x with e|e
  ·rcases hW k e with e|e
   ·exact(hne e).elim
   ·exact Or.inl e
  ·exact Or.inr e
 rcases hk with e|e|e
 ·exact key (Or.inr (Or.inl e))
 ·exact key (Or.inr (Or.inr e))
 ·rcases h.gs k e with e|e
  ·exact Or.inl (Or.inr (Or.inr e))
  ·exact Or.inr e
theorem showFrom_len(e:En)(k:Nat):(e.showFrom k).out.length≤e.out.length+4:=by
 simp only[En.showFrom,List.length_append,frames_len,List.length_drop,List.length_take];omega
theorem try_len(e:En)(m:Fr.Msg):(e.try m).out.length≤e.out.length+4:=by
 unfold En.try
 split
 ·exact showFrom_len (e.put m) e.shown
 ·omega
theorem tick_len(e:En):e.tick.out.length≤e.out.length+4:=showFrom_len e 0
theorem NtR.abs_len{N:Nt}:N.abs.bag.length=N.L.length∧N.abs.sps.length=N.sps.length:=by simp[Nt.abs]
theorem NtR.turnE{w:World}{M:Nt}(h:NtR w M){k j:Nat}{s:Sp}{d:Sd}(hs:M.sps[k]?=some s)(hd:s.ss[j]?=some d):
 ∃g o cc,s.sa=some ⟨g,o,none⟩∧g<w.heap.size∧w.cell? ⟨g,o+j * 25,none⟩=some (.int .i64 (d.to_:Int))∧Rep w cc 181 g (o+j * 25+1) d.e d.p∧
  ∀(w3 w2:World) (e':En) (p':Pl),Keep nil w w3→Rep w2 cc 181 g (o+j * 25+1) e' p'→Step w3 w2 g d.p p'→
   ∃M2 s2 d2,NtR w2 M2∧(∀f:En→En,f d.e=e'→M2.abs=M.abs.modE k j f)∧NtTo w w2 M M2∧M2.way=M.way∧(∀f∈e'.out,FrOk f)∧M2.sps[k]?=some s2∧s2.ss[j]?=some d2∧d2.e=e'∧s2.ss.length=s.ss.length∧M2.sps.length=M.sps.length∧M2.L=M.L∧Keep (fun b=>b<w.heap.size) w3 w2∧(∀b,M2.Own b→M.Own b∨ELst p' b):=by
 obtain⟨g,o,cc,h1,h2,h3,h4,h5⟩:=h.atEnd hs hd
 refine⟨g,o,cc,h1,h2,h3,h4,fun w3 w2 e' p' k3 hr hst=>?_⟩
 have hlt:=(h.ends k s hs j d hd).lt
 obtain⟨m1,m2⟩:=mine_of_step hst hr.notL
 have hk:Keep (fun b=>b=g∨ELst d.p b) w w2:=(k3.mono (fun _ _ e=>e.elim)).trans m2
 obtain⟨r1,r2⟩:=h5 w2 e' p' (fun _=>False) hr hk (fun b hb=>(m1 b hb).imp id (fun e=>Nat.le_trans k3.size e)) (fun b e=>e.elim)
 refine⟨_,{ s with ss:=s.ss.set j { d with e:=e',p:=p'}},{ d with e:=e',p:=p'},r1,fun f hf=>abs_setE hs hd _ _ _ f hf,r2,way_setE ..,hr.fok,lset_self hs _,lset_self hd _,rfl,by simp,by simp[Nt.setE,Nt.setS],rfl,m2.mono ?_,?_⟩
 ·rintro b _ (e|e)
  ·rw[e];exact h2
  ·exact hlt b e
 ·rintro b ⟨q,hq,hb⟩
  cases q with
  |way=>exact(hq rfl).elim
  |net=>exact Or.inl ⟨.net,by simp,hb⟩
  |edges=>exact Or.inl ⟨.edges,by simp,hb⟩
  |spots=>exact Or.inl ⟨.spots,by simp,hb⟩
  |bag=>exact Or.inl ⟨.bag,by simp,hb⟩
  |pks=>exact Or.inl ⟨.pks,by simp,hb⟩
  |spot i a=>
   obtain⟨s2,hs2,hb2⟩:=hb
   rcases lset_get hs2 with⟨rfl,rfl⟩|⟨_,hs3⟩
   ·cases a with
    |node=>exact Or.inl ⟨.spot i .node,by simp,s,hs,hb2⟩
    |side=>exact Or.inl ⟨.spot i .side,by simp,s,hs,hb2⟩
    |ends j'=>
     obtain⟨d2,hd2,hb3⟩:=hb2
     rcases lset_get hd2 with⟨rfl,rfl⟩|⟨_,hd3⟩
     ·exact Or.inr hb3
     ·exact Or.inl ⟨.spot i (.ends j'),by simp,s,hs,d2,hd3,hb3⟩
   ·exact Or.inl ⟨.spot i a,by simp,s2,hs3,hb2⟩
structure Pst(w wr:World)(N:Nt)(k:Nat)(s:Sp)(B i:Nat)(M:Nt):Prop where
 rep:NtR wr M
 abs:M.abs=(N.abs.modN k (fun n=>{ n with sent:=[]})).sends k (s.n.sent.take i)
 to_:NtTo w wr N M
 way:M.way=fun b=>N.way b∨inB s.p.sa b
 ok:AOk M.abs B
 row:RV wr 197 5 s.p.sa s.n.sent.length s.p.sc (lcells s.n.sent)
theorem Pst.side{w wr:World}{N M:Nt}{k B i:Nat}{s:Sp}(h:Pst w wr N k s B i M)(hs:N.sps[k]?=some s){j:Nat}(hj:j<s.ss.length):∃s' d',M.sps[k]?=some s'∧s'.ss[j]?=some d'∧s'.sa=s.sa∧s'.sc=s.sc∧s'.ss.length=s.ss.length:=by
 obtain⟨s',h1,h2⟩:=h.to_.spot hs
 obtain⟨_,h3,h4,_,h5⟩:=fix_parts h2
 exact⟨s',_,h1,List.getElem?_eq_getElem (by omega),h3,h4,h5⟩
theorem Pst.next{w wr w2 w3:World}{N M M3:Nt}{k B i:Nat}{s:Sp}(h:Pst w wr N k s B i M){c:Nat×Fr.Msg}(hc:s.n.sent[i]? =some c){s':Sp}{d':Sd}(hs':M.sps[k]? =some s')(hd':s'.ss[c.1]? =some d'){M2:Nt}
 (h2:M2.abs=M.abs.modE k c.1 (fun e=>e.try c.2)) (h2t:NtTo wr w2 M M2) (h2w:M2.way=M.way) (h2f:∀f∈(d'.e.try c.2).out,FrOk f)
 (r3:NtR w3 M3) (a3:M3.abs=M2.abs.carry k c.1) (t3:NtTo w2 w3 M2 M3) (w3':M3.way=M2.way):Pst w w3 N k s B (i+1) M3:=by
 have t13:=h2t.trans t3
 refine⟨r3,?_,h.to_.trans t13,(w3'.trans h2w).trans h.way,?_,h.row.keep t13.keep (fun b hb=>h.rep.way_not (by rw[h.way];exact Or.inr hb))⟩
 ·rw[a3,h2,h.abs,take_succ_get hc]
  simp only[AN.sends,List.foldl_append,List.foldl_cons,List.foldl_nil,AN.sendOne]
 ·rw[a3,h2]
  exact aok_carry h.ok (abs_side hs' hd') _ (fun e he=>kok_try he _) h2f
theorem Pst.done{w wr:World}{N M:Nt}{k B:Nat}{s:Sp}(h:Pst w wr N k s B s.n.sent.length M)(hs:N.sps[k]?=some s):
 NtR wr { M with way:=N.way}∧({ M with way:=N.way}:Nt).abs=N.abs.post k∧NtTo w wr N { M with way:=N.way}∧AOk ({ M with way:=N.way}:Nt).abs B:=by
 refine⟨h.rep.wayTo (Keep.refl nil wr) N.way (fun i hi=>Or.inl (by rw[h.way];exact Or.inl hi)),?_,h.to_.way N.way N.way,h.ok⟩
 rw[abs_way,h.abs,List.take_length,AN.post,AN.sentOf,abs_spot hs];rfl
end Go.Proofs.YtlfijfodklhplaaGreat
