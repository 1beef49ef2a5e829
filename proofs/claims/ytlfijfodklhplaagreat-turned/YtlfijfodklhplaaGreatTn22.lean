import Derived.Test.YtlfijfodklhplaaGreatTn21
set_option maxRecDepth 100000
set_option maxHeartbeats 4000000
set_option linter.unusedVariables false
set_option linter.unusedSimpArgs false
namespace Go.Proofs.YtlfijfodklhplaaGreat
open Go.RowKit
structure Tst(w wr:World)(N:Nt)(k:Nat)(B i:Nat)(M:Nt):Prop where
 rep:NtR wr M
 abs:M.abs=N.abs.ticks k i
 to_:NtTo w wr N M
 way:M.way=N.way
 ok:AOk M.abs B
theorem Tst.side{w wr:World}{N M:Nt}{k B i:Nat}{s:Sp}(h:Tst w wr N k B i M)(hs:N.sps[k]?=some s){j:Nat}(hj:j<s.ss.length):∃s' d',M.sps[k]?=some s'∧s'.ss[j]?=some d'∧s'.sa=s.sa∧s'.sc=s.sc∧s'.ss.length=s.ss.length:=by
 obtain⟨s',h1,h2⟩:=h.to_.spot hs
 obtain⟨_,h3,h4,_,h5⟩:=fix_parts h2
 exact⟨s',_,h1,List.getElem?_eq_getElem (by omega),h3,h4,h5⟩
theorem Tst.next{w wr w2 w3:World}{N M M2 M3:Nt}{k B i:Nat}(h:Tst w wr N k B i M){s':Sp}{d':Sd}(hs':M.sps[k]? =some s')(hd':s'.ss[i]? =some d')
 (h2:M2.abs=M.abs.modE k i En.tick) (h2t:NtTo wr w2 M M2) (h2w:M2.way=M.way) (h2f:∀f∈d'.e.tick.out,FrOk f)
 (r3:NtR w3 M3) (a3:M3.abs=M2.abs.carry k i) (t3:NtTo w2 w3 M2 M3) (w3':M3.way=M2.way):Tst w w3 N k B (i+1) M3:=by
 refine⟨r3,?_,h.to_.trans (h2t.trans t3),(w3'.trans h2w).trans h.way,?_⟩
 ·rw[a3,h2,h.abs]
  simp only[AN.ticks,List.range_succ,List.foldl_append,List.foldl_cons,List.foldl_nil,AN.tickOne]
 ·rw[a3,h2]
  exact aok_carry h.ok (abs_side hs' hd') _ (fun e he=>kok_tick he) h2f
theorem nods_ticks(k:Nat)(A:AN)(n:Nat):(A.ticks k n).nods=A.nods:=by
 induction n with
 |zero=>rfl
 |succ n ih=>
  have:A.ticks k (n+1)=(A.ticks k n).tickOne k n:=by simp only[AN.ticks,List.range_succ,List.foldl_append,List.foldl_cons,List.foldl_nil]
  rw[this,AN.tickOne,nods_carry,nods_modE,ih]
theorem mtick_any(N:Nt)(k:Nat)(s:Sp)(B:Nat)(w:World)(h:NtR w N)(hs:N.sps[k]?=some s)(ho:AOk N.abs B)(hst:ASt N.abs):
 Calls Tryz.prog 66 #[.pointer (some ⟨N.nb,0,none⟩),.int .i64 (k:Int)] w fun r w'=>r=.returned (.int .i64 0)∧∃N',NtR w' N'∧N'.abs=N.abs.tick k∧NtTo w w' N N'∧N'.way=N.way∧AOk N'.abs B∧ASt N'.abs:=by
 have hkl:=(List.getElem?_eq_some_iff.1 hs).1
 have hk9:(k:Int)<2000:=by have:=ho.few;rw[NtR.abs_len.2]at this;omega
 have hkI:(k:Int)<(N.sps.length:Int):=by omega
 obtain⟨hw1,hw2,hw3⟩:=ho.well k s.abs (abs_spot hs)
 have hsl9:(s.ss.length:Int)<1000:=by
  have h2:s.n.edges.length=s.ss.length:=by simpa [Sp.abs]using hw2
  have:=hw1.good.rise.few
  have h3:s.abs.n.edges.length=s.n.edges.length:=rfl
  omega
 have HH:Unit→_:=fun _=>h.hasNode (k:Int)
 rw[decide_eq_true (p:=0≤(k:Int)∧(k:Int)<(N.sps.length:Int)) ⟨by omega,by omega⟩]at HH
 have H:Unit→NtR w N∧N.sps[k]?=some s∧AOk N.abs B∧ASt N.abs∧(s.ss.length:Int)<1000:=fun _=>⟨h,hs,ho,hst,hsl9⟩
 have HC:Unit→∀(w1:World) (M:Nt),NtR w1 M→N.nb=M.nb→N.pa=M.pa→N.pc=M.pc→N.sps.length=M.sps.length→(∃s',M.sps[k]?=some s'∧s'.fix=s.fix)→∃pb po,N.pa=some ⟨pb,po,none⟩∧w1.cell? ⟨N.nb,1,none⟩=some (.slice (some ⟨pb,po,none⟩) N.sps.length N.pc)∧N.nb<w1.heap.size∧pb<w1.heap.size∧w1.cell? ⟨pb,po+k * 2+1,none⟩=some (.slice s.sa s.ss.length s.sc):=fun _ w1 M h1 e1 e2 e3 e4 ⟨s',e5,e6⟩=>by
  obtain⟨pb,po,hpa,hpl,hp0,hp1⟩:=h1.spot_at e5
  have q1:=h1.c1
  obtain⟨_,f2,f3,_,f5⟩:=fix_parts e6
  rw[hpa]at q1
  rw[f2,f3,f5]at hp1
  exact⟨pb,po,e2.trans hpa,by rw[e1,e3,e4];exact q1,by rw[e1];exact h1.blk.lt,hpl,hp1⟩
 obtain⟨pb,po,hpa,_⟩:=HC () w N h rfl rfl rfl rfl ⟨s,hs,rfl⟩
 have HC2:Unit→∀(w1:World) (M:Nt),NtR w1 M→N.nb=M.nb→N.pa=M.pa→N.pc=M.pc→N.sps.length=M.sps.length→(∃s',M.sps[k]?=some s'∧s'.fix=s.fix)→w1.cell? ⟨N.nb,1,none⟩=some (.slice (some ⟨pb,po,none⟩) N.sps.length N.pc)∧N.nb<w1.heap.size∧pb<w1.heap.size∧w1.cell? ⟨pb,po+k * 2+1,none⟩=some (.slice s.sa s.ss.length s.sc):=fun _ w1 M h1 e1 e2 e3 e4 e5=>by
  obtain⟨pb',po',a1,a2⟩:=HC () w1 M h1 e1 e2 e3 e4 e5
  rw[hpa]at a1
  cases a1
  exact a2
 obtain⟨nb,hnb⟩:∃nb,nb=N.nb:=⟨_,rfl⟩
 have HNB:Unit→nb=N.nb:=fun _=>hnb
 obtain⟨ln,hln⟩:∃ln,ln=s.ss.length:=⟨_,rfl⟩
 have HLN:Unit→ln=s.ss.length:=fun _=>hln
 rw[←hnb]at HH HC2⊢
 rw[←hln]at HC2
 clear h hs ho hst hkl hnb hln hw1 hw2 hw3 hsl9 HC
 go_enter Tryz.func66,Tryz.ntmps66
 go_wp2_with fail
 refine Calls.mono (HH ()) ?_
 rintro r w1 ⟨rfl,k1⟩
 have H1:Unit→Tst w w1 N k B 0 N:=fun _=>⟨(H ()).1.keep k1 (fun _ _ e=>e),rfl,NtTo.of_keep N k1,rfl,(H ()).2.2.1⟩
 obtain⟨q1,hnl,hpl,hp1⟩:=HC2 () w1 N (H1 ()).rep (HNB ()) rfl rfl rfl ⟨s,(H ()).2.1,rfl⟩
 clear HH k1
 go_wp2_with fail
 go_loopw [19] (fun v wr=>∃(i:Nat) (M:Nt),i≤ln∧v=.int .i64 (i:Int)∧Tst w wr N k B i M) (fun v _=>ln - (intOf v).toNat)
 case atStart=>exact⟨0,N,by omega,rfl,H1 ()⟩
 case round=>
  obtain⟨i,M,hi,rfl,hM⟩:=hrel
  have HM:Unit→Tst w wr N k B i M∧i≤ln:=fun _=>⟨hM,hi⟩
  have hMn:M.nb=nb:=by rw[HNB ()];exact hM.to_.nb
  clear q1 hnl hpl hp1
  obtain⟨q1,hnl,hpl,hp1⟩:=HC2 () wr M hM.rep hMn.symm hM.to_.pa.symm hM.to_.pc.symm hM.to_.len.symm (hM.to_.spot (H ()).2.1)
  by_cases hil:i<ln
  ·have HIL:Unit→i<ln:=fun _=>hil
   have hiI:(i:Int)<(ln:Int):=by omega
   have hi9:(i:Int)<1000:=by have:=(H ()).2.2.2.2;rw[←HLN ()]at this;omega
   obtain⟨s',d',hs',hd',hsa,hsc,hsl⟩:=hM.side (H ()).2.1 (j:=i) (by rw[←HLN ()];exact hil)
   obtain⟨g,o,cc,hsa',hgl,hto,hrep,hset⟩:=hM.rep.turnE hs' hd'
   rw[hsa]at hsa'
   have HP:Unit→M.sps[k]?=some s'∧s'.ss[i]?=some d'∧s'.ss.length=s.ss.length:=fun _=>⟨hs',hd',hsl⟩
   have HSE:Unit→∀w1,Keep nil wr w1→_:=fun _ w1 k1=>linkTick_any cc 181 g (o+i * 25+1) d'.e d'.p w1 (hrep.keep k1 (fun _ _ e=>e)) (by have:=hM.ok.out k s'.abs (abs_spot hs') i d'.abs (by simp[Sp.abs,hd']);have h2:d'.e.out=[]:=this;rw[h2];simp)
   have HSET:Unit→_:=fun _=>hset
   rw[hsa']at hp1
   clear hi hil hM hto hrep hset hs' hd' hsa hsa' hsc hsl hMn
   go_wp2_with fail
   refine Calls.mono (HSE () wr (Keep.refl nil wr)) ?_
   rintro r w2 ⟨rfl,p',hr2,hst2⟩
   obtain⟨M2,s2,d2,HM2⟩:∃M2 s2 d2,Unit→NtR w2 M2∧M2.abs=M.abs.modE k i En.tick∧NtTo wr w2 M M2∧M2.way=M.way∧(∀f∈d'.e.tick.out,FrOk f)∧M2.sps[k]?=some s2∧s2.ss[i]?=some d2∧d2.e=d'.e.tick∧s2.ss.length=s'.ss.length∧M2.sps.length=M.sps.length∧M2.L=M.L:=by
    obtain⟨M2,s2,d2,a1,a2,a3,a4,a5,a6,a7,a8,a9,a10,a11,a12,a13⟩:=HSET () wr w2 _ p' (Keep.refl nil wr) hr2 hst2
    exact⟨M2,s2,d2,fun _=>⟨a1,a2 _ rfl,a3,a4,a5,a6,a7,a8,a9,a10,a11⟩⟩
   have HCY:Unit→∀w4,Keep nil w2 w4→_:=fun _ w4 k4=>by
    obtain⟨a1,a2,a3,a4,a5,a6,a7,a8,a9,a10,a11⟩:=HM2 ()
    have hMs:=(HM ()).1.ok
    refine carry_any M2 k i s2 d2 w4 (a1.keep k4 (fun _ _ e=>e)) a6 a7 ?_ ?_ ?_ ?_
    ·rw[a11];have:=hMs.bag;rw[NtR.abs_len.1]at this;omega
    ·rw[a10];have:=hMs.few;rw[NtR.abs_len.2]at this;omega
    ·rw[a9,(HP ()).2.2];have:=(H ()).2.2.2.2;omega
    ·rw[a8]
     have h1:=tick_len d'.e
     have h2:d'.e.out=[]:=hMs.out k s'.abs (abs_spot (HP ()).1) i d'.abs (by have:=(HP ()).2.1;simp[Sp.abs,this])
     rw[h2]at h1
     simp only[List.length_nil]at h1
     omega
   have hnb2:M2.nb=nb:=by rw[HNB (),(HM2 ()).2.2.1.nb,(HM ()).1.to_.nb]
   rw[hnb2]at HCY
   clear HSET HSE hr2 hst2 q1 hp1 hnb2 hnl hpl hgl
   go_wp2_with fail
   refine Calls.mono (HCY () w2 (Keep.refl nil w2)) ?_
   rintro r w5 ⟨rfl,M3,b1,b2,b3,b4⟩
   have HN:Unit→Tst w w5 N k B (i+1) M3:=fun _=>by
    obtain⟨a1,a2,a3,a4,a5,a6,a7,a8,a9,a10,a11⟩:=HM2 ()
    exact(HM ()).1.next (HP ()).1 (HP ()).2.1 a2 a3 a4 a5 b1 b2 b3 b4
   clear HCY b1 b2 b3 b4
   go_wp2
   exact⟨⟨i+1,M3,by have:=HIL ();omega,by go_num,HN ()⟩,by have:=HIL ();simp[intOf];omega⟩
  ·have HE:Unit→i=s.ss.length:=fun _=>by have:=(HM ()).2;rw[←HLN ()];omega
   have hiI:¬((i:Int)<(ln:Int)):=by omega
   clear hi hil hM hMn
   go_wp2
   go_ret
   have h1:=(HM ()).1
   have ha:M.abs=N.abs.tick k:=by rw[h1.abs,AN.tick,abs_spot (H ()).2.1,HE ()];simp[Sp.abs]
   exact⟨rfl,M,h1.rep,ha,h1.to_,h1.way,h1.ok,by rw[h1.abs];unfold ASt;rw[nods_ticks];exact(H ()).2.2.2.1⟩
theorem NtR.wayMore{w:World}{M:Nt}(h:NtR w M)(W:Nat→Prop)(hW:∀k,W k→M.way k∨(¬M.Own k∧k<w.heap.size)):NtR w { M with way:=W}:=by
 refine⟨h.blk,h.erow,h.prow,h.brow,h.pks,h.pkn,h.nods,h.sides,h.ends,?_,?_⟩
 ·intro k hk
  rcases hW k hk with e|e
  ·exact h.wayl k e
  ·exact e.2
 ·have key:∀q k,q≠Pt.way→({ M with way:=W}:Nt).own q k→W k→False:=fun q k hq h1 h2=>by
   have h3:M.own q k:=by
    cases q with
    |way=>exact(hq rfl).elim
    |spot i a=>exact h1
    |_=>exact h1
   rcases hW k h2 with e|e
   ·exact hq (h.apart q .way k h3 e)
   ·exact e.1 ⟨q,hq,h3⟩
  intro i j k hi hj
  by_cases h1:i=.way
  ·by_cases h2:j=.way
   ·rw[h1,h2]
   ·subst h1;exact(key j k h2 hj hi).elim
  ·by_cases h2:j=.way
   ·subst h2;exact(key i k h1 hi hj).elim
   ·have h3:M.own i k:=by
     cases i with
     |way=>exact(h1 rfl).elim
     |spot i a=>exact hi
     |_=>exact hi
    have h4:M.own j k:=by
     cases j with
     |way=>exact(h2 rfl).elim
     |spot i a=>exact hj
     |_=>exact hj
    exact h.apart i j k h3 h4
theorem PRow.lies{w:World}{g c:Nat}{l:List Nat}(h:PRow w g l c)(hb:∀x∈l,x<256)(hl:(l.length:Int)<1000):Lies w g 0 c l:=by
 obtain⟨h1,h2,h3⟩:=h
 rcases h3 with⟨e,_⟩|⟨g',o',e,hv⟩
 ·cases e
 ·cases e
  refine⟨fun i hi=>?_,hv.lt,h2,by omega,hb⟩
  have:=hv.cell i (bv l[i]) (by simp[hi])
  exact this
theorem mok_take{m:Fr.Msg}(h:MOk m):1≤m.kind∧m.kind≤7∧m.level≤10∧(typed m).may:=by
 have h1:=h.2.2.2
 simp only[may,decide_eq_true_eq]at h1
 obtain⟨⟨h2,h3⟩,h4,h5,_⟩:=h1
 have hk:m.kind=1∨m.kind=2∨m.kind=3∨m.kind=4∨m.kind=5∨m.kind=6∨m.kind=7:=by omega
 have h9:m.level≤10:=by
  have:bL (m.kind:Int)≤9:=by rcases hk with e|e|e|e|e|e|e<;>rw[e]<;>decide
  omega
 refine⟨by omega,by omega,h9,?_⟩
 unfold typed
 split<;>simp[NMsg.may]
 exact h9
theorem find_first(l:List Nat)(k:Nat)(h:k∈l):∃j:Nat,l[j]?=some k∧∀i:Nat,i<j→l[i]?≠some k:=by
 induction l with
 |nil=>cases h
 |cons x r ih=>
  by_cases e:x=k
  ·subst e;exact⟨0,rfl,fun i hi=>by omega⟩
  ·have hr:k∈r:=by
    rcases List.mem_cons.1 h with h|h
    ·exact(e h.symm).elim
    ·exact h
   obtain⟨j,h1,h2⟩:=ih hr
   refine⟨j+1,h1,fun i hi=>?_⟩
   cases i with
   |zero=>intro h3;exact e (Option.some.inj h3)
   |succ i=>exact h2 i (by omega)
theorem findIdx_first(l:List (Nat×En))(k:Nat):∀j:Nat,(l.map (fun d=>d.1))[j]?=some k→(∀i:Nat,i<j→(l.map (fun d=>d.1))[i]?≠some k)→l.findIdx (fun d=>d.1==k)=j:=by
 induction l with
 |nil=>intro j h;simp at h
 |cons x r ih=>
  intro j h1 h2
  rw[List.findIdx_cons]
  cases j with
  |zero=>
   have:x.1=k:=by simpa using h1
   simp[this]
  |succ j=>
   have h0:x.1≠k:=by have:=h2 0 (by omega);simpa using this
   have h3:=ih j (by simpa using h1) (fun i hi=>by have:=h2 (i+1) (by omega);simpa using this)
   have:(x.1==k)=false:=by simpa using h0
   simp[this,h3]
theorem toEdge_eq{N:Nt}{i k j:Nat}{s:Sp}(hs:N.sps[i]?=some s)(hj:(s.ss.map Sd.to_)[j]?=some k)(hf:∀i':Nat,i'<j→(s.ss.map Sd.to_)[i']?≠some k):N.abs.toEdge i k=j:=by
 unfold AN.toEdge
 rw[abs_spot hs]
 have e:s.abs.ss.map (fun d=>d.1)=s.ss.map Sd.to_:=by simp[Sp.abs,Sd.abs,Function.comp_def]
 exact findIdx_first _ k j (by rw[e];exact hj) (by rw[e];exact hf)
structure Dst(w wr:World)(N:Nt)(A0:AN)(t j:Nat)(T:List Fr.Msg)(ta:Option Addr)(tc xb:Nat)(bx:Array Value)(B i:Nat)(M:Nt):Prop where
 rep:NtR wr M
 abs:M.abs=A0.takes t j (T.take i)
 to_:NtTo w wr N M
 way:M.way=fun b=>N.way b∨inB ta b∨b=xb
 ok:AOk M.abs (B+i)
 st:ASt M.abs
 row:RV wr 76 4 ta T.length tc (mcells T)
 box:Blk wr xb bx 200
theorem Dst.spot{w wr:World}{N M:Nt}{A0:AN}{t j tc xb B i:Nat}{T:List Fr.Msg}{ta:Option Addr}{bx:Array Value}{s:Sp}(h:Dst w wr N A0 t j T ta tc xb bx B i M)(hs:N.sps[t]?=some s):∃s',M.sps[t]?=some s'∧s'.b=s.b∧s'.sa=s.sa∧s'.ss.length=s.ss.length:=by
 obtain⟨s',h1,h2⟩:=h.to_.spot hs
 obtain⟨h0,h3,h4,_,h5⟩:=fix_parts h2
 exact⟨s',h1,h0,h3,h5⟩
theorem Dst.next{w wr w2 w3:World}{N M M2 M3:Nt}{A0:AN}{t j tc xb B i:Nat}{T:List Fr.Msg}{ta:Option Addr}{bx:Array Value}{m:Fr.Msg}(h:Dst w wr N A0 t j T ta tc xb bx B i M)(hm:T[i]? =some m)
 (h2:M2.abs=M.abs.modN t (fun n=>n.take j m)) (h2t:NtTo wr w2 M M2) (h2w:M2.way=M.way)
 (r3:NtR w3 M3) (a3:M3.abs=M2.abs.post t) (t3:NtTo w2 w3 M2 M3) (w3':M3.way=M2.way) (o3:AOk M3.abs (B+i+1)):Dst w w3 N A0 t j T ta tc xb bx B (i+1) M3:=by
 have t13:=h2t.trans t3
 have wn:∀b,(inB ta b∨b=xb)→¬M.Own b:=fun b hb=>h.rep.way_not (by rw[h.way];exact Or.inr hb)
 refine⟨r3,?_,h.to_.trans t13,(w3'.trans h2w).trans h.way,o3,?_,h.row.keep t13.keep (fun b hb=>wn b (Or.inl hb)),h.box.keep t13.keep (wn xb (Or.inr rfl))⟩
 ·rw[a3,h2,h.abs,take_succ_get hm]
  simp only[AN.takes,List.foldl_append,List.foldl_cons,List.foldl_nil,AN.takeOne]
 ·rw[a3,h2]
  exact ast_mod_post _ t _ h.st
theorem aok_take{A:AN}{B:Nat}(h:AOk A B)(t j:Nat)(m:Fr.Msg)(hm:MOk m)(hB:B<4999)(hj:∀s,A.sps[t]?=some s→j<s.ss.length):AOk (A.modN t (fun n=>n.take j m)) (B+1):=by
 refine aok_modN h (by omega) t _ (fun s hs=>?_)
 obtain⟨h1,h2,h3⟩:=h.well t s hs
 have hj':=hj s hs
 obtain⟨t1,t2,t3,_⟩:=take_well s.n j m h1 (by omega) (mok_take hm).2.2.2 (by omega)
 exact⟨t1,t2,by omega⟩
theorem inn_len(e:En)(q:Option Fr.Frm):(e.inn q).out.length≤e.out.length+4:=by
 cases q with
 |none=>exact Nat.le_add_right _ _
 |some f=>
  obtain⟨fd,fs,fm⟩:=f
  cases fd with
  |false=>
   show (e.ack fs).out.length≤_
   unfold En.ack
   split
   ·exact showFrom_len (e.drop _) _
   ·omega
  |true=>
   show ((e.keep fs fm).take.answer).out.length≤_
   have h1:(e.keep fs fm).take.out=e.out:=keep_out e fs fm
   unfold En.answer
   split
   ·simp[h1]
   ·rw[h1];omega
theorem Dst.start{w w2 w3 w5:World}{N N1 M2:Nt}{k t j g xb tc B:Nat}{q:Option Fr.Frm}{s:Sp}{d:Sd}{p':Pl}{ta:Option Addr}{bx:Array Value}(hB:AOk N.abs B)(hA:ASt N.abs)
 (t01:NtTo w w2 N N1) (r1:NtR w2 N1) (a1:N1.abs=N.abs.lose k) (wy1:N1.way=N.way) (hs1:N1.sps[t]?=some s) (hd:s.ss[j]?=some d) (hq:∀f,q=some f→FrOk f)
 (k3:Keep nil w2 w3) (hst:Step w3 w5 g d.p p') (hnl:¬ELst p' g) (hfo:∀f∈(d.e.inn q).out,FrOk f)
 (trow:RV w5 76 4 ta (d.e.tld q).length tc (mcells (d.e.tld q))) (tnew:∀b,inB ta b→w3.heap.size≤b∧¬Mine g p' b)
 (r2:NtR w5 M2) (a2:M2.abs=N1.abs.modE t j (fun e=>e.inn q)) (t2:NtTo w2 w5 N1 M2) (wy2:M2.way=N1.way) (kk:Keep (fun b=>b<w2.heap.size) w3 w5) (own2:∀b,M2.Own b→N1.Own b∨ELst p' b)
 (hxb:xb=w2.heap.size) (box3:Blk w3 xb bx 200):
 NtR w5 { M2 with way:=fun b=>N.way b∨inB ta b∨b=xb}∧Blk w5 xb bx 200∧
  ∀w6 M3,NtR w6 M3→M3.abs=M2.abs.carry t j→NtTo w5 w6 { M2 with way:=fun b=>N.way b∨inB ta b∨b=xb} M3→(M3.way=fun b=>N.way b∨inB ta b∨b=xb)→
   Dst w w6 N (((N.abs.lose k).modE t j (fun e=>e.inn q)).carry t j) t j (d.e.tld q) ta tc xb bx B 0 M3:=by
 have elt:=(r1.ends t s hs1 j d hd).lt
 have m1:=(mine_of_step hst hnl).1
 have box5:=box3.keep kk (by rw[hxb];exact Nat.lt_irrefl _)
 have hno:∀b,(inB ta b∨b=xb)→¬M2.Own b∧b<w5.heap.size:=fun b hb=>by
  constructor
  ·intro ho
   rcases hb with hb|hb
   ·obtain⟨h1,h2⟩:=tnew b hb
    rcases own2 b ho with e|e
    ·have:=r1.Olt e;have:=k3.size;omega
    ·exact h2 (by
      rcases e with e|e|e
      ·exact Or.inr (Or.inl e)
      ·exact Or.inr (Or.inr (Or.inl e))
      ·exact Or.inr (Or.inr (Or.inr e)))
   ·subst hb
    rcases own2 b ho with e|e
    ·have:=r1.Olt e;omega
    ·rcases m1 b e with e|e
     ·have:=elt b e;omega
     ·have:=box3.lt;omega
  ·rcases hb with hb|hb
   ·exact trow.lt b hb
   ·rw[hb];exact box5.lt
 have r2':=r2.wayMore (fun b=>N.way b∨inB ta b∨b=xb) (fun b hb=>by
  rcases hb with hb|hb
  ·left;rw[wy2,wy1];exact hb
  ·exact Or.inr (hno b hb))
 refine⟨r2',box5,fun w6 M3 r3 a3 t3 wy3=>?_⟩
 have t2':NtTo w2 w5 N1 { M2 with way:=fun b=>N.way b∨inB ta b∨b=xb}:=t2.way N1.way _
 have wn:∀b,(inB ta b∨b=xb)→¬({ M2 with way:=fun b=>N.way b∨inB ta b∨b=xb}:Nt).Own b:=fun b hb=>r2'.way_not (Or.inr hb)
 have ok0:AOk (N.abs.lose k) B:=aok_lose hB k
 have hsd:(N.abs.lose k).side t j=some (d.to_,d.e):=by rw[←a1];exact abs_side hs1 hd
 refine⟨r3,?_,t01.trans (t2'.trans t3),wy3,?_,?_,trow.keep t3.keep (fun b hb=>wn b (Or.inl hb)),box5.keep t3.keep (wn xb (Or.inr rfl))⟩
 ·rw[a3,a2,a1];rfl
 ·rw[a3,a2,a1]
  exact aok_carry ok0 hsd _ (fun e he=>(kok_inn he hq).1) hfo
 ·rw[a3,a2,a1]
  unfold ASt
  rw[nods_carry,nods_modE]
  exact hA
theorem Dst.done{w wr:World}{N M:Nt}{A0:AN}{t j tc xb B:Nat}{T:List Fr.Msg}{ta:Option Addr}{bx:Array Value}(h:Dst w wr N A0 t j T ta tc xb bx B T.length M):
 NtR wr { M with way:=N.way}∧({ M with way:=N.way}:Nt).abs=A0.takes t j T∧NtTo w wr N { M with way:=N.way}:=by
 refine⟨h.rep.wayTo (Keep.refl nil wr) N.way (fun i hi=>Or.inl (by rw[h.way];exact Or.inl hi)),?_,h.to_.way N.way N.way⟩
 rw[abs_way,h.abs,List.take_length]
theorem msg_at{w:World}{a:Option Addr}{n c:Nat}{l:List Fr.Msg}(h:RV w 76 4 a n c (mcells l)){k:Nat}{x:Fr.Msg}(hx:l[k]?=some x)(hk:k<n):
 ∃g q,a=some ⟨g,q,none⟩∧g<w.heap.size∧w.cell? ⟨g,q+k * 4,none⟩=some (.int .i64 (x.kind:Int))∧w.cell? ⟨g,q+k * 4+1,none⟩=some (.int .i64 (x.level:Int))∧w.cell? ⟨g,q+k * 4+2,none⟩=some (.int .i64 (x.name:Int))∧w.cell? ⟨g,q+k * 4+3,none⟩=some (.bool x.finding):=by
 obtain⟨g,q,h1,h2⟩:=rv_pos h (by omega)
 have c0:=mcells_get l k x hx
 refine⟨g,q,h1,h2.lt,h2.cell _ _ (c0 0 (by omega)),?_,?_,?_⟩
 ·rw[Nat.add_assoc];exact h2.cell _ _ (c0 1 (by omega))
 ·rw[Nat.add_assoc];exact h2.cell _ _ (c0 2 (by omega))
 ·rw[Nat.add_assoc];exact h2.cell _ _ (c0 3 (by omega))
theorem mdeliver_no(N:Nt)(k:Int)(w:World)(h:NtR w N)(hk:¬(0≤k∧k<(N.L.length:Int))):
 Calls Tryz.prog 65 #[.pointer (some ⟨N.nb,0,none⟩),.int .i64 k] w fun r w'=>r=.returned (.int .i64 7)∧Keep nil w w':=by
 have HH:Unit→∀w1,_:=fun _ w1=>bagHas_any N.ba N.L.length N.bc k w1
 rw[decide_eq_false hk]at HH
 have q2:=h.c2
 have hnl:=h.blk.lt
 generalize N.nb=nb at *
 clear h hk
 go_enter Tryz.func65,Tryz.ntmps65
 go_wp2_with fail
 refine Calls.mono (HH () _) ?_
 rintro r w1 ⟨rfl,k1⟩
 have K1:Unit→Keep nil w w1:=fun _=>k1
 clear k1 HH
 go_wp2
 go_ret
 exact⟨rfl,K1 ()⟩
theorem mdeliver_yes(N:Nt)(k:Nat)(x:Pk)(B:Nat)(w:World)(h:NtR w N)(hx:N.L[k]?=some x)(ho:AOk N.abs B)(hst:ASt N.abs)(hB:B<4900):
 Calls Tryz.prog 65 #[.pointer (some ⟨N.nb,0,none⟩),.int .i64 (k:Int)] w fun r w'=>r=.returned (.int .i64 0)∧∃N',NtR w' N'∧N'.abs=N.abs.deliver k∧NtTo w w' N N'∧N'.way=N.way∧AOk N'.abs (B+4)∧ASt N'.abs:=by
 have hkl:=(List.getElem?_eq_some_iff.1 hx).1
 have hb3:(N.L.length:Int)≤300:=by have:=ho.bag;rw[NtR.abs_len.1]at this;omega
 have HH:Unit→∀w1,_:=fun _ w1=>bagHas_any N.ba N.L.length N.bc (k:Int) w1
 rw[decide_eq_true (p:=0≤(k:Int)∧(k:Int)<(N.L.length:Int)) ⟨by omega,by omega⟩]at HH
 have H:Unit→NtR w N∧N.L[k]?=some x∧AOk N.abs B∧ASt N.abs∧B<4900:=fun _=>⟨h,hx,ho,hst,hB⟩
 have HT:Unit→∀w1,Keep nil w w1→_:=fun _ w1 k1=>bagTake_any N.nb 2 N.L N.ba N.bc k x w1 ((h.keep k1 (fun _ _ e=>e)).bag) hx hb3
 have q2:=h.c2
 have hnl:=h.blk.lt
 obtain⟨nb,hnb⟩:∃nb,nb=N.nb:=⟨_,rfl⟩
 have HNB:Unit→nb=N.nb:=fun _=>hnb
 rw[←hnb]at HT q2 hnl⊢
 clear h hx ho hkl hb3 hnb hst hB
 go_enter Tryz.func65,Tryz.ntmps65
 go_wp2_with fail
 refine Calls.mono (HH () _) ?_
 rintro r w1 ⟨rfl,k1⟩
 have K1:Unit→Keep nil w w1:=fun _=>k1
 have hnl1:nb<w1.heap.size:=Nat.lt_of_lt_of_le hnl k1.size
 clear k1 HH q2 hnl
 go_wp2_with fail
 refine Calls.mono (HT () w1 (K1 ())) ?_
 rintro r w2 ⟨rfl,hb,hbt⟩
 obtain⟨N1,HN1⟩:∃N1,Unit→NtR w2 N1∧NtTo w w2 N N1∧N1.abs=N.abs.lose k∧PRow w2 x.g x.l x.c∧¬N1.Own x.g∧N1.way=N.way∧N1.nb=N.nb∧N1.sps=N.sps:=by
  have h1:=(H ()).1.keep (K1 ()) (fun _ _ e=>e)
  rw[HNB ()]at hb hbt
  obtain⟨r1,r2,r3,r4,r5⟩:=h1.lose (H ()).2.1 hb hbt
  exact⟨_,fun _=>⟨r1,(NtTo.of_keep N (K1 ())).trans r2,r3,r4,r5,rfl,rfl,rfl⟩⟩
 have hpk:=(H ()).2.2.1.pk x.abs (List.mem_of_getElem? (abs_bag_get (H ()).2.1))
 obtain⟨pk1,pk2,pk3,lsh,pk4,pk5⟩:=hpk
 obtain⟨s,hs,hls⟩:∃s,N.sps[x.to_]?=some s∧lsh=s.ss.map Sd.to_:=by
  have e:(x.abs).t=x.to_:=rfl
  rw[e]at pk4
  simp only[AN.shape,Nt.abs,List.map_map,List.getElem?_map]at pk4
  obtain⟨s,h1,h2⟩:=Option.map_eq_some_iff.1 pk4
  exact⟨s,h1,by rw[←h2];simp[Sp.abs,Sd.abs,Function.comp_def]⟩
 obtain⟨j,hj1,hj2⟩:=find_first lsh x.from_ pk5
 rw[hls]at hj1 hj2
 have hs1:N1.sps[x.to_]?=some s:=by rw[(HN1 ()).2.2.2.2.2.2.2];exact hs
 obtain⟨pb,po,hpa,hpl,hp0,hp1⟩:=(HN1 ()).1.spot_at hs1
 have q1:=(HN1 ()).1.c1
 rw[hpa,(HN1 ()).2.2.2.2.2.2.1,←HNB ()]at q1
 have hjl:j<s.ss.length:=by have:=(List.getElem?_eq_some_iff.1 hj1).1;simpa using this
 obtain⟨d,hd⟩:∃d,s.ss[j]?=some d:=⟨_,List.getElem?_eq_getElem hjl⟩
 obtain⟨g,o,cc,hsa,hgl,hto,hrep,hset⟩:=(HN1 ()).1.turnE hs1 hd
 have hwl:=(H ()).2.2.1.well x.to_ s.abs (abs_spot hs)
 have hsl9:(s.ss.length:Int)<1000:=by
  have h2:s.n.edges.length=s.ss.length:=by simpa [Sp.abs]using hwl.2.1
  have:=hwl.1.good.rise.few
  have h3:s.abs.n.edges.length=s.n.edges.length:=rfl
  omega
 have ht9:(N1.sps.length:Int)<2000:=by
  have h1:=(H ()).2.2.1.few
  rw[NtR.abs_len.2]at h1
  rw[(HN1 ()).2.2.2.2.2.2.2]
  omega
 have htI:(x.to_:Int)<(N1.sps.length:Int):=by have:=(List.getElem?_eq_some_iff.1 hs1).1;omega
 have ht8:(x.to_:Int)<2000:=by omega
 have HPA:Unit→N1.pa=some ⟨pb,po,none⟩:=fun _=>hpa
 have HS:Unit→N.sps[x.to_]?=some s∧N1.sps[x.to_]?=some s∧(s.ss.map Sd.to_)[j]?=some x.from_∧(∀i:Nat,i<j→(s.ss.map Sd.to_)[i]?≠some x.from_)∧s.ss[j]?=some d∧(s.ss.length:Int)<1000∧(N1.sps.length:Int)<2000∧(∀y∈x.l,y<256)∧(x.l.length:Int)<1000:=fun _=>⟨hs,hs1,hj1,hj2,hd,hsl9,ht9,pk1,by have e:x.abs.l=x.l:=rfl;rw[e]at pk3;omega⟩
 rw[hsa]at hp1
 have HET:Unit→∀w4,Keep nil w2 w4→_:=fun _ w4 k4=>edgeTo_any pb (po+x.to_ * 2) x.from_ g o s.sc (s.ss.map Sd.to_) j w4 (by rw[List.length_map];exact(k4.cell pb _ hpl id).trans hp1) (Nat.lt_of_lt_of_le hpl k4.size) (((HN1 ()).1.srow hs1 hsa).keep k4 hgl id) (Nat.lt_of_lt_of_le hgl k4.size) (by rw[List.length_map];exact hsl9) hj1 hj2
 have HIN:Unit→∀w4,Keep nil w2 w4→_:=fun _ w4 k4=>linkIn_all cc 181 g (o+j * 25+1) d.e d.p x.g 0 x.c x.l (frmOf x.l) w4 (hrep.keep k4 (fun _ _ e=>e)) (PRow.lies ((HN1 ()).2.2.2.1.keep k4 (fun _ _ e=>e)) (HS ()).2.2.2.2.2.2.2.1 (HS ()).2.2.2.2.2.2.2.2) (frmOf_is (HS ()).2.2.2.2.2.2.2.1) (by
  have h2:d.e.out=[]:=(H ()).2.2.1.out x.to_ s.abs (abs_spot hs) j d.abs (by simp[Sp.abs,hd])
  rw[h2];simp)
 have HSET:Unit→_:=fun _=>hset
 have HCL:Unit→∀w4,Keep nil w2 w4→w4.cell? ⟨nb,1,none⟩=some (.slice (some ⟨pb,po,none⟩) N1.sps.length N1.pc)∧nb<w4.heap.size∧pb<w4.heap.size∧w4.cell? ⟨pb,po+x.to_ * 2+1,none⟩=some (.slice (some ⟨g,o,none⟩) s.ss.length s.sc)∧g<w4.heap.size:=fun _ w4 k4=>by
  have hn2:=World.block_lt_of_cell? w2 _ q1
  exact⟨(k4.cell nb _ hn2 id).trans q1,Nat.lt_of_lt_of_le hn2 k4.size,Nat.lt_of_lt_of_le hpl k4.size,(k4.cell pb _ hpl id).trans hp1,Nat.lt_of_lt_of_le hgl k4.size⟩
 have hjI:(j:Int)<(s.ss.length:Int):=by omega
 have hj9:(j:Int)<1000:=by omega
 have hnl2:=World.block_lt_of_cell? w2 _ q1
 obtain⟨xf,xt,xl,xg,xc,xs⟩:=x
 simp only[Pk.slice]at HET HIN HCL htI ht8 hp0 hp1 hto⊢
 generalize hxl:xl.length=xln at HIN
 have HXL:Unit→xl.length=xln:=fun _=>hxl
 clear HT hb hbt pk1 pk2 pk3 pk4 pk5 hls hj1 hj2 hpa hrep hset hwl hsl9 ht9 hto hp0 hsa hjl hd hs hs1 hnl1 hp1 hxl
 go_wp2_with fail
 obtain⟨bx,hbx⟩:∃bx:Array Value,bx=#[.int .i64 (xf:Int),.int .i64 (xt:Int),.slice (some ⟨xg,0,none⟩) xln xc,.bool xs]:=⟨_,rfl⟩
 have HBX:Unit→bx=#[.int .i64 (xf:Int),.int .i64 (xt:Int),.slice (some ⟨xg,0,none⟩) xln xc,.bool xs]:=fun _=>hbx
 obtain⟨W3,hW3⟩:∃W3,W3=w2.alloc (Obj.cells #[.int .i64 (xf:Int),.int .i64 (xt:Int),.slice (some ⟨xg,0,none⟩) xln xc,.bool xs] 200):=⟨_,rfl⟩
 have k3:Keep nil w2 W3:=by rw[hW3];exact(Keep.refl nil w2).alloc _
 have hb3:Blk W3 w2.heap.size bx 200:=by rw[hW3,hbx];exact Blk.new _ _ _
 rw[←hW3]
 obtain⟨xb,hxb⟩:∃xb,xb=w2.heap.size:=⟨_,rfl⟩
 rw[←hxb]at hb3⊢
 have HX:Unit→xb=w2.heap.size∧Keep nil w2 W3∧Blk W3 xb bx 200:=fun _=>⟨hxb,k3,hb3⟩
 have HXC:Unit→∀w4,Blk w4 xb bx 200→w4.cell? ⟨xb,0,none⟩=some (.int .i64 (xf:Int))∧w4.cell? ⟨xb,1,none⟩=some (.int .i64 (xt:Int))∧w4.cell? ⟨xb,2,none⟩=some (.slice (some ⟨xg,0,none⟩) xln xc)∧xb<w4.heap.size:=fun _ w4 hb=>by
  refine⟨?_,?_,?_,hb.lt⟩<;>rw[hb.cell,HBX ()]<;>rfl
 obtain⟨x0,x1,x2,hxl3⟩:=HXC () W3 hb3
 clear q1 hpl hgl hnl2
 obtain⟨q1,hnl,hpl,hp1,hgl⟩:=HCL () W3 k3
 clear hW3 k3 hb3 hxb hbx
 go_still_tail 8,(by kernel_rfl)
 go_wp2_with fail
 refine Calls.mono (HET () W3.drew ((HX ()).2.1.drew)) ?_
 rintro r w4 ⟨rfl,hk4⟩
 have HK4:Unit→Keep nil w2 w4∧Blk w4 xb bx 200:=fun _=>⟨(HX ()).2.1.drew.trans hk4,(HX ()).2.2.keep ((Keep.refl nil W3).drew.trans hk4) id⟩
 clear x0 x1 x2 hxl3 q1 hnl hpl hp1 hgl HET hk4
 obtain⟨x0,x1,x2,hxl3⟩:=HXC () w4 (HK4 ()).2
 obtain⟨q1,hnl,hpl,hp1,hgl⟩:=HCL () w4 (HK4 ()).1
 go_wp2_with fail
 go_still_tail 10,(by kernel_rfl)
 go_wp2_with fail
 refine Calls.mono (HIN () w4.drew ((HK4 ()).1.drew)) ?_
 rintro r w5 ⟨v,p',rfl,⟨ta,tc,rfl,trow,tnew⟩,hr5,hst5⟩
 obtain⟨q,hq⟩:∃q,q=frmOf xl:=⟨_,rfl⟩
 obtain⟨M2,s2,d2,HM2⟩:∃(M2:Nt) (s2:Sp) (d2:Sd),Unit→NtR w5 { M2 with way:=fun b=>N.way b∨inB ta b∨b=xb}∧Blk w5 xb bx 200∧(∀w6 M3,NtR w6 M3→M3.abs=M2.abs.carry xt j→NtTo w5 w6 { M2 with way:=fun b=>N.way b∨inB ta b∨b=xb} M3→(M3.way=fun b=>N.way b∨inB ta b∨b=xb)→
  Dst w w6 N (((N.abs.lose k).modE xt j (fun e=>e.inn q)).carry xt j) xt j (d.e.tld q) ta tc xb bx B 0 M3)∧M2.sps[xt]?=some s2∧s2.ss[j]?=some d2∧d2.e=d.e.inn q∧s2.ss.length=s.ss.length∧M2.sps.length=N1.sps.length∧M2.L=N1.L∧M2.nb=N.nb:=by
  obtain⟨M2,s2,d2,a1,a2,a3,a4,a5,a6,a7,a8,a9,a10,a11,a12,a13⟩:=HSET () w4.drew w5 _ p' (HK4 ()).1.drew hr5 hst5
  have hfr:∀f,q=some f→FrOk f:=fun f hf=>by
   have h1:=frmOf_is (l:=xl) (HS ()).2.2.2.2.2.2.2.1
   rw[←hq,hf]at h1
   exact h1.1
  rw[←hq]at a2 a5 a8 trow
  have key:=Dst.start (xb:=xb) (bx:=bx) (tc:=tc) (ta:=ta) (q:=q) (H ()).2.2.1 (H ()).2.2.2.1 (HN1 ()).2.1 (HN1 ()).1 (HN1 ()).2.2.1 (HN1 ()).2.2.2.2.2.1 (HS ()).2.1 (HS ()).2.2.2.2.1 hfr (HK4 ()).1.drew hst5 hr5.notL a5 trow tnew a1 (a2 _ rfl) a3 a4 a12 a13 (HX ()).1 (HK4 ()).2
  exact⟨M2,s2,d2,fun _=>⟨key.1,key.2.1,key.2.2,a6,a7,a8,a9,a10,a11,a3.nb.trans (HN1 ()).2.1.nb⟩⟩
 rw[←hq]
 have HQ:Unit→q=frmOf xl:=fun _=>hq
 obtain⟨MW,hMW⟩:∃MW,MW=({ M2 with way:=fun b=>N.way b∨inB ta b∨b=xb}:Nt):=⟨_,rfl⟩
 have HMW:Unit→MW=({ M2 with way:=fun b=>N.way b∨inB ta b∨b=xb}:Nt):=fun _=>hMW
 have HCY:Unit→∀w6,Keep nil w5 w6→_:=fun _ w6 k6=>by
  obtain⟨a1,a2,a3,a4,a5,a6,a7,a8,a9,a10⟩:=HM2 ()
  rw[←hMW]at a1
  refine carry_any MW xt j s2 d2 w6 (a1.keep k6 (fun _ _ e=>e)) (by rw[hMW];exact a4) a5 ?_ ?_ ?_ ?_
  ·rw[hMW];show (M2.L.length:Int)≤300
   rw[a9]
   have h1:=aok_lose (H ()).2.2.1 k
   rw[←(HN1 ()).2.2.1]at h1
   have:=h1.bag
   rw[NtR.abs_len.1]at this
   omega
  ·rw[hMW];show (M2.sps.length:Int)<2000
   rw[a8];exact(HS ()).2.2.2.2.2.2.1
  ·rw[a7];have:=(HS ()).2.2.2.2.2.1;omega
  ·rw[a6]
   have h2:d.e.out=[]:=(H ()).2.2.1.out xt s.abs (abs_spot (HS ()).1) j d.abs (by have:=(HS ()).2.2.2.2.1;simp[Sp.abs,this])
   have h3:=inn_len d.e q
   rw[h2]at h3
   simp only[List.length_nil]at h3
   omega
 have hnb2:MW.nb=nb:=by rw[hMW,HNB ()];exact(HM2 ()).2.2.2.2.2.2.2.2.2
 rw[hnb2]at HCY
 clear x0 x1 x2 hxl3 q1 hnl hpl hp1 hgl HSET hr5 hst5 trow tnew hnb2 hq HIN hMW
 obtain⟨x0,x1,x2,hxl3⟩:=HXC () w5 (HM2 ()).2.1
 go_wp2_with fail
 refine Calls.mono (HCY () w5 (Keep.refl nil w5)) ?_
 rintro r w6 ⟨rfl,M3,b1,b2,b3,b4⟩
 have HD0:Unit→Dst w w6 N (((N.abs.lose k).modE xt j (fun e=>e.inn q)).carry xt j) xt j (d.e.tld q) ta tc xb bx B 0 M3:=fun _=>(HM2 ()).2.2.1 w6 M3 b1 (by rw[b2,HMW ()];rfl) (by rw[←HMW ()];exact b3) (by rw[b4,HMW ()])
 obtain⟨A0,hA0⟩:∃A0,A0=((N.abs.lose k).modE xt j (fun e=>e.inn q)).carry xt j:=⟨_,rfl⟩
 obtain⟨T,hT⟩:∃T,T=d.e.tld q:=⟨_,rfl⟩
 rw[←hA0,←hT]at HD0
 have HAT:Unit→A0=((N.abs.lose k).modE xt j (fun e=>e.inn q)).carry xt j∧T=d.e.tld q∧T.length≤4∧∀m∈T,MOk m:=fun _=>by
  have h1:=frmOf_is (l:=xl) (HS ()).2.2.2.2.2.2.2.1
  have hfr:∀f,q=some f→FrOk f:=fun f hf=>by
   rw[←HQ (),hf]at h1
   exact h1.1
  have hk0:KOk d.e:=(H ()).2.2.1.kept xt s.abs (abs_spot (HS ()).1) j d.abs (by have:=(HS ()).2.2.2.2.1;simp[Sp.abs,this])
  refine⟨hA0,hT,?_,by rw[hT];exact(kok_inn hk0 hfr).2⟩
  rw[hT]
  exact tld_len d.e q ((HN1 ()).1.ends xt s (HS ()).2.1 j d (HS ()).2.2.2.2.1).four
 rw[←hT]
 clear x0 x1 x2 hxl3 HCY b1 b2 b3 b4 hA0 hT HM2 HK4
 go_wp2_with fail
 go_loopw [55] (fun v wr=>∃(i:Nat) (M:Nt),i≤T.length∧v=.int .i64 (i:Int)∧Dst w wr N A0 xt j T ta tc xb bx B i M) (fun v _=>T.length - (intOf v).toNat)
 case atStart=>exact⟨0,M3,by omega,rfl,HD0 ()⟩
 case round=>
  obtain⟨i,M,hi,rfl,hM⟩:=hrel
  have HM:Unit→Dst w wr N A0 xt j T ta tc xb bx B i M∧i≤T.length:=fun _=>⟨hM,hi⟩
  obtain⟨x0,x1,x2,hxl3⟩:=HXC () wr hM.box
  obtain⟨s',hs',hsb,hsa',hsl'⟩:=hM.spot (HS ()).1
  obtain⟨pb',po',hpa',hpl,hp0,hp1⟩:=hM.rep.spot_at hs'
  have hpp:some (⟨pb,po,none⟩:Addr)=some ⟨pb',po',none⟩:=by rw[←HPA (),(HN1 ()).2.1.pa,←hM.to_.pa];exact hpa'
  cases hpp
  rw[hsb]at hp0
  by_cases hil:i<T.length
  ·have HIL:Unit→i<T.length:=fun _=>hil
   have hiI:(i:Int)<(T.length:Int):=by omega
   have hi9:(i:Int)<1000:=by have:=(HAT ()).2.2.1;omega
   obtain⟨m,hm⟩:∃m,T[i]?=some m:=⟨_,List.getElem?_eq_getElem hil⟩
   obtain⟨tb,tq,hta,htl,e0,e1,e2,e3⟩:=msg_at hM.row hm hil
   have hmo:=(HAT ()).2.2.2 m (List.mem_of_getElem? hm)
   have HMM:Unit→T[i]?=some m∧MOk m∧M.sps[xt]?=some s'∧s'.b=s.b∧s'.ss.length=s.ss.length:=fun _=>⟨hm,hmo,hs',hsb,hsl'⟩
   obtain⟨hn,hset⟩:=hM.rep.turnN hs'
   have hwl:=hM.ok.well xt s'.abs (abs_spot hs')
   have hjs:j<s.ss.length:=(List.getElem?_eq_some_iff.1 (HS ()).2.2.2.2.1).1
   have HTK:Unit→∀w7,Keep nil wr w7→_:=fun _ w7 k7=>ntake_any s'.b s'.n s'.p j m w7 (hn.keep k7 (fun _ _ e=>e)) hwl.1.good (by
    have h2:s'.n.edges.length=s'.ss.length:=by simpa [Sp.abs]using hwl.2.1
    omega) (mok_take hmo).1 (mok_take hmo).2.1 (mok_take hmo).2.2.1 (by
    have h3:=hwl.2.2
    have h4:s'.abs.n.off.length=s'.n.off.length:=rfl
    have:=(H ()).2.2.2.2
    have:=(HAT ()).2.2.1
    omega) (by rw[hM.st.at hs'];simp)
   rw[hsb]at HTK
   have HSET:Unit→_:=fun _=>hset
   simp only[mv]at HTK
   obtain⟨mk,ml,mn,mf⟩:=m
   simp only at e0 e1 e2 e3 HTK
   have hrow4:T.length≤tc:=hM.row.2.1
   clear hi hil hM hs' hsb hsa' hsl' hpa' hp1 hm hmo hn hset hwl hjs hrow4
   have HTA:Unit→ta=some ⟨tb,tq,none⟩:=fun _=>hta
   rw[hta]
   go_wp2_with fail
   obtain⟨W7,hW7⟩:∃W7,W7=wr.alloc (Obj.cells #[.int .i64 (mk:Int),.int .i64 (ml:Int),.int .i64 (mn:Int),.bool mf] 76):=⟨_,rfl⟩
   have k7:Keep nil wr W7:=by rw[hW7];exact(Keep.refl nil wr).alloc _
   have hb7:Blk W7 wr.heap.size #[.int .i64 (mk:Int),.int .i64 (ml:Int),.int .i64 (mn:Int),.bool mf] 76:=by rw[hW7];exact Blk.new _ _ _
   rw[←hW7]
   obtain⟨yb,hyb⟩:∃yb,yb=wr.heap.size:=⟨_,rfl⟩
   rw[←hyb]at hb7⊢
   have y0:W7.cell? ⟨yb,0,none⟩=some (.int .i64 (mk:Int)):=by rw[hb7.cell];rfl
   have y1:W7.cell? ⟨yb,1,none⟩=some (.int .i64 (ml:Int)):=by rw[hb7.cell];rfl
   have y2:W7.cell? ⟨yb,2,none⟩=some (.int .i64 (mn:Int)):=by rw[hb7.cell];rfl
   have y3:W7.cell? ⟨yb,3,none⟩=some (.bool mf):=by rw[hb7.cell];rfl
   have hyl:yb<W7.heap.size:=hb7.lt
   have hp07:=(k7.cell pb (po+xt * 2) hpl id).trans hp0
   have hpl7:pb<W7.heap.size:=Nat.lt_of_lt_of_le hpl k7.size
   have HK7:Unit→Keep nil wr W7:=fun _=>k7
   clear hW7 k7 hb7 hyb e0 e1 e2 e3 htl hp0 hpl x0 x1 x2 hxl3 hta
   go_still_tail 6,(by kernel_rfl)
   go_wp2_with fail
   refine Calls.mono (HTK () W7.drew ((HK7 ()).drew)) ?_
   rintro r w8 ⟨rfl,p8,hr8,hm8⟩
   obtain⟨M2',s2',HM8⟩:∃(M2':Nt) (s2':Sp),Unit→NtR w8 M2'∧M2'.abs=M.abs.modN xt (fun n=>n.take j ⟨mk,ml,mn,mf⟩)∧NtTo wr w8 M M2'∧M2'.way=M.way∧M2'.sps[xt]?=some s2'∧s2'.n=s'.n.take j ⟨mk,ml,mn,mf⟩:=by
    have hr8':NRep w8 s'.b (s'.n.take j ⟨mk,ml,mn,mf⟩) p8:=by rw[(HMM ()).2.2.2.1];exact hr8
    have hm8':NMove W7.drew w8 s'.b s'.p p8:=by rw[(HMM ()).2.2.2.1];exact hm8
    obtain⟨M2',s2',a1,a2,a3,a4,a5,a6,a7,a8,a9,a10,a11⟩:=HSET () W7.drew w8 _ p8 ((HK7 ()).drew) hr8' hm8'
    exact⟨M2',s2',fun _=>⟨a1,a2 _ rfl,a3,a4,a5,a6⟩⟩
   have hB8:B+i<4999:=by have:=(H ()).2.2.2.2;have:=(HAT ()).2.2.1;have:=HIL ();omega
   have HPO:Unit→∀w9,Keep nil w8 w9→_:=fun _ w9 k9=>by
    obtain⟨a1,a2,a3,a4,a5,a6⟩:=HM8 ()
    have hwl:=(HM ()).1.ok.well xt s'.abs (abs_spot (HMM ()).2.2.1)
    have hjs:j<s.ss.length:=(List.getElem?_eq_some_iff.1 (HS ()).2.2.2.2.1).1
    refine post_any M2' xt s2' (B+i+1) w9 (a1.keep k9 (fun _ _ e=>e)) a5 ?_ ?_
    ·rw[a2]
     refine aok_take (HM ()).1.ok xt j _ (HMM ()).2.1 hB8 (fun s9 h9=>?_)
     rw[abs_spot (HMM ()).2.2.1]at h9
     cases h9
     show j<(s'.ss.map Sd.abs).length
     rw[List.length_map,(HMM ()).2.2.2.2]
     exact hjs
    ·rw[a6]
     have h2:s'.n.edges.length=s'.ss.length:=by simpa [Sp.abs]using hwl.2.1
     have h3:=hwl.2.2
     have h4:s'.abs.n.off.length=s'.n.off.length:=rfl
     have h5:=(HMM ()).2.2.2.2
     obtain⟨_,_,_,t4⟩:=take_well s'.n j ⟨mk,ml,mn,mf⟩ hwl.1 (by omega) (mok_take (HMM ()).2.1).2.2.2 (by omega)
     rw[(HM ()).1.st.at (HMM ()).2.2.1]at t4
     simp only[List.length_nil]at t4
     omega
   have hnb8:M2'.nb=nb:=by rw[HNB (),(HM8 ()).2.2.1.nb,(HM ()).1.to_.nb]
   rw[hnb8]at HPO
   have box8:Blk w8 xb bx 200:=(HM ()).1.box.keep (HM8 ()).2.2.1.keep ((HM ()).1.rep.way_not (by rw[(HM ()).1.way];exact Or.inr (Or.inr rfl)))
   obtain⟨x0,x1,x2,hxl3⟩:=HXC () w8 box8
   clear hnb8 box8 HSET HTK hr8 hm8 y0 y1 y2 y3 hyl hp07 hpl7 hB8
   go_wp2_with fail
   refine Calls.mono (HPO () w8 (Keep.refl nil w8)) ?_
   rintro r w9 ⟨rfl,M9,b1,b2,b3,b4,b5⟩
   have HN:Unit→Dst w w9 N A0 xt j T ta tc xb bx B (i+1) M9:=fun _=>(HM ()).1.next (HMM ()).1 (HM8 ()).2.1 (HM8 ()).2.2.1 (HM8 ()).2.2.2.1 b1 b2 b3 b4 b5
   clear HPO b1 b2 b3 b4 b5 x0 x1 x2 hxl3
   go_wp2
   exact⟨⟨i+1,M9,by have:=HIL ();omega,by go_num,by have:=HN ();rw[HTA ()]at this;exact this⟩,by have:=HIL ();simp[intOf];omega⟩
  ·have HE:Unit→i=T.length:=fun _=>by have:=(HM ()).2;omega
   have hiI:¬((i:Int)<(T.length:Int)):=by omega
   clear hi hil hM hs' hsb hsa' hsl' hpa' hp1 hp0 hpl x0 x1 x2 hxl3
   go_wp2
   go_ret
   have h1:=(HM ()).1
   rw[HE ()]at h1
   obtain⟨r1,r2,r3⟩:=h1.done
   have h4:=(HAT ()).2.2.1
   refine⟨rfl,_,r1,?_,r3,rfl,⟨h1.ok.few,fun a b c=>?_,h1.ok.out,h1.ok.kept,h1.ok.bag,h1.ok.pk,h1.ok.sym⟩,h1.st⟩
   ·rw[r2,AN.deliver,abs_bag_get (H ()).2.1,(HAT ()).1,(HAT ()).2.1]
    have e1:(N.abs.lose k).toEdge xt xf=j:=by
     rw[←(HN1 ()).2.2.1]
     exact toEdge_eq (HS ()).2.1 (HS ()).2.2.1 (HS ()).2.2.2.1
    have e2:(N.abs.lose k).tldOf xt j (frmOf xl)=d.e.tld q:=by
     rw[←(HN1 ()).2.2.1,AN.tldOf,abs_side (HS ()).2.1 (HS ()).2.2.2.2.1,HQ ()]
    show _=(N.abs.lose k).comes ⟨xf,xt,xl,xs⟩
    unfold AN.comes
    simp only[e1,e2,HQ ()]
   ·obtain⟨c1,c2,c3⟩:=h1.ok.well a b c
    exact⟨c1,c2,by omega⟩
theorem NtR.pa_at{w:World}{N:Nt}(h:NtR w N){i:Nat}{s:Sp}(hs:N.sps[i]?=some s){pb po:Nat}(hpa:N.pa=some ⟨pb,po,none⟩):pb<w.heap.size∧w.cell? ⟨pb,po+i * 2,none⟩=some (.pointer (some ⟨s.b,0,none⟩))∧w.cell? ⟨pb,po+i * 2+1,none⟩=some (.slice s.sa s.ss.length s.sc):=by
 obtain⟨pb',po',h1,h2,h3,h4⟩:=h.spot_at hs
 rw[hpa]at h1
 cases h1
 exact⟨h2,h3,h4⟩
theorem sbranch_any(N:Nt)(i k B pb po:Nat)(s:Sp)(w:World)(h:NtR w N)(hs:N.sps[i]?=some s)(ho:AOk N.abs B)(hpa:N.pa=some ⟨pb,po,none⟩)(hk:k∈s.ss.map Sd.to_):
 Calls Tryz.prog 67 #[.pointer (some ⟨pb,po+i * 2,none⟩),.int .i64 (k:Int)] w fun r w'=>r=.returned (.bool (N.abs.branch i k))∧Keep nil w w':=by
 obtain⟨j,hj1,hj2⟩:=find_first _ k hk
 obtain⟨hpl,hp0,hp1⟩:=h.pa_at hs hpa
 have hjl:j<s.ss.length:=by have:=(List.getElem?_eq_some_iff.1 hj1).1;simpa using this
 obtain⟨d,hd⟩:∃d,s.ss[j]?=some d:=⟨_,List.getElem?_eq_getElem hjl⟩
 obtain⟨g,o,cc,hsa,hgl,_,_,_⟩:=h.turnE hs hd
 have hwl:=ho.well i s.abs (abs_spot hs)
 have hel:s.n.edges.length=s.ss.length:=by simpa [Sp.abs]using hwl.2.1
 have hfew:(s.n.edges.length:Int)<1000:=hwl.1.good.rise.few
 obtain⟨e,he⟩:∃e,s.n.edges[j]?=some e:=⟨_,List.getElem?_eq_getElem (by omega)⟩
 have hb:N.abs.branch i k=decide (e.2=1):=by
  unfold AN.branch
  rw[abs_spot hs,toEdge_eq hs hj1 hj2]
  have:s.abs.n.edges[j]?=some e:=he
  simp only[this]
  by_cases h1:e.2=1
  ·simp[h1]
  ·simp[h1]
 rw[hb]
 rw[hsa]at hp1
 have HET:Unit→∀w4,Keep nil w w4→_:=fun _ w4 k4=>edgeTo_any pb (po+i * 2) k g o s.sc (s.ss.map Sd.to_) j w4 (by rw[List.length_map];exact(k4.cell pb _ hpl id).trans hp1) (Nat.lt_of_lt_of_le hpl k4.size) ((h.srow hs hsa).keep k4 hgl id) (Nat.lt_of_lt_of_le hgl k4.size) (by rw[List.length_map];omega) hj1 hj2
 have HB:Unit→∀w4,Keep nil w w4→_:=fun _ w4 k4=>isBranch_any s.b s.n s.p j e w4 ((h.nods i s hs).keep k4 (fun _ _ e=>e)) he (by omega)
 clear h hs ho hpa hk hj1 hj2 hjl hd hsa hwl hel hfew he hb hp1 hgl
 obtain⟨bb,hbb⟩:∃bb:Bool,bb=decide (e.2=1):=⟨_,rfl⟩
 rw[←hbb]at HB⊢
 clear hbb
 go_enter Tryz.func67,Tryz.ntmps67
 go_wp2_with fail
 have HP0:Unit→∀w',Keep nil w.drew w'→w'.cell? ⟨pb,po+i * 2,none⟩=some (.pointer (some ⟨s.b,0,none⟩)):=fun _ w' k'=>(k'.cell pb _ hpl id).trans hp0
 go_region_held3 (fun w'=>w'.cell? ⟨pb,po+i * 2,none⟩=some (.pointer (some ⟨s.b,0,none⟩))) (first|go_keep|exact HP0 () _ hk4|exact HP0 () _ (hk4.trans hk5)) (first|(go_at_call 115;refine(HET () _ ((Keep.refl nil w).drew)).mono ?_;rintro r w4 ⟨rfl,hk4⟩)|(go_at_call 119;refine(HB () _ ((Keep.refl nil w).drew.trans hk4)).mono ?_;rintro r w5 ⟨rfl,hk5⟩))
 have HK:Unit→Keep nil w w5:=fun _=>((Keep.refl nil w).drew.trans hk4).trans hk5
 clear HET HB hk4 hk5 HP0 hp0
 go_wp2
 go_ret
 exact⟨rfl,HK ()⟩
end Go.Proofs.YtlfijfodklhplaaGreat
