import Derived.Test.YtlfijfodklhplaaGreatTn20
set_option maxRecDepth 100000
set_option maxHeartbeats 4000000
set_option linter.unusedVariables false
set_option linter.unusedSimpArgs false
namespace Go.Proofs.YtlfijfodklhplaaGreat
open Go.RowKit
theorem lcells_get(l:List (Nat×Fr.Msg)):∀(k:Nat) (c:Nat×Fr.Msg),l[k]?=some c→∀j:Nat,j<5→(lcells l)[k * 5+j]?=(lcell c)[j]?:=by
 induction l with
 |nil=>intro k c h;simp at h
 |cons x t ih=>
  intro k c h j hj
  have hc:lcells (x::t)=lcell x++lcells t:=by simp[lcells]
  have hl:(lcell x).length=5:=rfl
  rw[hc]
  cases k with
  |zero=>
   simp only[List.getElem?_cons_zero,Option.some.injEq]at h
   subst h
   rw[List.getElem?_append_left (by omega)]
   simp
  |succ k=>
   simp only[List.getElem?_cons_succ]at h
   rw[List.getElem?_append_right (by omega),hl,show (k+1) * 5+j - 5=k * 5+j by omega]
   exact ih k c h j hj
theorem letter_at{w:World}{a:Option Addr}{n c:Nat}{l:List (Nat×Fr.Msg)}(h:RV w 197 5 a n c (lcells l)){k:Nat}{x:Nat×Fr.Msg}(hx:l[k]?=some x)(hk:k<n):
 ∃g q,a=some ⟨g,q,none⟩∧g<w.heap.size∧w.cell? ⟨g,q+k * 5,none⟩=some (.int .i64 (x.1:Int))∧w.cell? ⟨g,q+k * 5+1,none⟩=some (.int .i64 (x.2.kind:Int))∧w.cell? ⟨g,q+k * 5+2,none⟩=some (.int .i64 (x.2.level:Int))∧w.cell? ⟨g,q+k * 5+3,none⟩=some (.int .i64 (x.2.name:Int))∧w.cell? ⟨g,q+k * 5+4,none⟩=some (.bool x.2.finding):=by
 obtain⟨g,q,h1,h2⟩:=rv_pos h (by omega)
 have c0:=lcells_get l k x hx
 refine⟨g,q,h1,h2.lt,h2.cell _ _ (c0 0 (by omega)),?_,?_,?_,?_⟩
 ·rw[Nat.add_assoc];exact h2.cell _ _ (c0 1 (by omega))
 ·rw[Nat.add_assoc];exact h2.cell _ _ (c0 2 (by omega))
 ·rw[Nat.add_assoc];exact h2.cell _ _ (c0 3 (by omega))
 ·rw[Nat.add_assoc];exact h2.cell _ _ (c0 4 (by omega))
theorem Pst.start{w:World}{N:Nt}{k B:Nat}{s:Sp}(h:NtR w N)(hs:N.sps[k]?=some s)(ho:AOk N.abs B):∃M,Pst w (w.setCell ⟨s.b,11,none⟩ (.slice none 0 0)) N k s B 0 M:=by
 have hn:=h.nods k s hs
 obtain⟨n1,n2,n3⟩:=hn.sentNil
 obtain⟨r1,r2⟩:=h.setN hs { s.n with sent:=[]} { s.p with sa:=none,sc:=0} (inB s.p.sa) n1 (n2.mono (fun i _ e=>Or.inl e))
  (by
   rintro i (e|e|e|e)
   ·exact Or.inl (Or.inl e)
   ·exact Or.inl (Or.inr (Or.inl e))
   ·exact Or.inl (Or.inr (Or.inr (Or.inl e)))
   ·exact(inB_none i e).elim)
  (by
   intro i e
   refine⟨Or.inr (Or.inr (Or.inr e)),?_⟩
   rintro (x|x|x|x)
   ·subst x;exact hn.sb e
   ·exact hn.es i x e
   ·exact hn.fs i x e
   ·exact inB_none i x)
 have ha:=abs_setN hs { s.n with sent:=[]} { s.p with sa:=none,sc:=0} (inB s.p.sa) (fun n=>{ n with sent:=[]}) rfl
 refine⟨_,r1,by rw[ha];rfl,r2,rfl,?_,?_⟩
 ·rw[ha]
  refine aok_modN ho (Nat.le_refl _) k _ (fun s1 h1=>?_)
  obtain⟨w1,w2,w3⟩:=ho.well k s1 h1
  exact⟨sentNil_well w1,rfl,w3⟩
 ·exact hn.srow.keep n2 (fun b hb e=>hn.sb ((show b=s.b from e)▸hb))
theorem post_any(N:Nt)(k:Nat)(s:Sp)(B:Nat)(w:World)(h:NtR w N)(hs:N.sps[k]?=some s)(ho:AOk N.abs B)(hsl:(s.n.sent.length:Int)<1000000000000):
 Calls Tryz.prog 64 #[.pointer (some ⟨N.nb,0,none⟩),.int .i64 (k:Int)] w fun r w'=>r=.returned (.tuple #[])∧∃N',NtR w' N'∧N'.abs=N.abs.post k∧NtTo w w' N N'∧N'.way=N.way∧AOk N'.abs B:=by
 obtain⟨pb,po,hpa,hpl,hp0,hp1⟩:=h.spot_at hs
 have hkl:=(List.getElem?_eq_some_iff.1 hs).1
 have q1:=h.c1
 have hnl:=h.blk.lt
 have hsps:N.sps.length≤1000:=by have:=ho.few;simpa [Nt.abs]using this
 rw[hpa]at q1
 have H:Unit→NtR w N∧N.sps[k]?=some s∧AOk N.abs B∧(s.n.sent.length:Int)<1000000000000∧N.pa=some ⟨pb,po,none⟩:=fun _=>⟨h,hs,ho,hsl,hpa⟩
 have HS:Unit→∀w1,Keep nil w w1→_:=fun _ w1 k1=>nsent_any s.b s.n s.p w1 ((h.nods k s hs).keep k1 (fun _ _ e=>e))
 have H1:Unit→∃M,Pst w (w.setCell ⟨s.b,11,none⟩ (.slice none 0 0)) N k s B 0 M:=fun _=>Pst.start h hs ho
 have hkI:(k:Int)<(N.sps.length:Int):=by omega
 have hk8:(k:Int)<2000:=by omega
 obtain⟨nb,hnb⟩:∃nb,nb=N.nb:=⟨_,rfl⟩
 obtain⟨ln,hln⟩:∃ln,ln=s.n.sent.length:=⟨_,rfl⟩
 have HNB:Unit→nb=N.nb∧ln=s.n.sent.length:=fun _=>⟨hnb,hln⟩
 rw[←hln]at HS
 rw[←hnb]at q1 hnl⊢
 clear h hs ho hsl hkl hpa hnb hln hsps
 go_enter Tryz.func64,Tryz.ntmps64
 go_wp2_with fail
 refine Calls.mono (HS () _ (Keep.refl nil w)) ?_
 rintro r w1 ⟨rfl,rfl⟩
 obtain⟨W1,hW1⟩:∃W1,W1=w.setCell ⟨s.b,11,none⟩ (.slice none 0 0):=⟨_,rfl⟩
 rw[←hW1]at H1⊢
 clear HS q1 hpl hnl hp0 hp1 hW1
 go_wp2_with fail
 go_loopw [19] (fun v wr=>∃(i:Nat) (M:Nt),i≤ln∧v=.int .i64 (i:Int)∧Pst w wr N k s B i M) (fun v _=>ln - (intOf v).toNat)
 case atStart=>
  obtain⟨M,hM⟩:=H1 ()
  exact⟨0,M,by omega,rfl,hM⟩
 case round=>
  obtain⟨i,M,hi,rfl,hM⟩:=hrel
  have HM:Unit→Pst w wr N k s B i M∧i≤ln:=fun _=>⟨hM,hi⟩
  by_cases hil:i<ln
  ·have HIL:Unit→i<ln:=fun _=>hil
   have hiI:(i:Int)<(ln:Int):=by omega
   have hi9:(i:Int)<1000000000000:=by have:=(H ()).2.2.2.1;rw[←(HNB ()).2]at this;omega
   obtain⟨c,hc⟩:∃c,s.n.sent[i]?=some c:=⟨_,List.getElem?_eq_getElem (by rw[←(HNB ()).2];exact hil)⟩
   have HC:Unit→s.n.sent[i]?=some c:=fun _=>hc
   obtain⟨hw1,hw2,hw3⟩:=(H ()).2.2.1.well k s.abs (abs_spot (H ()).2.1)
   have hcl:c.1<s.ss.length:=by
    have h1:=hw1.ns.sent c (List.mem_of_getElem? hc)
    have h2:s.n.edges.length=s.ss.length:=by simpa [Sp.abs]using hw2
    have h3:s.abs.n.edges.length=s.n.edges.length:=rfl
    omega
   have hsl9:(s.ss.length:Int)<1000:=by
    have h2:s.n.edges.length=s.ss.length:=by simpa [Sp.abs]using hw2
    have:=hw1.good.rise.few
    have h3:s.abs.n.edges.length=s.n.edges.length:=rfl
    omega
   obtain⟨s',d',hs',hd',hsa,hsc,hsl⟩:=hM.side (H ()).2.1 hcl
   obtain⟨g,o,cc,hsa',hgl,hto,hrep,hset⟩:=hM.rep.turnE hs' hd'
   obtain⟨pb',po',hpa',hpl',hp0,hp1⟩:=hM.rep.spot_at hs'
   have hpp:some (⟨pb,po,none⟩:Addr)=some ⟨pb',po',none⟩:=by rw[←(H ()).2.2.2.2,←hM.to_.pa];exact hpa'
   cases hpp
   obtain⟨lb,lo,hla,hll,e0,e1,e2,e3,e4⟩:=letter_at hM.row hc (by rw[←(HNB ()).2];exact hil)
   rw[hsa']at hp1
   have HP:Unit→M.sps[k]?=some s'∧s'.ss[c.1]?=some d'∧(s.ss.length:Int)<1000∧s'.ss.length=s.ss.length:=fun _=>⟨hs',hd',hsl9,hsl⟩
   have HSE:Unit→∀w1,Keep nil wr w1→_:=fun _ w1 k1=>linkSend_all cc 181 g (o+c.1 * 25+1) d'.e d'.p c.2 w1 (hrep.keep k1 (fun _ _ e=>e)) (by have:=hM.ok.out k s'.abs (abs_spot hs') c.1 d'.abs (by simp[Sp.abs,hd']);have h2:d'.e.out=[]:=this;rw[h2];simp)
   have hci:(c.1:Int)<(s'.ss.length:Int):=by omega
   have hc9:(c.1:Int)<1000:=by omega
   simp only[mv]at HSE
   obtain⟨ce,cm⟩:=c
   obtain⟨mk,ml,mn,mf⟩:=cm
   simp only at e0 e1 e2 e3 e4 HSE hci hc9
   have HSET:Unit→_:=fun _=>hset
   clear hi hil hM hc hcl hw1 hw2 hw3 hto hrep hset hpa' hp0 hs' hd' hsa hsa' hsc hsl hsl9
   rw[hla]
   go_wp2_with fail
   obtain⟨W3,hW3⟩:∃W3,W3=wr.alloc (Obj.cells #[.int .i64 (ce:Int),.int .i64 (mk:Int),.int .i64 (ml:Int),.int .i64 (mn:Int),.bool mf] 197):=⟨_,rfl⟩
   have k3:Keep nil wr W3:=by rw[hW3];exact(Keep.refl nil wr).alloc _
   have hb3:Blk W3 wr.heap.size #[.int .i64 (ce:Int),.int .i64 (mk:Int),.int .i64 (ml:Int),.int .i64 (mn:Int),.bool mf] 197:=by rw[hW3];exact Blk.new _ _ _
   rw[←hW3]
   have hp3:=(k3.cell pb (po+k * 2+1) hpl' id).trans hp1
   obtain⟨xb,hxb⟩:∃xb,xb=wr.heap.size:=⟨_,rfl⟩
   rw[←hxb]at hb3⊢
   have x0:W3.cell? ⟨xb,0,none⟩=some (.int .i64 (ce:Int)):=by rw[hb3.cell];rfl
   have x1:W3.cell? ⟨xb,1,none⟩=some (.int .i64 (mk:Int)):=by rw[hb3.cell];rfl
   have x2:W3.cell? ⟨xb,2,none⟩=some (.int .i64 (ml:Int)):=by rw[hb3.cell];rfl
   have x3:W3.cell? ⟨xb,3,none⟩=some (.int .i64 (mn:Int)):=by rw[hb3.cell];rfl
   have x4:W3.cell? ⟨xb,4,none⟩=some (.bool mf):=by rw[hb3.cell];rfl
   have HX:Unit→xb=wr.heap.size∧Keep nil wr W3∧xb<W3.heap.size:=fun _=>⟨hxb,k3,hb3.lt⟩
   clear hW3 k3 hb3 hp1 e0 e1 e2 e3 e4 hll hpl' hgl hxb hla
   go_still_tail 10,(by kernel_rfl)
   go_wp2_with fail
   refine Calls.mono (HSE () W3.drew ((HX ()).2.1.drew)) ?_
   rintro r w2 ⟨z,rfl,p',hr2,hst2⟩
   obtain⟨M2,s2,d2,HM2⟩:∃M2 s2 d2,Unit→NtR w2 M2∧M2.abs=M.abs.modE k ce (fun e=>e.try ⟨mk,ml,mn,mf⟩)∧NtTo wr w2 M M2∧M2.way=M.way∧(∀f∈(d'.e.try ⟨mk,ml,mn,mf⟩).out,FrOk f)∧M2.sps[k]?=some s2∧s2.ss[ce]?=some d2∧d2.e=d'.e.try ⟨mk,ml,mn,mf⟩∧s2.ss.length=s'.ss.length∧M2.sps.length=M.sps.length∧M2.L=M.L:=by
    obtain⟨M2,s2,d2,a1,a2,a3,a4,a5,a6,a7,a8,a9,a10,a11,a12,a13⟩:=HSET () W3.drew w2 _ p' (HX ()).2.1.drew hr2 hst2
    exact⟨M2,s2,d2,fun _=>⟨a1,a2 _ rfl,a3,a4,a5,a6,a7,a8,a9,a10,a11⟩⟩
   have x0':w2.cell? ⟨xb,0,none⟩=some (.int .i64 (ce:Int)):=by
    obtain⟨M2,s2,d2,a1,a2,a3,a4,a5,a6,a7,a8,a9,a10,a11,a12,a13⟩:=HSET () W3.drew w2 _ p' (HX ()).2.1.drew hr2 hst2
    exact(a12.cell xb 0 (HX ()).2.2 (by rw[(HX ()).1];exact Nat.lt_irrefl _)).trans x0
   have hx2:xb<w2.heap.size:=World.block_lt_of_cell? w2 _ x0'
   have HCY:Unit→∀w4,Keep nil w2 w4→_:=fun _ w4 k4=>by
    obtain⟨a1,a2,a3,a4,a5,a6,a7,a8,a9,a10,a11⟩:=HM2 ()
    have hMs:=(HM ()).1.ok
    refine carry_any M2 k ce s2 d2 w4 (a1.keep k4 (fun _ _ e=>e)) a6 a7 ?_ ?_ ?_ ?_
    ·rw[a11];have:=hMs.bag;rw[NtR.abs_len.1]at this;omega
    ·rw[a10];have:=hMs.few;rw[NtR.abs_len.2]at this;omega
    ·rw[a9,(HP ()).2.2.2];have:=(HP ()).2.2.1;omega
    ·rw[a8]
     have h1:=try_len d'.e ⟨mk,ml,mn,mf⟩
     have h2:d'.e.out=[]:=hMs.out k s'.abs (abs_spot (HP ()).1) ce d'.abs (by have:=(HP ()).2.1;simp[Sp.abs,this])
     rw[h2]at h1
     simp only[List.length_nil]at h1
     omega
   have hnb2:M2.nb=nb:=by rw[(HNB ()).1,(HM2 ()).2.2.1.nb,(HM ()).1.to_.nb]
   rw[hnb2]at HCY
   clear HSET HSE hr2 hst2 x0 x1 x2 x3 x4 hp3 hnb2
   go_wp2_with fail
   refine Calls.mono (HCY () w2 (Keep.refl nil w2)) ?_
   rintro r w5 ⟨rfl,M3,b1,b2,b3,b4⟩
   have HN:Unit→Pst w w5 N k s B (i+1) M3:=fun _=>by
    obtain⟨a1,a2,a3,a4,a5,a6,a7,a8,a9,a10,a11⟩:=HM2 ()
    exact(HM ()).1.next (HC ()) (HP ()).1 (HP ()).2.1 a2 a3 a4 a5 b1 b2 b3 b4
   clear HCY x0' hx2 b1 b2 b3 b4
   go_wp2
   exact⟨⟨i+1,M3,by have:=HIL ();omega,by go_num,HN ()⟩,by have:=HIL ();simp[intOf];omega⟩
  ·have HE:Unit→i=ln:=fun _=>by have:=(HM ()).2;omega
   have hiI:¬((i:Int)<(ln:Int)):=by omega
   clear hi hil hM
   go_wp2
   go_end0
   obtain⟨r1,r2,r3,r4⟩:=Pst.done (by have:=(HM ()).1;rw[HE (),(HNB ()).2]at this;exact this) (H ()).2.1
   exact⟨rfl,_,r1,r2,r3,rfl,r4⟩
theorem NtR.turnN{w:World}{M:Nt}(h:NtR w M){k:Nat}{s:Sp}(hs:M.sps[k]?=some s):
 NRep w s.b s.n s.p∧∀(w3 w2:World) (n':Nod) (p':Np),Keep nil w w3→NRep w2 s.b n' p'→NMove w3 w2 s.b s.p p'→
  ∃M2 s2,NtR w2 M2∧(∀f:Nod→Nod,f s.n=n'→M2.abs=M.abs.modN k f)∧NtTo w w2 M M2∧M2.way=M.way∧M2.sps[k]?=some s2∧s2.n=n'∧s2.ss=s.ss∧s2.sa=s.sa∧M2.sps.length=M.sps.length∧M2.L=M.L∧Keep (fun b=>b<w.heap.size) w3 w2:=by
 refine⟨h.nods k s hs,fun w3 w2 n' p' k3 hr hm=>?_⟩
 have hlt:=(h.nods k s hs).lt
 obtain⟨r1,r2⟩:=h.setN hs n' p' (fun _=>False) hr ((k3.mono (fun _ _ e=>e.elim)).trans hm.keep) (fun b hb=>(hm.mine b hb).imp id (fun e=>Nat.le_trans k3.size e)) (fun b e=>e.elim)
 exact⟨_,{ s with n:=n',p:=p'},r1,fun f hf=>abs_setN hs _ _ _ f hf,r2,way_setN ..,lset_self hs _,rfl,rfl,rfl,by simp[Nt.setN,Nt.setS],rfl,hm.keep.mono (fun b _ e=>hlt b e)⟩
theorem NtR.hasNode{w:World}{N:Nt}(h:NtR w N)(k:Int):Calls Tryz.prog 62 #[.pointer (some ⟨N.nb,0,none⟩),.int .i64 k] w fun r w'=>r=.returned (.bool (decide (0≤k∧k<(N.sps.length:Int))))∧Keep nil w w':=
 hasNode_any N.nb 0 N.pa N.sps.length N.pc k w (by rw[Nat.zero_add];exact h.c1) h.blk.lt
def AN.nods(A:AN):List Nod:=A.sps.map AS.n
def ASt(A:AN):Prop:=∀(i:Nat) (n:Nod),A.nods[i]?=some n→n.sent=[]
theorem nods_modE(A:AN)(i j:Nat)(f:En→En):(A.modE i j f).nods=A.nods:=modify_map _ _ _ _ (fun s=>rfl)
theorem nods_modN(A:AN)(i:Nat)(f:Nod→Nod):(A.modN i f).nods=A.nods.modify i f:=by
 apply List.ext_getElem?
 intro k
 simp only[AN.nods,AN.modN,List.getElem?_map,List.getElem?_modify]
 cases A.sps[k]? with
 |none=>simp
 |some x=>by_cases e:i=k<;>simp[e]
theorem nods_adds(i t:Nat)(l:List Fr.Frm):∀A:AN,(A.adds i t l).nods=A.nods:=by
 induction l with
 |nil=>intro A;rfl
 |cons f r ih=>
  intro A
  show ((A.add _).adds i t r).nods=_
  rw[ih];unfold AN.nods;rw[(add_sps A _).1]
theorem nods_carry(A:AN)(i j:Nat):(A.carry i j).nods=A.nods:=by
 unfold AN.carry
 split
 ·rfl
 ·rw[nods_adds,nods_modE]
theorem nods_sends(i:Nat)(l:List (Nat×Fr.Msg)):∀A:AN,(A.sends i l).nods=A.nods:=by
 induction l with
 |nil=>intro A;rfl
 |cons c r ih=>
  intro A
  show ((A.sendOne i c).sends i r).nods=_
  rw[ih];unfold AN.sendOne;rw[nods_carry,nods_modE]
theorem ast_post(A:AN)(k:Nat)(h:∀(i:Nat) (n:Nod),i≠k→A.nods[i]?=some n→n.sent=[]):ASt (A.post k):=by
 intro i n hn
 unfold AN.post at hn
 rw[nods_sends,nods_modN]at hn
 obtain⟨x,hx,rfl⟩:=modify_get hn
 split
 ·rfl
 ·rename_i e
  exact h i x (fun e2=>e e2.symm) hx
theorem ast_mod_post(A:AN)(k:Nat)(f:Nod→Nod)(h:ASt A):ASt ((A.modN k f).post k):=by
 refine ast_post _ k (fun i n hi hn=>?_)
 rw[nods_modN]at hn
 obtain⟨x,hx,rfl⟩:=modify_get hn
 rw[if_neg (fun e=>hi e.symm)]
 exact h i x hx
theorem ASt.at{N:Nt}(h:ASt N.abs){k:Nat}{s:Sp}(hs:N.sps[k]?=some s):s.n.sent=[]:=h k s.n (by simp[AN.nods,Nt.abs,hs,Sp.abs])
theorem aok_wake{A:AN}{B:Nat}(h:AOk A B)(k:Nat):AOk (A.modN k Nod.wake) B:=by
 refine aok_modN h (Nat.le_refl _) k _ (fun s hs=>?_)
 obtain⟨h1,h2,h3⟩:=h.well k s hs
 exact⟨wake_well _ h1,(fr_wake s.n).len,by rw[(fr_wake s.n).off];exact h3⟩
theorem mwake_any(N:Nt)(k:Nat)(s:Sp)(B:Nat)(w:World)(h:NtR w N)(hs:N.sps[k]?=some s)(ho:AOk N.abs B)(hst:ASt N.abs):
 Calls Tryz.prog 31 #[.pointer (some ⟨N.nb,0,none⟩),.int .i64 (k:Int)] w fun r w'=>r=.returned (.int .i64 0)∧∃N',NtR w' N'∧N'.abs=N.abs.wake k∧NtTo w w' N N'∧N'.way=N.way∧AOk N'.abs B∧ASt N'.abs:=by
 have hkl:=(List.getElem?_eq_some_iff.1 hs).1
 have hk9:(k:Int)<2000:=by have:=ho.few;rw[NtR.abs_len.2]at this;omega
 have hkI:(k:Int)<(N.sps.length:Int):=by omega
 have HH:Unit→_:=fun _=>h.hasNode (k:Int)
 rw[decide_eq_true (p:=0≤(k:Int)∧(k:Int)<(N.sps.length:Int)) ⟨by omega,by omega⟩]at HH
 have H:Unit→NtR w N∧N.sps[k]?=some s∧AOk N.abs B∧ASt N.abs:=fun _=>⟨h,hs,ho,hst⟩
 have HC:Unit→∀w1,Keep nil w w1→∃pb po,w1.cell? ⟨N.nb,1,none⟩=some (.slice (some ⟨pb,po,none⟩) N.sps.length N.pc)∧N.nb<w1.heap.size∧pb<w1.heap.size∧w1.cell? ⟨pb,po+k * 2,none⟩=some (.pointer (some ⟨s.b,0,none⟩))∧s.b<w1.heap.size:=fun _ w1 k1=>by
  have h1:=h.keep k1 (fun _ _ e=>e)
  obtain⟨pb,po,hpa,hpl,hp0,hp1⟩:=h1.spot_at hs
  have q1:=h1.c1
  rw[hpa]at q1
  exact⟨pb,po,q1,h1.blk.lt,hpl,hp0,(h1.nods k s hs).blk.lt⟩
 obtain⟨nb,hnb⟩:∃nb,nb=N.nb:=⟨_,rfl⟩
 have HNB:Unit→nb=N.nb:=fun _=>hnb
 rw[←hnb]at HH HC⊢
 clear h hs ho hst hkl hnb
 go_enter Tryz.func31,Tryz.ntmps31
 go_wp2_with fail
 refine Calls.mono (HH ()) ?_
 rintro r w1 ⟨rfl,k1⟩
 obtain⟨pb,po,q1,hnl,hpl,hp0,hbl⟩:=HC () w1 k1
 have K1:Unit→Keep nil w w1:=fun _=>k1
 clear HH HC k1
 go_wp2_with fail
 have hw1:=((H ()).2.2.1.well k s.abs (abs_spot (H ()).2.1)).1
 obtain⟨hn,hset⟩:=(H ()).1.turnN (H ()).2.1
 have hse:=(H ()).2.2.2.at (H ()).2.1
 refine Calls.mono (wake_any s.b s.n s.p w1 (hn.keep (K1 ()) (fun _ _ e=>e)) hw1.good.rise (by rw[hse];simp)) ?_
 rintro r w2 ⟨rfl,p',hr2,hs2⟩
 obtain⟨M2,s2,a1,a2,a3,a4,a5,a6,a7,a8,a9,a10,a11⟩:=hset w1 w2 _ p' (K1 ()) hr2 hs2.move
 have HM2:Unit→NtR w2 M2∧M2.abs=N.abs.modN k Nod.wake∧NtTo w w2 N M2∧M2.way=N.way:=fun _=>⟨a1,a2 _ rfl,a3,a4⟩
 have HP:Unit→∀w3,Keep nil w2 w3→_:=fun _ w3 k3=>post_any M2 k s2 B w3 (a1.keep k3 (fun _ _ e=>e)) a5 (by rw[(HM2 ()).2.1];exact aok_wake (H ()).2.2.1 k) (by
  rw[a6]
  have h1:=(fr_wake s.n).sent
  rw[hse]at h1
  simp only[List.length_nil]at h1
  omega)
 have hnb2:M2.nb=nb:=by rw[a3.nb,HNB ()]
 rw[hnb2]at HP
 clear a1 a2 a3 a4 a5 a6 a7 a8 a9 a10 a11 hw1 hn hset hse hr2 hs2 q1 hp0 hnb2
 go_wp2_with fail
 refine Calls.mono (HP () w2 (Keep.refl nil w2)) ?_
 rintro r w3 ⟨rfl,N',b1,b2,b3,b4,b5⟩
 have HN:Unit→NtR w3 N'∧N'.abs=N.abs.wake k∧NtTo w w3 N N'∧N'.way=N.way∧AOk N'.abs B∧ASt N'.abs:=fun _=>
  ⟨b1,by rw[b2,(HM2 ()).2.1];rfl,(HM2 ()).2.2.1.trans b3,b4.trans (HM2 ()).2.2.2,b5,by rw[b2,(HM2 ()).2.1];exact ast_mod_post _ k _ (H ()).2.2.2⟩
 clear HP b1 b2 b3 b4 b5
 go_wp2
 go_ret
 exact⟨rfl,N',HN ()⟩
theorem abs_bag_get{N:Nt}{k:Nat}{x:Pk}(h:N.L[k]?=some x):N.abs.bag[k]?=some x.abs:=by simp[Nt.abs,h]
theorem aok_lose{A:AN}{B:Nat}(h:AOk A B)(k:Nat):AOk (A.lose k) B:=
 ⟨h.few,h.well,h.out,h.kept,by have:=h.bag;have:=List.length_eraseIdx_le A.bag k;show (A.bag.eraseIdx k).length≤300;omega,fun x hx=>h.pk x (List.mem_of_mem_eraseIdx hx),h.sym⟩
theorem NtR.lose{w w':World}{N:Nt}(h:NtR w N){k:Nat}{x:Pk}(hx:N.L[k]?=some x)(hb:Bag w' N.nb 2 (N.L.eraseIdx k) N.ba N.bc)(ht:BagTo w w' N.nb 2 N.ba N.ba (.slice N.ba (N.L.length - 1) N.bc)):
 NtR w' (N.setB (N.L.eraseIdx k) N.ba N.bc N.way)∧NtTo w w' N (N.setB (N.L.eraseIdx k) N.ba N.bc N.way)∧(N.setB (N.L.eraseIdx k) N.ba N.bc N.way).abs=N.abs.lose k∧PRow w' x.g x.l x.c∧¬(N.setB (N.L.eraseIdx k) N.ba N.bc N.way).Own x.g:=by
 have hl:(N.L.eraseIdx k).length=N.L.length - 1:=by
  rw[List.length_eraseIdx,if_pos (List.getElem?_eq_some_iff.1 hx).1]
 rw[←hl]at ht
 obtain⟨r1,r2⟩:=h.setB (N.L.eraseIdx k) N.ba N.bc N.way hb ht (fun y hy=>Or.inl (List.mem_of_mem_eraseIdx hy)) (h.pkn.sublist (List.eraseIdx_sublist ..))
  (fun b hb'=>⟨hb',fun y hy e=>by have:=h.apart .way .pks b hb' ⟨y,List.mem_of_mem_eraseIdx hy,e⟩;cases this⟩)
 have t1:=r2 w N (NtTo.refl w N) (fun y hy=>Or.inl (List.mem_of_mem_eraseIdx hy))
 have hxm:x∈N.L:=List.mem_of_getElem? hx
 refine⟨r1,t1,?_,?_,?_⟩
 ·simp only[Nt.abs,Nt.setB,AN.lose,List.eraseIdx_eq_take_drop_succ,List.map_append,List.map_take,List.map_drop]
 ·refine(h.pks x hxm).keep ht.keep (fun b hb' e=>?_)
  rw[inB_some.1 hb']at e
  rcases e with e|e
  ·have:=h.apart .pks .net x.g ⟨x,hxm,rfl⟩ e;cases this
  ·have:=h.apart .pks .bag x.g ⟨x,hxm,rfl⟩ e;cases this
 ·rintro⟨q,hq,hk⟩
  have key:∀q',N.own q' x.g→q'=.pks:=fun q' h1=>h.apart q' .pks x.g h1 ⟨x,hxm,rfl⟩
  cases q with
  |way=>exact hq rfl
  |net=>have:=key .net hk;cases this
  |edges=>have:=key .edges hk;cases this
  |spots=>have:=key .spots hk;cases this
  |bag=>have:=key .bag hk;cases this
  |spot i a=>have:=key (.spot i a) hk;cases this
  |pks=>
   obtain⟨y,hy,e⟩:=hk
   have hp:=h.pkn
   have hsp:N.L=N.L.take k++x::N.L.drop (k+1):=by
    obtain⟨hk',e'⟩:=List.getElem?_eq_some_iff.1 hx
    rw[←e',←List.drop_eq_getElem_cons hk',List.take_append_drop]
   rw[hsp,List.pairwise_append,List.pairwise_cons]at hp
   have hy2:y∈N.L.take k++N.L.drop (k+1):=by
    have:N.L.eraseIdx k=N.L.take k++N.L.drop (k+1):=List.eraseIdx_eq_take_drop_succ ..
    rw[←this];exact hy
   rcases List.mem_append.1 hy2 with h1|h1
   ·exact hp.2.2 y h1 x (List.mem_cons_self ..) e
   ·exact hp.2.1.1 y h1 e.symm
theorem NtR.pkt{N:Nt}{B k:Nat}{x:Pk}(ho:AOk N.abs B)(hx:N.L[k]?=some x):0<x.l.length∧(x.l.length:Int)<1000∧(∀y∈x.l,y<256):=by
 obtain⟨h1,h2,h3,_⟩:=ho.pk x.abs (List.mem_of_getElem? (abs_bag_get hx))
 have e:x.abs.l=x.l:=rfl
 rw[e]at h1 h2 h3
 exact⟨h2,by omega,h1⟩
theorem mpackets_any(N:Nt)(B:Nat)(w:World)(h:NtR w N)(ho:AOk N.abs B):
 Calls Tryz.prog 39 #[.pointer (some ⟨N.nb,0,none⟩)] w fun r w'=>∃T a c,r=.returned (.slice a T.length c)∧Tel w w' N.L T a c:=by
 have HT:Unit→∀w1,Keep nil w w1→_:=fun _ w1 k1=>bagTell_any N.nb 2 N.L N.ba N.bc w1 ((h.keep k1 (fun _ _ e=>e)).bag) (by have:=ho.bag;rw[NtR.abs_len.1]at this;omega) (fun x hx=>by
  obtain⟨j,hj,e⟩:=List.getElem_of_mem hx
  have hx':N.L[j]?=some x:=by rw[List.getElem?_eq_getElem hj,e]
  exact⟨(h.pks x hx).keep k1 (fun _ _ e=>e),(NtR.pkt ho hx').1,(NtR.pkt ho hx').2.1⟩)
 have q2:=h.c2
 have hnl:=h.blk.lt
 generalize N.nb=nb at *
 clear h ho
 go_enter Tryz.func39,Tryz.ntmps39
 go_wp2_with fail
 refine Calls.mono (HT () w (Keep.refl nil w)) ?_
 rintro r w1 ⟨T,a,c,rfl,ht⟩
 have HT1:Unit→Tel w w1 N.L T a c:=fun _=>ht
 clear ht HT q2 hnl
 go_wp2
 go_ret
 exact⟨T,a,c,rfl,HT1 ()⟩
end Go.Proofs.YtlfijfodklhplaaGreat
