import Derived.Test.YtlfijfodklhplaaGreatTn14
import Derived.Test.YtlfijfodklhplaaGreatTn06
set_option maxRecDepth 100000
set_option maxHeartbeats 2000000
set_option linter.unusedVariables false
set_option linter.unusedSimpArgs false
namespace Go.Proofs.YtlfijfodklhplaaGreat
open Go.RowKit
theorem hasNode_any(nb o:Nat)(sa:Option Addr)(n sc:Nat)(k:Int)(w:World)(hc:w.cell? ⟨nb,o+1,none⟩=some (.slice sa n sc))(hlt:nb<w.heap.size):
 Calls Tryz.prog 62 #[.pointer (some ⟨nb,o,none⟩),.int .i64 k] w fun r w'=>r=.returned (.bool (decide (0≤k∧k<(n:Int))))∧Keep nil w w':=by
 by_cases h0:0≤k
 ·by_cases h1:k<(n:Int)
  ·rw[decide_eq_true (p:=0≤k∧k<(n:Int)) ⟨h0,h1⟩]
   go_enter Tryz.func62,Tryz.ntmps62
   go_wp2
   go_ret
   exact⟨rfl,by repeat (first|exact Keep.refl _ _|apply Keep.drew)⟩
  ·rw[decide_eq_false (p:=0≤k∧k<(n:Int)) (fun e=>h1 e.2)]
   have h2:(n:Int)≤k:=by omega
   go_enter Tryz.func62,Tryz.ntmps62
   go_wp2
   go_ret
   exact⟨rfl,by repeat (first|exact Keep.refl _ _|apply Keep.drew)⟩
 ·rw[decide_eq_false (p:=0≤k∧k<(n:Int)) (fun e=>h0 e.1)]
  have h2:k<0:=by omega
  go_enter Tryz.func62,Tryz.ntmps62
  go_wp2
  go_ret
  exact⟨rfl,by repeat (first|exact Keep.refl _ _|apply Keep.drew)⟩
theorem edgeTo1_any(kb k t:Nat)(v1 v2 v3 v4 v5 v6 v7 v8 v9 v10 v11 v12 v13 v14 v15 v16 v17 v18 v19 v20 v21 v22 v23 v24:Value)(w:World)(hc:w.cell? ⟨kb,0,none⟩=some (.int .i64 (k:Int)))(hkl:kb<w.heap.size):
 Calls Tryz.prog 169 #[.agg #[(.int .i64 (t:Int)),v1,v2,v3,v4,v5,v6,v7,v8,v9,v10,v11,v12,v13,v14,v15,v16,v17,v18,v19,v20,v21,v22,v23,v24],.pointer (some ⟨kb,0,none⟩)] w fun r w'=>r=.returned (.bool (decide (t=k)))∧Keep nil w w':=by
 go_enter Tryz.func169,Tryz.ntmps169
 have HB:Unit→((t:Int)==(k:Int))=decide (t=k):=fun _=>by
  by_cases h:t=k
  ·subst h;simp
  ·have h2:¬(t:Int)=(k:Int):=by omega
   rw[decide_eq_false h,beq_eq_false_iff_ne];exact h2
 go_wp2_with fail
 rw[HB ()]
 go_ret
 exact⟨rfl,(Keep.refl nil w).alloc _⟩
def En.some(e:En)(k j:Nat):En:={ e with out:=e.out++En.frames (e.first+k) (((e.wait.take 4).drop k).take j)}
theorem some_zero(e:En)(k:Nat):e.some k 0=e:=by simp[En.some,En.frames]
theorem some_all(e:En)(k j:Nat)(h:e.shown≤k+j):e.some k j=e.showFrom k:=by
 unfold En.some En.showFrom
 rw[List.take_of_length_le]
 simp[En.shown]at h⊢
 omega
theorem some_succ(e:En)(k j:Nat)(m:Fr.Msg)(h:k+j<4)(hm:e.wait[k+j]?=some m):{ e.some k j with out:=(e.some k j).out++[⟨true,e.first+(k+j),m⟩]}=e.some k (j+1):=by
 unfold En.some
 have hl:k+j<e.wait.length:=(List.getElem?_eq_some_iff.1 hm).1
 have h1:((e.wait.take 4).drop k).take (j+1)=((e.wait.take 4).drop k).take j++[m]:=by
  rw[List.take_add_one,List.getElem?_drop,List.getElem?_take_of_lt h,hm];rfl
 have h2:(((e.wait.take 4).drop k).take j).length=j:=by simp;omega
 rw[h1,frames_append,h2]
 simp[En.frames,Nat.add_assoc]
theorem some_len(e:En)(k j:Nat):(e.some k j).out.length≤e.out.length+4:=by
 simp[En.some,frames_len];omega
theorem showFrom_any(c:Array Value)(t:TypeId)(b o:Nat)(e:En)(p:Pl)(k:Nat)(w:World)(h:Rep w c t b o e p)(hn:(e.out.length:Int)<1099511627000)(hk:(k:Int)≤4):
 Calls Tryz.prog 165 #[.pointer (some ⟨b,o,none⟩),.int .i64 (k:Int)] w fun r w'=>r=.returned (.tuple #[])∧∃p',Rep w' c t b o (e.showFrom k) p'∧Step w w' b p p':=by
 have HR:Unit→Rep w c t b o e p:=fun _=>h
 clear h
 go_enter Tryz.func165,Tryz.ntmps165
 go_wp2_with fail
 go_loopw [4] (fun v wr=>∃(q j:Nat) (p1:Pl),q=k+j∧q≤4∧v=.int .i64 (q:Int)∧Rep wr c t b o (e.some k j) p1∧Step w wr b p p1) (fun v _=>4 - (intOf v).toNat)
 case atStart=>exact⟨k,0,p,rfl,by omega,rfl,by rw[some_zero];exact HR (),Step.refl _ _ _⟩
 case round=>
  obtain⟨q,j,p1,hq,hq4,rfl,hr,hs⟩:=hrel
  have q1:=hr.c1
  have hml:(e.wait.length:Int)≤65536:=by have:=(HR ()).most;omega
  have hmf:(e.first:Int)≤65536:=by have:=(HR ()).most;omega
  have q0:=hr.c0
  have HRR:Unit→Rep wr c t b o (e.some k j) p1:=fun _=>hr
  have HS:Unit→Step w wr b p p1:=fun _=>hs
  have ew:(e.some k j).wait=e.wait:=rfl
  have ef:(e.some k j).first=e.first:=rfl
  rw[ew]at q1
  rw[ef]at q0
  clear hr hs ew ef
  have HQ:Unit→q=k+j:=fun _=>hq
  clear hq
  go_wp2_with fail
  refine(shown_any b o e.wait.length p1.wc p1.wa _ q1 hml).mono ?_
  rintro r w1 ⟨rfl,rfl⟩
  by_cases hlt:q<min e.wait.length 4
  ·have hq5:(q:Int)<4:=by omega
   have hlt':(q:Int)<((min e.wait.length 4:Nat):Int):=by omega
   generalize hmin:min e.wait.length 4=mn at *
   have HM:Unit→min e.wait.length 4=mn:=fun _=>hmin
   clear hmin
   have hql:q<e.wait.length:=by have:=HM ();omega
   obtain⟨g,wo,hwa⟩:∃g wo,p1.wa=some ⟨g,wo,none⟩:=by
    rcases (HRR ()).wrow.2.2 with⟨_,h0,_⟩|⟨g,wo,h0,_⟩
    ·have:e.wait.length=0:=h0
     omega
    ·exact⟨g,wo,h0⟩
   have hvb:VBo wr g wo 76 4 (mcells e.wait) p1.wc:=by
    rcases (HRR ()).wrow.2.2 with⟨h0,_⟩|⟨g',wo',h0,hv⟩
    ·rw[hwa]at h0;cases h0
    ·rw[hwa]at h0;cases h0;exact hv
   rw[hwa]at q1
   have hcell:∀i u,(mcell e.wait[q])[i]?=some u→wr.cell? ⟨g,wo+q * 4+i,none⟩=some u:=fun i u hu=>by
    have hi:i<4:=by have:=(List.getElem?_eq_some_iff.1 hu).1;simpa [mcell]using this
    have:=hvb.cell (q * 4+i) u (by rw[mcells_get e.wait q _ (List.getElem?_eq_getElem hql) i hi];exact hu)
    rw[←Nat.add_assoc]at this
    exact this
   obtain⟨m,hm⟩:∃m,e.wait[q]=m:=⟨_,rfl⟩
   rw[hm]at hcell
   have HMM:Unit→e.wait[q]?=some m:=fun _=>by rw[List.getElem?_eq_getElem hql,hm]
   have HC:Unit→∀i u,(mcell m)[i]?=some u→wr.cell? ⟨g,wo+q * 4+i,none⟩=some u:=fun _=>hcell
   clear hcell hm hvb
   go_wp2_with fail
   refine(frame_any b o g wo e.first q e.wait.length p1.wc m wr q0 q1 hmf hql hml (HC ())).mono ?_
   rintro r w1 ⟨rfl,hk1⟩
   have hfr:FrOk ⟨true,e.first+q,m⟩:=by
    have h1:=(HR ()).wok m (List.mem_of_getElem? (HMM ()))
    have h2:=(HR ()).most
    exact⟨by simp only;omega,Or.inl ⟨rfl,h1⟩⟩
   have hr1:=(HRR ()).keep hk1 (fun _ _ x=>x)
   go_wp2_with fail
   refine(goesOut_any c t b o (e.some k j) p1 ⟨true,e.first+q,m⟩ hfr w1 hr1 ?_).mono ?_
   ·have:=some_len e k j
    omega
   rintro r w2 ⟨rfl,p2,hr2,hs2⟩
   go_wp2
   go_roundw
   case rel=>
    refine⟨q+1,j+1,p2,by have:=HQ ();omega,by have:=HM ();omega,by go_num,?_,?_⟩
    ·have:=some_succ e k j m (by have:=HM ();have:=HQ ();omega) (by rw[←HQ ()];exact HMM ())
     rw[←HQ ()]at this
     rw[←this]
     exact hr2
    ·exact(HS ()).trans ((Step.of_keep b p1 hk1).trans hs2)
   case measure=>simp[intOf];omega
  ·have hge:((min e.wait.length 4:Nat):Int)≤(q:Int):=by omega
   generalize hmin:min e.wait.length 4=mn at *
   go_wp2
   go_end0
   refine⟨rfl,p1,?_,HS ()⟩
   rw[←some_all e k j (by simp only[En.shown];have:=HQ ();omega)]
   exact HRR ()
theorem Rep.set_core{w w1 w2:World}{c:Array Value}{t:TypeId}{b o:Nat}{e:En}{p:Pl}(h:Rep w c t b o e p)(n:Nat)(l:List Fr.Msg)(a':Option Addr)(c':Nat)
 (hr:RV w1 76 4 a' l.length c' (mcells l)) (ha:∀k,inB a' k→inB p.wa k∨w.heap.size≤k) (hk:Keep (inB p.wa) w w1) (hl:∀m∈l,MOk m) (hm:n+l.length≤65536)
 (ks:Keep (only b) w1 w2) (hblk:Blk w2 b (put c o (({ e with first:=n,wait:=l}:En).cells { p with wa:=a',wc:=c'})) t):
 Rep w2 c t b o { e with first:=n,wait:=l} { p with wa:=a',wc:=c'}∧Step w w2 b p { p with wa:=a',wc:=c'}:=by
 have hbl:=h.blk.lt
 have hlt:=h.lt
 have hab:∀k,inB a' k→k≠b:=fun k hk' e=>(ha k hk').elim (fun x=>h.wb (e▸x)) (fun x=>by omega)
 have hw0:∀k,Wri b { p with wa:=a',wc:=c'} k→Wri b p k∨w.heap.size≤k:=fun k hk=>by
  rcases hk with x|x|x
  ·exact Or.inl (Or.inl x)
  ·exact(ha k x).imp (fun y=>Or.inr (Or.inl y)) id
  ·exact Or.inl (Or.inr (Or.inr x))
 have hkk:Keep (Wri b p) w w2:=(hk.mono (ex':=Wri b p) (fun _ _ e=>Or.inr (Or.inl e))).trans (ks.mono (fun _ _ e=>Or.inl e))
 refine⟨{ blk:=hblk,fit:=h.fit,four:=h.four,wrow:=hr.keep ks (fun k hk'=>hab k hk'),orow:=?_,gl:=h.gl,bufs:=?_,wb:=fun x=>hab b x rfl,ob:=h.ob,wo:=?_,gw:=?_,gn:=h.gn,wok:=hl,most:=hm,awt:=h.awt,kn:=h.kn,fok:=h.fok},⟨hw0,fun k hk=>Or.inl hk,hkk⟩⟩
 ·exact(h.orow.keep hk (fun k ho hw=>h.wo k hw ho)).keep ks (fun k ho hb=>h.ob (hb▸ho))
 ·intro i g f hg hf
  have hw:=h.gw g (List.mem_of_getElem? hg)
  exact(h.bufs i g f hg hf).keep hkk hw
 ·intro k hw ho
  rcases ha k hw with x|x
  ·exact h.wo k x ho
  ·have:=hlt k (Or.inr (Or.inr (Or.inl ho)));omega
 ·intro k hk' hw
  have h1:=hlt k (Or.inr (Or.inr (Or.inr hk')))
  rcases hw0 k hw with x|x
  ·exact h.gw k hk' x
  ·omega
theorem Rep.set_wait{w w1:World}{c:Array Value}{t:TypeId}{b o:Nat}{e:En}{p:Pl}(h:Rep w c t b o e p)(n:Nat)(l:List Fr.Msg)(a':Option Addr)(c':Nat)
 (hr:RV w1 76 4 a' l.length c' (mcells l)) (ha:∀k,inB a' k→inB p.wa k∨w.heap.size≤k) (hk:Keep (inB p.wa) w w1) (hl:∀m∈l,MOk m) (hm:n+l.length≤65536):
 Rep ((w1.setCell ⟨b,o,none⟩ (.int .i64 (n:Int))).setCell ⟨b,o+1,none⟩ (.slice a' l.length c')) c t b o { e with first:=n,wait:=l} { p with wa:=a',wc:=c'}∧
 Step w ((w1.setCell ⟨b,o,none⟩ (.int .i64 (n:Int))).setCell ⟨b,o+1,none⟩ (.slice a' l.length c')) b p { p with wa:=a',wc:=c'}:=by
 refine h.set_core n l a' c' hr ha hk hl hm (((Keep.refl (only b) w1).setCell (p:=⟨b,o,none⟩) (fun _=>rfl) _).setCell (p:=⟨b,o+1,none⟩) (fun _=>rfl) _) ?_
 have l24:=cells_len e p h.four
 have h1:=((h.blk.keep hk h.wb).put_at h.len 0 (by omega) (.int .i64 (n:Int)))
 rw[Nat.add_zero]at h1
 exact h1.put_at (by simpa using h.len) 1 (by simp;omega) (.slice a' l.length c')
theorem Rep.set_wait1{w w1:World}{c:Array Value}{t:TypeId}{b o:Nat}{e:En}{p:Pl}(h:Rep w c t b o e p)(l:List Fr.Msg)(a':Option Addr)(c':Nat)
 (hr:RV w1 76 4 a' l.length c' (mcells l)) (ha:∀k,inB a' k→inB p.wa k∨w.heap.size≤k) (hk:Keep (inB p.wa) w w1) (hl:∀m∈l,MOk m) (hm:e.first+l.length≤65536):
 Rep (w1.setCell ⟨b,o+1,none⟩ (.slice a' l.length c')) c t b o { e with wait:=l} { p with wa:=a',wc:=c'}∧
 Step w (w1.setCell ⟨b,o+1,none⟩ (.slice a' l.length c')) b p { p with wa:=a',wc:=c'}:=by
 refine h.set_core e.first l a' c' hr ha hk hl hm ((Keep.refl (only b) w1).setCell (p:=⟨b,o+1,none⟩) (fun _=>rfl) _) ?_
 have l24:=cells_len e p h.four
 exact(h.blk.keep hk h.wb).put_at h.len 1 (by omega) (.slice a' l.length c')
theorem RV.dropped{w:World}{g wo wc:Nat}{l:List Fr.Msg}(h:RV w 76 4 (some ⟨g,wo,none⟩) l.length wc (mcells l))(k:Nat)(hk:k≤l.length)(wo':Nat)(hd:wo'=wo+k * 4∨(wc=k∧wo'=wo)):
 RV w 76 4 (some ⟨g,wo',none⟩) (l.drop k).length (wc - k) (mcells (l.drop k)):=by
 obtain⟨h1,h2,h3⟩:=h
 rcases h3 with⟨x,_⟩|⟨g',o',x,hv⟩
 ·cases x
 cases x
 refine⟨mcells_len _,by simp;omega,Or.inr ⟨g,wo',rfl,?_⟩⟩
 have hdrop:=hv.drop k (by rw[mcells_len];exact Nat.mul_le_mul_right 4 hk)
 rw[mcells_drop]at hdrop
 rcases hd with rfl|⟨rfl,rfl⟩
 ·exact hdrop
 ·have e1:l.drop wc=[]:=List.drop_of_length_le (by omega)
  rw[e1,Nat.sub_self]
  exact hv.stop
theorem acked_no(c:Array Value)(t:TypeId)(b o:Nat)(e:En)(p:Pl)(n:Nat)(w:World)(h:Rep w c t b o e p)(hn:(n:Int)≤65536)(hno:¬(e.first<n∧n≤e.first+e.shown)):
 Calls Tryz.prog 171 #[.pointer (some ⟨b,o,none⟩),.int .i64 (n:Int)] w fun r w'=>r=.returned (.tuple #[])∧w=w':=by
 have q0:=h.c0
 have q1:=h.c1
 have hml:(e.wait.length:Int)≤65536:=by have:=h.most;omega
 have hmf:(e.first:Int)≤65536:=by have:=h.most;omega
 unfold En.shown at hno
 have HN:Unit→¬(e.first<n∧n≤e.first+min e.wait.length 4):=fun _=>hno
 clear hno h
 go_enter Tryz.func171,Tryz.ntmps171
 go_wp2_with fail
 refine(shown_any b o e.wait.length p.wc p.wa _ q1 hml).mono ?_
 rintro r w1 ⟨rfl,rfl⟩
 generalize hmin:min e.wait.length 4=mn at *
 have hmn:(mn:Int)≤4:=by omega
 by_cases h1:(0:Int)<(n:Int) - (e.first:Int)
 ·have h2:¬(n:Int) - (e.first:Int)≤(mn:Int):=by have:=HN ();omega
  clear hmin
  go_wp2
  go_end0
  exact⟨rfl,rfl⟩
 ·clear hmin
  go_wp2
  go_end0
  exact⟨rfl,rfl⟩
theorem Rep.wait_some{w:World}{c:Array Value}{t:TypeId}{b o:Nat}{e:En}{p:Pl}(h:Rep w c t b o e p)(hl:0<e.wait.length):∃g wo,p.wa=some ⟨g,wo,none⟩:=by
 rcases h.wrow.2.2 with⟨_,h0,_⟩|⟨g,wo,h0,_⟩
 ·omega
 ·exact⟨g,wo,h0⟩
theorem acked_yes(c:Array Value)(t:TypeId)(b o:Nat)(e:En)(p:Pl)(n:Nat)(w:World)(h:Rep w c t b o e p)(hn:(n:Int)≤65536)(hyes:e.first<n∧n≤e.first+e.shown)(ho:(e.out.length:Int)<1099511627000):
 Calls Tryz.prog 171 #[.pointer (some ⟨b,o,none⟩),.int .i64 (n:Int)] w fun r w'=>r=.returned (.tuple #[])∧∃p',Rep w' c t b o (e.ack n) p'∧Step w w' b p p':=by
 have q0:=h.c0
 have q1:=h.c1
 have f0:=h.frozen o
 have f1:=h.frozen (o+1)
 have hml:(e.wait.length:Int)≤65536:=by have:=h.most;omega
 have hmf:(e.first:Int)≤65536:=by have:=h.most;omega
 have HE:Unit→e.ack n=(e.drop (n - e.first)).showFrom (e.shown - (n - e.first)):=fun _=>by unfold En.ack;rw[if_pos hyes]
 unfold En.shown at hyes
 have h1:(0:Int)<(n:Int) - (e.first:Int):=by omega
 obtain⟨k,hk⟩:∃k,k=n - e.first:=⟨_,rfl⟩
 have hkI:(n:Int) - (e.first:Int)=(k:Int):=by omega
 have hkn:(n:Int)=(e.first:Int)+(k:Int):=by omega
 have hkl:k≤e.wait.length:=by omega
 have hwl:e.wait.length≤p.wc:=h.wrow.2.1
 have hkm:k≤min e.wait.length 4:=by omega
 have hk0:(0:Int)<(k:Int):=by omega
 obtain⟨g,wo,hwa⟩:=h.wait_some (by omega)
 rw[hwa]at q1
 have HR:Unit→Rep w c t b o e p:=fun _=>h
 clear h
 have HK:Unit→k=n - e.first∧k≤min e.wait.length 4:=fun _=>⟨hk,hkm⟩
 have HL:Unit→k≤e.wait.length∧e.wait.length≤p.wc∧(e.out.length:Int)<1099511627000∧(e.wait.length:Int)≤65536∧(e.first:Int)≤65536:=fun _=>⟨hkl,hwl,ho,hml,hmf⟩
 clear hk hyes h1 hkn hkl hwl ho
 go_enter Tryz.func171,Tryz.ntmps171
 go_wp2_with fail
 refine(shown_any b o e.wait.length p.wc _ _ q1 hml).mono ?_
 rintro r w1 ⟨rfl,rfl⟩
 have hkM:(k:Int)≤((min e.wait.length 4:Nat):Int):=by omega
 have hmn:((min e.wait.length 4:Nat):Int)≤4:=by omega
 generalize hmin:min e.wait.length 4=mn at *
 have HM:Unit→min e.wait.length 4=mn:=fun _=>hmin
 clear hmin hkm
 go_wp2_with fail
 refine(drop_any b o g wo e.first k e.wait.length p.wc _ q0 q1 f0 f1 hmf (HL ()).1 (HL ()).2.1 hml).mono ?_
 rintro r w1 ⟨rfl,wo',hwo',hw1⟩
 have hset:=(HR ()).set_wait (w1:=w) (e.first+k) (e.wait.drop k) (some ⟨g,wo',none⟩) (p.wc - k) (RV.dropped (by have:=(HR ()).wrow;rwa [hwa]at this) k (HL ()).1 wo' hwo') (fun i hi=>Or.inl (by rw[hwa];rw[inB_some]at hi⊢;exact hi)) (Keep.refl _ _) (fun m hm=>(HR ()).wok m (List.mem_of_mem_drop hm)) (by have:=(HR ()).most;simp;omega)
 rw[List.length_drop,Int.natCast_add,←hw1]at hset
 have HS:Unit→_:=fun _=>hset
 have HW:Unit→_:=fun _=>hw1
 clear hset hw1 q0 q1 f0 f1 hwo'
 have ek:(mn:Int) - (k:Int)=((mn - k:Nat):Int):=by omega
 go_wp2_with fail
 refine(showFrom_any c t b o (e.drop k) { p with wa:=some ⟨g,wo',none⟩,wc:=p.wc - k} (mn - k) w1 (HS ()).1 (HL ()).2.2.1 (by omega)).mono ?_
 rintro r w2 ⟨rfl,p2,hr2,hs2⟩
 go_wp2
 go_end0
 refine⟨rfl,p2,?_,(HS ()).2.trans hs2⟩
 rw[HE (),←(HK ()).1]
 unfold En.shown
 rw[HM ()]
 exact hr2
theorem acked_any(c:Array Value)(t:TypeId)(b o:Nat)(e:En)(p:Pl)(n:Nat)(w:World)(h:Rep w c t b o e p)(hn:(n:Int)≤65536)(ho:(e.out.length:Int)<1099511627000):
 Calls Tryz.prog 171 #[.pointer (some ⟨b,o,none⟩),.int .i64 (n:Int)] w fun r w'=>r=.returned (.tuple #[])∧∃p',Rep w' c t b o (e.ack n) p'∧Step w w' b p p':=by
 by_cases hy:e.first<n∧n≤e.first+e.shown
 ·exact acked_yes c t b o e p n w h hn hy ho
 ·refine(acked_no c t b o e p n w h hn hy).mono ?_
  rintro r w' ⟨rfl,rfl⟩
  refine⟨rfl,p,?_,Step.refl _ _ _⟩
  unfold En.ack
  rw[if_neg hy]
  exact h
theorem linkTick_any(c:Array Value)(t:TypeId)(b o:Nat)(e:En)(p:Pl)(w:World)(h:Rep w c t b o e p)(hn:(e.out.length:Int)<1099511627000):
 Calls Tryz.prog 118 #[.pointer (some ⟨b,o,none⟩)] w fun r w'=>r=.returned (.tuple #[])∧∃p',Rep w' c t b o e.tick p'∧Step w w' b p p':=by
 go_enter Tryz.func118,Tryz.ntmps118
 go_wp2_with fail
 refine(showFrom_any c t b o e p 0 w h hn (by omega)).mono ?_
 rintro r w2 ⟨rfl,p2,hr2,hs2⟩
 go_wp2
 go_end0
 exact⟨rfl,p2,hr2,hs2⟩
theorem Rep.outs{w:World}{c:Array Value}{t:TypeId}{b o:Nat}{e:En}{p:Pl}(h:Rep w c t b o e p):Rep (w.setCell ⟨b,o+23,none⟩ (.slice none 0 0)) c t b o e.outs { p with oa:=none,oc:=0,gs:=[]}:=by
 have ks:Keep (only b) w (w.setCell ⟨b,o+23,none⟩ (.slice none 0 0)):=(Keep.refl (only b) w).setCell (p:=⟨b,o+23,none⟩) (fun _=>rfl) _
 refine { blk:=?_,fit:=h.fit,four:=h.four,wrow:=h.wrow.keep ks (fun k hk hb=>h.wb (hb▸hk)),orow:=RV.nil _ _ _,gl:=rfl,bufs:=fun i g f hg=>by simp at hg,wb:=h.wb,ob:=inB_none _,wo:=fun k _=>inB_none k,gw:=fun k hk=>by simp at hk,gn:=List.nodup_nil,wok:=h.wok,most:=h.most,awt:=h.awt,kn:=h.kn,fok:=fun f hf=>by simp[En.outs]at hf}
 have h1:=h.blk.put_at h.len 23 (by rw[cells_len e p h.four];omega) (.slice none 0 0)
 have h2:=cells_set23 e p h.four [] none 0 []
 rw[List.length_nil]at h2
 rw[h2]at h1
 exact h1
theorem linkOut_any(c:Array Value)(t:TypeId)(b o:Nat)(e:En)(p:Pl)(w:World)(h:Rep w c t b o e p):
 Calls Tryz.prog 166 #[.pointer (some ⟨b,o,none⟩)] w fun r w'=>r=.returned (.slice p.oa e.out.length p.oc)∧Rep w' c t b o e.outs { p with oa:=none,oc:=0,gs:=[]}∧Keep (only b) w w':=by
 have q1:=h.c23
 have q2:=h.frozen (o+23)
 have HR:Unit→Rep w c t b o e p:=fun _=>h
 clear h
 go_enter Tryz.func166,Tryz.ntmps166
 go_wp2
 go_ret
 exact⟨rfl,(HR ()).outs,(Keep.refl (only b) w).setCell (p:=⟨b,o+23,none⟩) (fun _=>rfl) _⟩
theorem linkSend_no(b o:Nat)(k l n:Int)(f:Bool)(hm:may k l n f=false)(w:World):
 Calls Tryz.prog 111 #[.pointer (some ⟨b,o,none⟩),.agg #[.int .i64 k,.int .i64 l,.int .i64 n,.bool f]] w fun r w'=>r=.returned (.int .i64 10)∧Keep nil w w':=by
 go_enter Tryz.func111,Tryz.ntmps111
 go_wp2_with fail
 refine(mayBe_any k l n f _).mono ?_
 rintro r w1 ⟨rfl,hk1⟩
 go_wp2
 go_ret
 exact⟨rfl,((Keep.refl nil w).alloc _).trans hk1⟩
theorem linkSend_full(c:Array Value)(t:TypeId)(b o:Nat)(e:En)(p:Pl)(m:Fr.Msg)(hm:MOk m)(w:World)(h:Rep w c t b o e p)(hf:e.first+e.wait.length=65536):
 Calls Tryz.prog 111 #[.pointer (some ⟨b,o,none⟩),mv m] w fun r w'=>r=.returned (.int .i64 1)∧Keep nil w w':=by
 have hm':=hm.2.2.2
 have HR:Unit→Rep w c t b o e p:=fun _=>h
 have hs:(e.first:Int)+(e.wait.length:Int)=65536:=by omega
 clear hm h hf
 go_enter Tryz.func111,Tryz.ntmps111
 go_wp2_with fail
 refine(mayBe_any _ _ _ _ _).mono ?_
 rintro r w1 ⟨rfl,hk1⟩
 have hk0:Keep nil w w1:=((Keep.refl nil w).alloc _).trans hk1
 have h1:=(HR ()).keep hk0 (fun _ _ x=>x)
 have q0:=h1.c0
 have q1:=h1.c1
 have K0:Unit→Keep nil w w1:=fun _=>hk0
 clear h1 hk0 hk1
 go_wp2_with fail
 refine(next_any b o e.first e.wait.length p.wc p.wa _ q0 q1 (by omega)).mono ?_
 rintro r w2 ⟨rfl,hk2⟩
 go_wp2
 go_ret
 exact⟨rfl,(K0 ()).trans hk2⟩
theorem linkSend_yes(c:Array Value)(t:TypeId)(b o:Nat)(e:En)(p:Pl)(m:Fr.Msg)(hm:MOk m)(w:World)(h:Rep w c t b o e p)(hf:e.first+e.wait.length<65536)(hn:(e.out.length:Int)<1099511627000):
 Calls Tryz.prog 111 #[.pointer (some ⟨b,o,none⟩),mv m] w fun r w'=>r=.returned (.int .i64 0)∧∃p',Rep w' c t b o (e.send m) p'∧Step w w' b p p':=by
 have hm':=hm.2.2.2
 have HR:Unit→Rep w c t b o e p:=fun _=>h
 have HM:Unit→MOk m:=fun _=>hm
 have HN:Unit→(e.out.length:Int)<1099511627000:=fun _=>hn
 have hs:¬(e.first:Int)+(e.wait.length:Int)=65536:=by omega
 have hs':(e.first:Int)+(e.wait.length:Int)≤65536:=by omega
 have hml:(e.wait.length:Int)≤65536:=by omega
 have hbl:=h.blk.lt
 clear hm h hf hn
 go_enter Tryz.func111,Tryz.ntmps111
 go_wp2_with fail
 refine(mayBe_any _ _ _ _ _).mono ?_
 rintro r w1 ⟨rfl,hk1⟩
 have hk0:Keep nil w w1:=((Keep.refl nil w).alloc _).trans hk1
 have h1:=(HR ()).keep hk0 (fun _ _ x=>x)
 have q0:=h1.c0
 have q1:=h1.c1
 have hbox:=(Blk.new w (mcell m).toArray 76).keep hk1 (fun x=>x)
 have K0:Unit→Keep nil w w1:=fun _=>hk0
 have HB:Unit→Blk w1 w.heap.size (mcell m).toArray 76:=fun _=>hbox
 clear h1 hk0 hk1 hbox
 go_wp2_with fail
 refine(next_any b o e.first e.wait.length p.wc p.wa _ q0 q1 hs').mono ?_
 rintro r w2 ⟨rfl,hk2⟩
 have h2:=(HR ()).keep ((K0 ()).trans hk2) (fun _ _ x=>x)
 have q1b:=h2.c1
 have hb2:=(HB ()).keep hk2 (fun x=>x)
 have K2:Unit→Keep nil w w2:=fun _=>(K0 ()).trans hk2
 have b0:=hb2.cell 0
 have b1:=hb2.cell 1
 have b2:=hb2.cell 2
 have b3:=hb2.cell 3
 simp[mcell]at b0 b1 b2 b3
 clear hb2 hk2 h2 q0 q1 HB
 go_wp2_with fail
 refine(shown_any b o e.wait.length p.wc p.wa _ q1b hml).mono ?_
 rintro r w3 ⟨rfl,rfl⟩
 have h2:=(HR ()).keep (K2 ()) (fun _ _ x=>x)
 have HADD:Unit→_:=fun _=>sentAdd_any b o e.first e.wait.length p.wc p.wa (mcells e.wait) m w2.drew h2.c1 (h2.frozen (o+1)) h2.wrow h2.wb hml
 clear h2
 generalize hmin:min e.wait.length 4=mn at *
 have HMN:Unit→min e.wait.length 4=mn:=fun _=>hmin
 clear hmin
 go_wp2_with fail
 go_region_with (go_at_call 164;refine(HADD ()).mono ?_;rintro r w3 ⟨rfl,a',c',w4,hr4,hg4,hk4,rfl⟩)
 all_goals
  have h2:=(HR ()).keep ((K2 ()).drew) (fun _ _ x=>x)
  have hset:=h2.set_wait1 (w1:=w4) (e.wait++[m]) a' c' (by rw[mcells_append,List.length_append];simpa [mcells]using hr4) hg4 hk4 (fun x hx=>by
   rcases List.mem_append.1 hx with y|y
   ·exact h2.wok x y
   ·simp at y;subst y;exact HM ()) (by simp;omega)
  rw[List.length_append,List.length_singleton]at hset
  have HS:Unit→_:=fun _=>hset
  have HMN4:(mn:Int)≤4:=by have:=HMN ();omega
  clear hset h2 hr4 hg4 hk4 b0 b1 b2 b3 q1b
  go_wp2_with fail
  refine(showFrom_any c t b o (e.put m) { p with wa:=a',wc:=c'} mn _ (HS ()).1 (HN ()) HMN4).mono ?_
  rintro r w5 ⟨rfl,p5,hr5,hs5⟩
  go_wp2
  go_ret
  refine⟨rfl,p5,?_,(Step.of_keep b p (K2 ()).drew).trans ((HS ()).2.trans hs5)⟩
  unfold En.send En.shown
  rw[HMN ()]
  exact hr5
theorem slots_get(l:List (Option Fr.Msg))(i:Nat)(x:Option Fr.Msg)(h:l[i]?=some x)(j:Nat)(hj:j<5):(slots l)[i * 5+j]?=(slot x)[j]?:=by
 induction l generalizing i with
 |nil=>simp at h
 |cons y r ih=>
  have hy:(slot y).length=5:=rfl
  cases i with
  |zero=>
   simp at h
   subst h
   simp only[slots,List.flatMap_cons,Nat.zero_mul,Nat.zero_add]
   rw[List.getElem?_append_left (by omega)]
  |succ i=>
   have:=ih i (by simpa using h)
   simp only[slots,List.flatMap_cons]at this⊢
   rw[List.getElem?_append_right (by omega),←this,hy]
   congr 1;omega
theorem cells_kept(e:En)(p:Pl)(i:Nat)(x:Option Fr.Msg)(h:e.kept[i]?=some x)(j:Nat)(hj:j<5):(e.cells p)[3+i * 5+j]?=(slot x)[j]?:=by
 have hi:=(List.getElem?_eq_some_iff.1 h).1
 have hl:=slots_len e.kept
 have:(e.cells p)[3+i * 5+j]?=(slots e.kept++[.slice p.oa e.out.length p.oc])[i * 5+j]?:=by
  rw[show 3+i * 5+j=(i * 5+j)+1+1+1 by omega];rfl
 rw[this,List.getElem?_append_left (by omega),slots_get e.kept i x h j hj]
theorem keep_far(b o n aw:Nat)(k l nn:Int)(f:Bool)(w:World)(h2:w.cell? ⟨b,o+2,none⟩=some (.int .i64 (aw:Int)))(hn:(n:Int)≤65536)(ha:(aw:Int)≤65536)(hno:n<aw∨aw+4≤n):
 Calls Tryz.prog 195 #[.pointer (some ⟨b,o+2,none⟩),.int .i64 (n:Int),.agg #[.int .i64 k,.int .i64 l,.int .i64 nn,.bool f]] w fun r w'=>r=.returned (.tuple #[])∧Keep nil w w':=by
 have hbl:b<w.heap.size:=World.block_lt_of_cell? w _ h2
 have h3:(n:Int) - (aw:Int)<0∨4≤(n:Int) - (aw:Int):=by omega
 clear hno
 rcases h3 with h3|h3
 ·go_enter Tryz.func195,Tryz.ntmps195
  go_wp2
  go_end0
  exact⟨rfl,(Keep.refl nil w).alloc _⟩
 ·go_enter Tryz.func195,Tryz.ntmps195
  go_wp2
  go_end0
  exact⟨rfl,(Keep.refl nil w).alloc _⟩
theorem keep_there(b o n aw k:Nat)(k' l nn:Int)(f:Bool)(w:World)(h2:w.cell? ⟨b,o+2,none⟩=some (.int .i64 (aw:Int)))(hn:(n:Int)≤65536)(ha:(aw:Int)≤65536)(hk:(n:Int) - (aw:Int)=(k:Int))(hk4:(k:Int)<4)(h3:w.cell? ⟨b,o+2+1+k * 5+4,none⟩=some (.bool true)):
 Calls Tryz.prog 195 #[.pointer (some ⟨b,o+2,none⟩),.int .i64 (n:Int),.agg #[.int .i64 k',.int .i64 l,.int .i64 nn,.bool f]] w fun r w'=>r=.returned (.tuple #[])∧Keep nil w w':=by
 have hbl:b<w.heap.size:=World.block_lt_of_cell? w _ h2
 have hk0:(0:Int)≤(k:Int):=by omega
 go_enter Tryz.func195,Tryz.ntmps195
 go_wp2
 go_end0
 exact⟨rfl,(Keep.refl nil w).alloc _⟩
theorem four_of{α:Type}(l:List α)(h:l.length=4):∃a b c d,l=[a,b,c,d]:=by
 match l,h with
 |[a,b,c,d],_=>exact⟨a,b,c,d,rfl⟩
def set5(w:World)(b o:Nat)(m:Fr.Msg)(f:Bool):World:=((((w.setCell ⟨b,o,none⟩ (.int .i64 (m.kind:Int))).setCell ⟨b,o+1,none⟩ (.int .i64 (m.level:Int))).setCell ⟨b,o+2,none⟩ (.int .i64 (m.name:Int))).setCell ⟨b,o+3,none⟩ (.bool m.finding)).setCell ⟨b,o+4,none⟩ (.bool f)
theorem cells_keep(e:En)(p:Pl)(h:e.kept.length=4)(k:Nat)(hk:k<4)(m:Fr.Msg):
 (((((e.cells p).set (3+k * 5) (.int .i64 (m.kind:Int))).set (3+k * 5+1) (.int .i64 (m.level:Int))).set (3+k * 5+2) (.int .i64 (m.name:Int))).set (3+k * 5+3) (.bool m.finding)).set (3+k * 5+4) (.bool true)=({ e with kept:=e.kept.set k (some m)}:En).cells p:=by
 obtain⟨f,wt,aw,kp,ot⟩:=e
 simp only at h
 obtain⟨x0,x1,x2,x3,rfl⟩:=four_of kp h
 match k,hk with
 |0,_=>rfl
 |1,_=>rfl
 |2,_=>rfl
 |3,_=>rfl
theorem Rep.kept{w w1:World}{c:Array Value}{t:TypeId}{b o:Nat}{e:En}{p:Pl}(h:Rep w c t b o e p)(hk1:Keep nil w w1)(k:Nat)(hk:k<4)(m:Fr.Msg)(hkn:e.await+k<65536):
 Rep (set5 w1 b (o+3+k * 5) m true) c t b o { e with kept:=e.kept.set k (some m)} p∧Step w (set5 w1 b (o+3+k * 5) m true) b p p:=by
 have l24:=cells_len e p h.four
 have h1:=h.keep hk1 (fun _ _ x=>x)
 have ks:Keep (only b) w1 (set5 w1 b (o+3+k * 5) m true):=by
  unfold set5
  exact(((((Keep.refl (only b) w1).setCell (p:=⟨b,o+3+k * 5,none⟩) (fun _=>rfl) _).setCell (p:=⟨b,o+3+k * 5+1,none⟩) (fun _=>rfl) _).setCell (p:=⟨b,o+3+k * 5+2,none⟩) (fun _=>rfl) _).setCell (p:=⟨b,o+3+k * 5+3,none⟩) (fun _=>rfl) _).setCell (p:=⟨b,o+3+k * 5+4,none⟩) (fun _=>rfl) _
 have hblk:Blk (set5 w1 b (o+3+k * 5) m true) b (put c o (({ e with kept:=e.kept.set k (some m)}:En).cells p)) t:=by
  rw[←cells_keep e p h.four k hk m]
  have b0:=h1.blk.put_at h1.len (3+k * 5) (by omega) (.int .i64 (m.kind:Int))
  have b1:=b0.put_at (by simpa using h1.len) (3+k * 5+1) (by simp;omega) (.int .i64 (m.level:Int))
  have b2:=b1.put_at (by simpa using h1.len) (3+k * 5+2) (by simp;omega) (.int .i64 (m.name:Int))
  have b3:=b2.put_at (by simpa using h1.len) (3+k * 5+3) (by simp;omega) (.bool m.finding)
  have b4:=b3.put_at (by simpa using h1.len) (3+k * 5+4) (by simp;omega) (.bool true)
  simp only[←Nat.add_assoc]at b4
  exact b4
 refine⟨{ blk:=hblk,fit:=h.fit,four:=by simpa using h.four,wrow:=h1.wrow.keep ks (fun k hk hb=>h.wb (hb▸hk)),orow:=h1.orow.keep ks (fun k hk hb=>h.ob (hb▸hk)),gl:=h.gl,bufs:=fun i g f hg hf=>(h1.bufs i g f hg hf).keep ks (fun hb=>h.gw g (List.mem_of_getElem? hg) (Or.inl hb)),wb:=h.wb,ob:=h.ob,wo:=h.wo,gw:=h.gw,gn:=h.gn,wok:=h.wok,most:=h.most,awt:=h.awt,kn:=?_,fok:=h.fok},(Step.of_keep b p hk1).trans ⟨fun _ h=>Or.inl h,fun _ h=>Or.inl h,ks.mono (fun _ _ e=>Or.inl e)⟩⟩
 intro i m' hm'
 simp only[List.getElem?_set]at hm'
 by_cases hi:k=i
 ·subst hi;exact hkn
 ·rw[if_neg hi]at hm';exact h.kn i m' hm'
theorem keep_new(c:Array Value)(t:TypeId)(b o:Nat)(e:En)(p:Pl)(n k:Nat)(m:Fr.Msg)(w:World)(h:Rep w c t b o e p)(hn:(n:Int)<65536)(hk:(n:Int) - (e.await:Int)=(k:Int))(hk4:(k:Int)<4)(hx:e.kept[k]?=some none):
 Calls Tryz.prog 195 #[.pointer (some ⟨b,o+2,none⟩),.int .i64 (n:Int),mv m] w fun r w'=>r=.returned (.tuple #[])∧Rep w' c t b o { e with kept:=e.kept.set k (some m)} p∧Step w w' b p p:=by
 have hbl:=h.blk.lt
 have h2:=h.c2
 have ha:(e.await:Int)≤65536:=by have:=h.awt;omega
 have c0:=h.cell _ _ ((cells_kept e p k none hx 0 (by omega)).trans rfl)
 have c1:=h.cell _ _ ((cells_kept e p k none hx 1 (by omega)).trans rfl)
 have c2:=h.cell _ _ ((cells_kept e p k none hx 2 (by omega)).trans rfl)
 have c3:=h.cell _ _ ((cells_kept e p k none hx 3 (by omega)).trans rfl)
 have c4:=h.cell _ _ ((cells_kept e p k none hx 4 (by omega)).trans rfl)
 simp only[←Nat.add_assoc,Nat.add_zero]at c0 c1 c2 c3 c4
 have hfr:=fun i=>h.frozen i
 have HR:Unit→Rep w c t b o e p:=fun _=>h
 clear h
 have hk0:(0:Int)≤(k:Int):=by omega
 go_enter Tryz.func195,Tryz.ntmps195
 go_wp2_with fail
 go_region
 all_goals
  go_wp2
  go_end0
  have hd:=(HR ()).kept (Keep.refl nil w) k (by omega) m (by omega)
  have k2:Keep nil (set5 w b (o+3+k * 5) m true) ((set5 w b (o+3+k * 5) m true).alloc (.cells (mcell m).toArray 76)).drew:=((Keep.refl nil _).alloc _).drew
  exact⟨rfl,hd.1.keep k2 (fun _ _ x=>x),hd.2.trans (Step.of_keep b p k2)⟩
theorem keep_any(c:Array Value)(t:TypeId)(b o:Nat)(e:En)(p:Pl)(n:Nat)(m:Fr.Msg)(w:World)(h:Rep w c t b o e p)(hn:(n:Int)<65536):
 Calls Tryz.prog 195 #[.pointer (some ⟨b,o+2,none⟩),.int .i64 (n:Int),mv m] w fun r w'=>r=.returned (.tuple #[])∧Rep w' c t b o (e.keep n m) p∧Step w w' b p p:=by
 have ha:(e.await:Int)≤65536:=by have:=h.awt;omega
 have same:∀ {w':World},e.keep n m=e→Keep nil w w'→Rep w' c t b o (e.keep n m) p∧Step w w' b p p:=fun he hk=>by rw[he];exact⟨h.keep hk (fun _ _ x=>x),Step.of_keep b p hk⟩
 by_cases h1:e.await≤n
 ·by_cases h2:n<e.await+4
  ·obtain⟨k,hk⟩:∃k,k=n - e.await:=⟨_,rfl⟩
   have hk4:k<e.kept.length:=by rw[h.four];omega
   have hkI:(n:Int) - (e.await:Int)=(k:Int):=by omega
   cases hx:e.kept[k]with
   |none=>
    have hx':e.kept[k]?=some none:=by rw[List.getElem?_eq_getElem hk4,hx]
    have he:e.keep n m={ e with kept:=e.kept.set k (some m)}:=by unfold En.keep;rw[if_pos h1,←hk,hx']
    rw[he]
    exact keep_new c t b o e p n k m w h hn hkI (by omega) hx'
   |some y=>
    have hx':e.kept[k]?=some (some y):=by rw[List.getElem?_eq_getElem hk4,hx]
    have he:e.keep n m=e:=by unfold En.keep;rw[if_pos h1,←hk,hx']
    have c4:=h.cell _ _ ((cells_kept e p k (some y) hx' 4 (by omega)).trans rfl)
    simp only[←Nat.add_assoc]at c4
    refine(keep_there b o n e.await k _ _ _ _ w h.c2 (by omega) ha hkI (by omega) c4).mono ?_
    rintro r w' ⟨rfl,hk'⟩
    exact⟨rfl,same he hk'⟩
  ·have he:e.keep n m=e:=by
    unfold En.keep
    rw[if_pos h1,List.getElem?_eq_none (by rw[h.four];omega)]
   refine(keep_far b o n e.await _ _ _ _ w h.c2 (by omega) ha (Or.inr (by omega))).mono ?_
   rintro r w' ⟨rfl,hk'⟩
   exact⟨rfl,same he hk'⟩
 ·have he:e.keep n m=e:=by unfold En.keep;rw[if_neg h1]
  refine(keep_far b o n e.await _ _ _ _ w h.c2 (by omega) ha (Or.inl (by omega))).mono ?_
  rintro r w' ⟨rfl,hk'⟩
  exact⟨rfl,same he hk'⟩
end Go.Proofs.YtlfijfodklhplaaGreat
