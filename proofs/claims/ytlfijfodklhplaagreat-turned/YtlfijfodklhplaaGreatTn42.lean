import Derived.Test.YtlfijfodklhplaaGreatTn41
import Derived.Test.YtlfijfodklhplaaGreatTn29
set_option linter.unusedVariables false
set_option linter.unusedSimpArgs false
namespace Go.Proofs.YtlfijfodklhplaaGreat.Ghs
open Go.RowKit
theorem inc_unique:∀(L M:List E3),L.Pairwise (fun x y=>x.w<y.w)→M.Pairwise (fun x y=>x.w<y.w)→(∀e,e∈L↔e∈M)→L=M
 |[],[],_,_,_=>rfl
 |[],b::m,_,_,h=>by have:=(h b).2 (by simp);cases this
 |a::l,[],_,_,h=>by have:=(h a).1 (by simp);cases this
 |a::l,b::m,h1,h2,h=>by
  have p1:=List.pairwise_cons.1 h1
  have p2:=List.pairwise_cons.1 h2
  have e:a=b:=by
   rcases List.mem_cons.1 ((h a).1 (by simp))with x|x
   ·exact x
   ·rcases List.mem_cons.1 ((h b).2 (by simp))with y|y
    ·exact y.symm
    ·have:=p1.1 b y;have:=p2.1 a x;omega
  subst e
  rw[inc_unique l m p1.2 p2.2 (fun e=>?_)]
  constructor
  ·intro he
   rcases List.mem_cons.1 ((h e).1 (by simp[he]))with x|x
   ·subst x;have:=p1.1 e he;omega
   ·exact x
  ·intro he
   rcases List.mem_cons.1 ((h e).2 (by simp[he]))with x|x
   ·subst x;have:=p2.1 e he;omega
   ·exact x
theorem lightest_eq{n:Nat}{L es:List E3}(h:Simple n L)(hp:∀e,e∈es↔e∈L)(hd:es.Pairwise (fun x y=>x.w≠y.w)):krs (inOrder es)=krs L:=by
 rw[inc_unique (inOrder es) L (inOrder_inc hd) h.inc (fun e=>?_)]
 rw[inOrder_mem (fun e he=>⟨(h.ok e ((hp e).1 he)).2.2.2.1,(h.ok e ((hp e).1 he)).2.2.2.2⟩),hp]
open NMsg
def fit:NMsg→Prop
 | .connect l=>l≤9
 | .initiate l n _=>l≤9∧1≤n∧n≤1000
 | .test l n=>l≤9∧n≤1000
 | .report w=>1≤w∧w≤1001
 |_=>True
theorem Inv.lev9{G:Gr}{s:St}{g:Gh}{h:Gs}(hI:Inv G s g h)(hn:G.n≤1000){u:Nat}(hu:u<G.n):g.L u≤9:=by
 have h1:=hI.low hu
 apply Classical.byContradiction
 intro hc
 have h2:2 ^ 10≤2 ^ g.L u:=Nat.pow_le_pow_right (by omega) (by omega)
 have:(2:Nat) ^ 10=1024:=by decide
 omega
theorem Inv.nam1{G:Gr}{s:St}{g:Gh}{h:Gs}(hI:Inv G s g h){y v:Nat}(ht:s.tst y=some v):s.nam y≤1000:=by
 have h1:=hI.rp.s1 y (tst_fnd hI ht)
 have h2:=hI.st.p0 y h1.1
 obtain⟨a,b,h3,_,h5,_⟩:=hI.st.nm1 y (by omega)
 have:=(G.w1 a b h3).2
 omega
theorem Inv.fits{G:Gr}{s:St}{g:Gh}{h:Gs}(hI:Inv G s g h)(hn:G.n≤1000)(hr:∀u v w,report w∈s.q u v→1≤w){u v:Nat}{m:NMsg}(hm:m∈s.q u v):fit m:=by
 have ha:=(hI.q0 u v m hm).1
 have hu:=hI.lev9 hn (G.lt _ _ ha)
 have hv:=hI.lev9 hn (G.lt _ _ (G.sym _ _ ha))
 have hl:=hI.st.l1 u
 have hl2:=hI.st.l1 v
 cases m with
 |connect l=>
  have h1:=hI.st.cn u v l (by simp[kS,hm,isCon])
  show l≤9
  by_cases e:s.se v u=1
  ·have:=h1.2.1 e;omega
  ·have:=h1.2.2 e;omega
 |initiate l n f=>
  have hk:initiate l n f∈kS s.q u v:=by simp[kS,hm,isIni]
  have h1:=hI.st.i1 u v l n f hk
  obtain⟨a,b,h3,_,h5,_⟩:=hI.st.nm2 u v l n f hk
  have:=G.w1 a b h3
  exact⟨by omega,by omega,by omega⟩
 |test l n=>
  have h1:=hI.ts.t4 u v l n (by simp[kT,hm,isTest])
  rcases h1 with⟨h1,h2,h3⟩|⟨h1,h2,h3,h4,h5,_⟩
  ·have:=hI.nam1 h1
   exact⟨by omega,by omega⟩
  ·have:=hI.nam1 h1
   exact⟨by omega,by omega⟩
 |accept=>trivial
 |reject=>trivial
 |report w=>
  have h1:=hI.rp.r1 v u w (by simp[kR,hm,isRep])
  refine⟨hr u v w hm,?_⟩
  rcases h1 with h1|h1
  ·have:=hI.rp.bm u
   have:=h1.2.2.2.2.1
   omega
  ·have:=h1.2.2.2.2.1;omega
 |root=>trivial
theorem Net.fits{G:Gr}{T:Top G}{Q:Nat→Prop}{nodes:Nat→Nod}{chan:Nat→Nat→List NMsg}(h:Net G T Q nodes chan)(hn:G.n≤1000){u:Nat}{c:Nat×Fr.Msg}(hc:c∈(nodes u).sent)(hj:c.1<T.dg u):fit (typed c.2):=by
 obtain⟨P,⟨s,g,h',hR,hI,a,b⟩,hl⟩:=h.good
 refine hI.fits hn hR.rp (u:=u) (v:=T.nb u c.1) ?_
 rw[hR.q u c.1 hj]
 refine List.mem_append_right _ (List.mem_map.2 ⟨c,List.mem_filter.2 ⟨hc,by simp⟩,rfl⟩)
def PS(n:Nod):Prop:=∀c∈n.sent,c.2=(typed c.2).plain
theorem plain_typed(m:NMsg):m.plain=(typed m.plain).plain:=by
 cases m<;>simp[NMsg.plain,typed]
 rename_i w
 by_cases e:w=1001
 ·simp[e]
 ·by_cases e2:w=0<;>simp[e,e2]
theorem ps_of{n n':Nod}(h:PS n)(e:n'.sent=n.sent):PS n':=by unfold PS;rw[e];exact h
theorem ps_send{n:Nod}(h:PS n)(j:Nat)(m:NMsg):PS (n.send j m):=fun c hc=>by
 rcases List.mem_append.1 hc with hc|hc
 ·exact h c hc
 ·rw[List.mem_singleton.1 hc];exact plain_typed m
theorem ps_wake{n:Nod}(h:PS n):PS n.wake:=by
 unfold Nod.wake
 split
 ·split
  ·exact ps_of h rfl
  ·exact ps_send (ps_of h rfl) _ _
 ·exact h
theorem ps_spread{n:Nod}(h:PS n)(j l nm:Nat)(f:Bool):PS (n.spread j l nm f):=by
 unfold Nod.spread
 split
 ·exact ps_of (ps_send h j (.initiate l nm f)) rfl
 ·exact ps_send h _ _
theorem ps_reports{n:Nod}(h:PS n):PS n.reports:=by
 unfold Nod.reports
 split
 ·split
  ·exact ps_of h rfl
  ·exact ps_send (ps_of h rfl) _ _
 ·exact h
theorem ps_tests{n:Nod}(h:PS n):PS n.tests:=by
 unfold Nod.tests
 split
 ·exact ps_reports (ps_of h rfl)
 ·exact ps_send (ps_of h rfl) _ _
theorem ps_spreads(fr l nm:Nat)(f:Bool):∀(k j:Nat) {n:Nod},PS n→PS (n.spreads fr l nm f k j)
 |0,j,n,h=>h
 |k+1,j,n,h=>by
  rw[Nod.spreads]
  split
  ·exact ps_spreads fr l nm f k (j+1) (ps_spread h _ _ _ _)
  ·exact ps_spreads fr l nm f k (j+1) h
theorem ps_reject{n:Nod}(h:PS n)(j:Nat):PS (n.reject j):=by
 unfold Nod.reject
 split
 ·exact ps_of h rfl
 ·exact h
theorem ps_hear{n:Nod}(h:PS n)(j w:Nat):PS (n.hear j w):=by
 unfold Nod.hear
 split
 ·exact ps_of h rfl
 ·exact h
theorem ps_root{n:Nod}(h:PS n):PS n.changeRoot:=by
 unfold Nod.changeRoot
 split
 ·exact h
 ·split
  ·exact ps_send h _ _
  ·exact ps_of (ps_send h _ _) rfl
theorem ps_act{n:Nod}(h:PS n)(j:Nat)(m:NMsg):PS (n.act j m).1:=by
 have hw:=ps_wake h
 cases m with
 |connect l=>
  show PS (n.connect j l).1
  unfold Nod.connect
  dsimp only
  split
  ·exact ps_spread (n:=n.wake.setSt j 1) (ps_of hw rfl) _ _ _ _
  ·split
   ·exact hw
   ·exact ps_send hw _ _
 |initiate l nm f=>
  show PS (n.initiate j l nm f)
  unfold Nod.initiate
  dsimp only
  split
  ·exact ps_tests (ps_spreads _ _ _ _ _ _ (ps_of h rfl))
  ·exact ps_spreads _ _ _ _ _ _ (ps_of h rfl)
 |test l nm=>
  show PS (n.test j l nm).1
  unfold Nod.test
  dsimp only
  split
  ·exact hw
  ·split
   ·exact ps_send hw _ _
   ·split
    ·exact ps_tests (ps_reject hw _)
    ·exact ps_send (ps_reject hw _) _ _
 |accept=>exact ps_reports (ps_hear (n:={ n with tested:=none}) (ps_of h rfl) _ _)
 |reject=>exact ps_tests (ps_reject h _)
 |report w=>
  show PS (n.report j w).1
  unfold Nod.report
  split
  ·split
   ·exact h
   ·split
    ·exact ps_root h
    ·split
     ·exact ps_of h rfl
     ·exact h
  ·exact ps_reports (ps_hear (n:={ n with count:=wrap64 (n.count - 1)}) (ps_of h rfl) _ _)
 |root=>exact ps_root h
theorem ps_oneOff:∀(f k:Nat) {n:Nod},PS n→PS (n.oneOff f k).1
 |0,k,n,h=>h
 |f+1,k,n,h=>by
  rw[Nod.oneOff]
  split
  ·exact h
  ·rename_i c hc
   split
   ·exact ps_of (ps_act h c.1 c.2) rfl
   ·exact ps_oneOff f (k+1) (ps_act h _ _)
theorem ps_offs:∀(f:Nat) {n:Nod},PS n→PS (n.offs f)
 |0,n,h=>h
 |f+1,n,h=>by
  rw[Nod.offs]
  split
  ·exact ps_offs f (ps_oneOff _ _ h)
  ·exact ps_oneOff _ _ h
theorem ps_take{n:Nod}(h:PS n)(j:Nat)(m:Fr.Msg):PS (n.take j m):=by
 unfold Nod.take
 split
 ·exact ps_offs _ (ps_act h _ _)
 ·exact ps_of (ps_act h j (typed m)) rfl
theorem act_frs(n:Nod)(j:Nat)(m:NMsg)(hj:j<n.edges.length)(hm:m.may):(n.act j m).1.edges.length=n.edges.length∧(n.act j m).1.sent.length≤n.sent.length+(n.edges.length+2)∧(NGood n→NGood (n.act j m).1):=by
 have hf:=fr_act n j m hj hm
 exact⟨hf.len,hf.sent,fun h=>h.fr hf⟩
theorem mok_may{m:Fr.Msg}(h:MOk m):(typed m).may:=by
 have h1:=of_decide_eq_true h.2.2.2
 have h2:bL (m.kind:Int)≤9:=by unfold bL;split<;>omega
 unfold typed
 split<;>first|trivial|(show m.level≤10;omega)
theorem fit_plain(x:NMsg)(h:fit x):MOk x.plain:=by
 cases x with
 |connect l=>
  have h:l≤9:=h
  refine⟨by show 1<256;omega,by show l<256;omega,by show 0<65536;omega,decide_eq_true ?_⟩
  simp[NMsg.plain,bL,bm,bM];omega
 |initiate l n f=>
  have h:l≤9∧1≤n∧n≤1000:=h
  refine⟨by show 2<256;omega,by show l<256;omega,by show n<65536;omega,decide_eq_true ?_⟩
  simp[NMsg.plain,bL,bm,bM];omega
 |test l n=>
  have h:l≤9∧n≤1000:=h
  refine⟨by show 3<256;omega,by show l<256;omega,by show n<65536;omega,decide_eq_true ?_⟩
  simp[NMsg.plain,bL,bm,bM];omega
 |accept=>
  refine⟨by show 4<256;omega,by show 0<256;omega,by show 0<65536;omega,decide_eq_true ?_⟩
  simp[NMsg.plain,bL,bm,bM]
 |reject=>
  refine⟨by show 5<256;omega,by show 0<256;omega,by show 0<65536;omega,decide_eq_true ?_⟩
  simp[NMsg.plain,bL,bm,bM]
 |report w=>
  have h:1≤w∧w≤1001:=h
  have hw:(if w=1001 then 0 else w)≤1000:=by split<;>omega
  generalize hz:(if w=1001 then 0 else w)=z at hw
  have e:(NMsg.report w).plain=⟨6,0,z,false⟩:=by rw[←hz];rfl
  rw[e]
  refine⟨by show 6<256;omega,by show 0<256;omega,by show z<65536;omega,decide_eq_true ?_⟩
  simp[bL,bm,bM];omega
 |root=>
  refine⟨by show 7<256;omega,by show 0<256;omega,by show 0<65536;omega,decide_eq_true ?_⟩
  simp[NMsg.plain,bL,bm,bM]
theorem mok_fit{m:Fr.Msg}(h:m=(typed m).plain)(hf:fit (typed m)):MOk m:=by
 rw[h];exact fit_plain _ hf
theorem frok_data{s:Nat}{m:Fr.Msg}(h:s<65536)(hm:MOk m):FrOk ⟨true,s,m⟩:=⟨h,Or.inl ⟨rfl,hm⟩⟩
theorem frok_ans{s:Nat}(h:s<65536):FrOk ⟨false,s,Fr.none0⟩:=⟨h,Or.inr ⟨rfl,rfl⟩⟩
theorem six_inj{f g:Fr.Frm}(h:six f=six g):f=g:=by
 obtain⟨d,s,⟨k,l,n,b⟩⟩:=f
 obtain⟨d',s',⟨k',l',n',b'⟩⟩:=g
 simp only[six,Six.mk.injEq,Int.natCast_inj]at h
 obtain⟨h1,h2,h3,h4,h5,h6⟩:=h
 subst h1 h2 h3 h4 h5 h6
 rfl
theorem frmOf_enc{f:Fr.Frm}(h:FrOk f):frmOf (Fr.enc f)=some f:=by
 have h1:=frmOf_is (enc_byte f h)
 cases e:frmOf (Fr.enc f)with
 |none=>rw[e]at h1;exact absurd (enc_read f h) (h1 _)
 |some g=>
  rw[e]at h1
  obtain⟨g1,g2⟩:=h1
  have e1:=enc_read g g1
  rw[g2]at e1
  rw[six_inj (read_six e1 (enc_read f h))]
def mu(n:Nod):Nat:=n.sent.length+32 * n.off.length+(if n.state=0 then 1 else 0)
theorem mu_wake(n:Nod):mu n.wake≤mu n:=by
 by_cases e:n.state=0
 ·unfold Nod.wake
  rw[if_pos e]
  split
  ·unfold mu;simp[e]
  ·unfold mu;simp[e,Nod.send,Nod.setSt];omega
 ·rw[wake_of e];exact Nat.le_refl _
theorem mu_false{n:Nod}{j:Nat}{m:NMsg}(h:(n.act j m).2=false):mu (n.act j m).1≤mu n:=by
 rw[(act_false h).1];exact mu_wake n
theorem mu_act{n:Nod}{j:Nat}{m:NMsg}(hj:j<n.edges.length)(hm:m.may)(hl:n.edges.length≤30):mu (n.act j m).1≤mu n+32:=by
 have h1:=(act_frs n j m hj hm).2.1
 have h2:=same_act n j m
 unfold mu
 rw[h2.1]
 have h3:=h2.2
 split
 ·split
  ·omega
  ·rename_i a b;exact(h3 b a).elim
 ·split<;>omega
theorem mu_oneOff:∀(f k:Nat) (n:Nod),NGood n→n.edges.length≤30→mu (n.oneOff f k).1≤mu n∧NGood (n.oneOff f k).1∧(n.oneOff f k).1.edges.length≤30
 |0,k,n,h,hl=>⟨Nat.le_refl _,h,hl⟩
 |f+1,k,n,h,hl=>by
  rw[Nod.oneOff]
  split
  ·exact⟨Nat.le_refl _,h,hl⟩
  ·rename_i c hc
   have hm:=h.off c (List.mem_of_getElem? hc)
   have hfr:=act_frs n c.1 c.2 hm.1 hm.2
   have hk:=(List.getElem?_eq_some_iff.1 hc).1
   split
   ·have h1:=mu_act hm.1 hm.2 hl
    have h2:=(same_act n c.1 c.2).1
    refine⟨?_,(hfr.2.2 h).erase k,?_⟩
    ·unfold mu at h1⊢
     dsimp only
     rw[List.length_eraseIdx,h2,if_pos hk]
     rw[h2]at h1
     omega
    ·show (n.act c.1 c.2).1.edges.length≤30
     rw[hfr.1];exact hl
   ·rename_i e
    have h1:=mu_oneOff f (k+1) (n.act c.1 c.2).1 (hfr.2.2 h) (by rw[hfr.1];exact hl)
    exact⟨Nat.le_trans h1.1 (mu_false (by simpa using e)),h1.2⟩
theorem mu_offs:∀(f:Nat) (n:Nod),NGood n→n.edges.length≤30→mu (n.offs f)≤mu n
 |0,n,h,hl=>Nat.le_refl _
 |f+1,n,h,hl=>by
  rw[Nod.offs]
  have h1:=mu_oneOff n.off.length 0 n h hl
  split
  ·exact Nat.le_trans (mu_offs f _ h1.2.1 h1.2.2) h1.1
  ·exact h1.1
theorem mu_take{n:Nod}(h:NGood n)(hl:n.edges.length≤30){j:Nat}(hj:j<n.edges.length){m:Fr.Msg}(hm:(typed m).may):mu (n.take j m)≤mu n+32:=by
 have hfr:=act_frs n j (typed m) hj hm
 unfold Nod.take
 split
 ·exact Nat.le_trans (mu_offs _ _ (hfr.2.2 h) (by rw[hfr.1];exact hl)) (mu_act hj hm hl)
 ·rename_i e
  have h1:=mu_false (n:=n) (j:=j) (m:=typed m) (by simpa using e)
  unfold mu at h1⊢
  simp only[List.length_append,List.length_cons,List.length_nil]
  omega
end Go.Proofs.YtlfijfodklhplaaGreat.Ghs
