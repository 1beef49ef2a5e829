import Derived.Test.YtlfijfodklhplaaGreatTn43
import Derived.Test.YtlfijfodklhplaaGreatTn24
import Derived.Test.YtlfijfodklhplaaGreatTn29
import Derived.Test.YtlfijfodklhplaaGreatTn27
set_option maxRecDepth 20000
set_option linter.unusedVariables false
set_option linter.unusedSimpArgs false
namespace Go.Proofs.YtlfijfodklhplaaGreat.Ghs
open Go.RowKit
open NMsg
def t3(t:Te):E3:=⟨t.a,t.b,t.w⟩
def gM(nodes:Int)(raw:List Int):List E3:=(gl nodes raw).map t3
def e3(e:Ed):E3:=⟨e.a.toNat,e.b.toNat,e.wt.toNat⟩
def gL(nodes:Int)(raw:List Int):List E3:=(srt (ges nodes raw)).map e3
theorem ges_M(nodes:Int)(raw:List Int):ges nodes raw=(gM nodes raw).map ed3:=by
 unfold ges gM;rw[List.map_map];rfl
theorem gL_perm(nodes:Int)(raw:List Int):(gL nodes raw).Perm (gM nodes raw):=by
 have h:=(srt_perm (ges nodes raw)).map e3
 have e:(ges nodes raw).map e3=gM nodes raw:=by
  rw[ges_M,List.map_map]
  exact List.map_id' _
 rw[e]at h
 exact h
theorem gL_len(nodes:Int)(raw:List Int):(gL nodes raw).length≤24:=by
 rw[(gL_perm nodes raw).length_eq]
 unfold gM
 rw[List.length_map]
 exact(gl_ok nodes raw).few
theorem len_modE(A:AN)(i j:Nat)(f:En→En):(A.modE i j f).sps.length=A.sps.length:=by unfold AN.modE;simp
theorem len_modN(A:AN)(i:Nat)(f:Nod→Nod):(A.modN i f).sps.length=A.sps.length:=by unfold AN.modN;simp
theorem len_carry(A:AN)(i j:Nat):(A.carry i j).sps.length=A.sps.length:=by
 unfold AN.carry
 split
 ·rfl
 ·rw[(adds_sps _ _ _ _).1,len_modE]
theorem len_sends(i:Nat):∀(l:List (Nat×Fr.Msg)) (A:AN),(A.sends i l).sps.length=A.sps.length
 |[],A=>rfl
 |c::l,A=>by
  show ((A.sendOne i c).sends i l).sps.length=_
  rw[len_sends i l];unfold AN.sendOne;rw[len_carry,len_modE]
theorem len_post(A:AN)(i:Nat):(A.post i).sps.length=A.sps.length:=by unfold AN.post;rw[len_sends,len_modN]
theorem len_takes(i j:Nat):∀(l:List Fr.Msg) (A:AN),(A.takes i j l).sps.length=A.sps.length
 |[],A=>rfl
 |m::l,A=>by
  show ((A.takeOne i j m).takes i j l).sps.length=_
  rw[len_takes i j l];unfold AN.takeOne;rw[len_post,len_modN]
theorem len_deliver(A:AN)(k:Nat):(A.deliver k).sps.length=A.sps.length:=by
 unfold AN.deliver
 split
 ·rfl
 ·unfold AN.comes
  dsimp only
  rw[len_takes,len_carry,len_modE]
  rfl
theorem len_ticks(i:Nat):∀(l:List Nat) (A:AN),(l.foldl (fun A j=>A.tickOne i j) A).sps.length=A.sps.length
 |[],A=>rfl
 |j::l,A=>by
  show (l.foldl (fun A j=>A.tickOne i j) (A.tickOne i j)).sps.length=_
  rw[len_ticks i l];unfold AN.tickOne;rw[len_carry,len_modE]
structure Pro(G:Gr)(s:St)(g:Gh)(h:Gs):Prop where
 p2:∀z,s.aw z=true→g.ph z=1→(∃v,G.adj z v)→∃y,g.fr z y∧(h.tk y∨∃c,root∈s.q y c)
 p3:∀a b,core g a b→s.lev a=g.L a→s.fnd a=false→(∃w,report w∈s.q a b)∨(s.lev b=g.L b∧s.fnd b=false∧s.bw a≤s.bw b∧(s.bw a=1001→s.over b=true))
 p4:∀z,s.aw z=true→g.ph z=2→∃u v,g.fr z u∧half s.se u v
 p5:∀u,s.over u=true→(∃v,G.adj u v)→∃v,core g u v
 p6:∀z,g.ph z≤2
def still(s:St)(u v:Nat)(m:NMsg):Prop:=s.aw v=true∧match m with
 | .connect l=>¬l<s.lev v∧s.se v u=0
 | .test l _=>s.lev v<l
 | .report _=>s.inn v=some u∧s.fnd v=true
 |_=>False
def Quiet(s:St):Prop:=∀u v m,m∈s.q u v→still s u v m
theorem mem_fil{α:Type}{p:α→Bool}{l:List α}{a:α}(h:a∈l.filter p):a∈l:=(List.mem_filter.1 h).1
theorem inits_nil:∀(l:List NMsg),(∀a b c,initiate a b c∉l)→inits l=[]
 |[],_=>rfl
 |m::t,h=>by
  have ih:=inits_nil t (fun a b c hm=>h a b c (by simp[hm]))
  cases m with
  |initiate a b c=>exact(h a b c (by simp)).elim
  |_=>simp[inits,ih]
theorem Quiet.noIni{s:St}(hq:Quiet s)(u v:Nat):inits (kS s.q u v)=[]:=inits_nil _ (fun a b c hm=>by
 have:=(hq u v _ (mem_fil hm)).2
 exact this)
theorem par_fr{G:Gr}{s:St}{g:Gh}{h:Gs}(hI:Inv G s g h){z x:Nat}(e:g.par z=some x):g.fr z x∧G.adj z x∧s.se x z=1:=by
 have h1:=hI.st.pr z x e
 exact⟨(hI.st.db z x h1).1,(hI.st.sa z x (by have:=h1.1;omega)).1,h1.2⟩
theorem Quiet.kidL{G:Gr}{s:St}{g:Gh}{h:Gs}(hI:Inv G s g h)(hq:Quiet s){x z:Nat}(hk:kid g x z):s.lev z=s.lev x:=by
 have h1:=(hI.st.ch x z hk).2
 rw[hq.noIni x z]at h1
 exact(Prod.ext_iff.1 h1).1
theorem Quiet.coreL{G:Gr}{s:St}{g:Gh}{h:Gs}(hI:Inv G s g h)(hq:Quiet s){u v:Nat}(hc:core g u v):s.lev v=g.L v:=by
 rcases (hI.st.co u v hc).2.2 with h1|h1|h1
 ·exact h1.1
 ·have:=h1.2.1;rw[hq.noIni u v]at this;cases this
 ·have h2:=(hq v u _ (mem_fil h1.2.2)).2.2
  have h3:=(hI.st.pr u v hc.1).1
  omega
theorem Quiet.cur0{G:Gr}{s:St}{g:Gh}{h:Gs}(hI:Inv G s g h)(hq:Quiet s):∀(d z:Nat),g.dep z<d→g.ph z=0→s.lev z=g.L z
 |0,z,hd,_=>by omega
 |d+1,z,hd,hp=>by
  cases e:g.par z with
  |none=>exact((hI.st.p0 z hp).2 e).elim
  |some x=>
   obtain⟨f1,_,_⟩:=par_fr hI e
   have f4:=hI.st.f4 z x f1
   by_cases e2:g.par x=some z
   ·exact Quiet.coreL hI hq ⟨e2,e⟩
   ·have hk:kid g x z:=⟨e,e2⟩
    have h1:=Quiet.cur0 hI hq d x (by have:=hI.st.dp x z hk;omega) (by omega)
    rw[Quiet.kidL hI hq hk,h1];omega
theorem Quiet.cur2{G:Gr}{s:St}{g:Gh}{h:Gs}(hI:Inv G s g h)(hq:Quiet s){u v:Nat}(hh:half s.se u v):∀(d z:Nat),g.dep z<d→g.fr u z→s.lev z=g.L z
 |0,z,hd,_=>by omega
 |d+1,z,hd,hf=>by
  have h0:=hI.st.hf u v hh
  have f4:=hI.st.f4 u z hf
  cases e:g.par z with
  |none=>
   have:=hI.st.rt u z h0.2.1 e hf
   subst this;exact h0.2.2.2.2.2.2
  |some x=>
   obtain⟨f1,_,_⟩:=par_fr hI e
   have f5:=hI.st.f4 z x f1
   by_cases e2:g.par x=some z
   ·have:=(hI.st.co z x ⟨e,e2⟩).1;omega
   ·have hk:Ghs.kid g x z:=⟨e,e2⟩
    have h1:=Quiet.cur2 hI hq hh d x (by have:=hI.st.dp x z hk;omega) (hI.st.f3 _ _ _ hf f1)
    rw[Quiet.kidL hI hq hk,h1];omega
theorem fr_aw{G:Gr}{s:St}{g:Gh}{h:Gs}(hI:Inv G s g h){z y:Nat}(hz:s.aw z=true)(hf:g.fr z y):s.aw y=true:=by
 cases e:s.aw y
 ·have h1:=(hI.st.asl y e).2.1
  have:=hI.st.f5 y z h1 (hI.st.f2 _ _ hf)
  rw[this,hz]at e;cases e
 ·rfl
theorem Quiet.phs{G:Gr}{s:St}{g:Gh}{h:Gs}(hP:Pro G s g h)(hq:Quiet s)(ht:∀u,¬h.tk u){z:Nat}(hz:s.aw z=true)(ha:∃v,G.adj z v):g.ph z=0∨g.ph z=2:=by
 have h1:=hP.p6 z
 have h2:g.ph z≠1:=fun e=>by
  obtain⟨y,_,h3⟩:=hP.p2 z hz e ha
  rcases h3 with h3|⟨c,h3⟩
  ·exact ht y h3
  ·exact(hq _ _ _ h3).2
 omega
theorem Quiet.cur{G:Gr}{s:St}{g:Gh}{h:Gs}(hI:Inv G s g h)(hP:Pro G s g h)(hq:Quiet s)(ht:∀u,¬h.tk u){z:Nat}(hz:s.aw z=true)(ha:∃v,G.adj z v):s.lev z=g.L z:=by
 rcases Quiet.phs hP hq ht hz ha with h1|h1
 ·exact Quiet.cur0 hI hq (g.dep z+1) z (by omega) h1
 ·obtain⟨u,v,f,hh⟩:=hP.p4 z hz h1
  exact Quiet.cur2 hI hq hh (g.dep z+1) z (by omega) (hI.st.f2 _ _ f)
def deeper(G:Gr)(g:Gh)(x:Nat):Nat:=(List.range G.n).countP (fun y=>decide (g.dep x<g.dep y))
theorem deeper_lt{G:Gr}{g:Gh}{x y:Nat}(hy:y<G.n)(hd:g.dep x<g.dep y):deeper G g y<deeper G g x:=by
 unfold deeper
 have key:∀l:List Nat,y∈l→l.countP (fun z=>decide (g.dep y<g.dep z))<l.countP (fun z=>decide (g.dep x<g.dep z)):=by
  intro l
  induction l with
  |nil=>intro h;cases h
  |cons a l ih=>
   intro hm
   have mono:l.countP (fun z=>decide (g.dep y<g.dep z))≤l.countP (fun z=>decide (g.dep x<g.dep z)):=
    List.countP_mono_left (fun z _ hz=>by simp at hz⊢;omega)
   rw[List.countP_cons,List.countP_cons]
   rcases List.mem_cons.1 hm with rfl|hm
   ·have e1:decide (g.dep y<g.dep y)=false:=by simp
    have e2:decide (g.dep x<g.dep y)=true:=by simp[hd]
    rw[e1,e2];simp;omega
   ·have:=ih hm
    by_cases e1:g.dep y<g.dep a
    ·have e2:g.dep x<g.dep a:=by omega
     simp[e1,e2];omega
    ·simp[e1];split<;>omega
 exact key _ (List.mem_range.2 hy)
theorem kid_lt{G:Gr}{s:St}{g:Gh}{h:Gs}(hI:Inv G s g h){x y:Nat}(hk:kid g x y):y<G.n∧g.fr x y:=by
 obtain⟨f1,f2,_⟩:=par_fr hI hk.1
 exact⟨G.lt _ _ f2,hI.st.f2 _ _ f1⟩
theorem Quiet.waits{G:Gr}{s:St}{g:Gh}{h:Gs}(hI:Inv G s g h)(hq:Quiet s)(hn:∀x,s.fnd x=true→s.tst x≠none∨s.cnt x≠0):∀(d x:Nat),deeper G g x<d→s.fnd x=true→∃v,s.aw v=true∧s.lev v<g.L x∧∃u,G.adj v u
 |0,x,hd,_=>by omega
 |d+1,x,hd,hf=>by
  have h1:=hI.rp.s1 x hf
  cases ht:s.tst x with
  |some v=>
   have h7:=hI.ts.t7 x v ht
   have h8:=(hI.ts.t1 x v ht).1
   have ha:(kT s.q v x).countP isAns=0:=by
    rw[List.countP_eq_zero]
    intro m hm he
    have h2:=(hq v x m (mem_fil hm)).2
    cases m<;>simp[isAns]at he<;>exact h2
   have key:∀m,m∈kT s.q x v→isTest m=true→∃v,s.aw v=true∧s.lev v<g.L x∧∃u,G.adj v u:=fun m hm he=>by
    have h2:=hq x v m (mem_fil hm)
    cases m with
    |test l n=>
     rcases hI.ts.t4 x v l n hm with h3|h3
     ·have h4:s.lev v<l:=h2.2
      exact⟨v,h2.1,by omega,x,G.sym _ _ h8⟩
     ·exact(h3.2.1 ht).elim
    |_=>simp[isTest]at he
   by_cases hz:(kT s.q x v).countP isTest=0
   ·by_cases hv:s.tst v=some x
    ·rw[if_pos hv]at h7;omega
    ·rw[if_neg hv]at h7
     have h9:0<(kT s.q v x).countP isTest:=by omega
     obtain⟨m,hm,he⟩:=List.countP_pos_iff.1 h9
     have h2:=hq v x m (mem_fil hm)
     cases m with
     |test l n=>
      rcases hI.ts.t4 v x l n hm with h3|h3
      ·exact(hv h3.1).elim
      ·have h4:s.lev x<l:=h2.2
       omega
     |_=>simp[isTest]at he
   ·obtain⟨m,hm,he⟩:=List.countP_pos_iff.1 (Nat.pos_of_ne_zero hz)
    exact key m hm he
  |none=>
   have hc:s.cnt x≠0:=by
    rcases hn x hf with h2|h2
    ·exact(h2 ht).elim
    ·exact h2
   obtain⟨l,_,l2,l3⟩:=hI.rp.ct x hf
   cases l with
   |nil=>simp at l2;omega
   |cons y l=>
    obtain⟨hk,h2⟩:=(l3 y).1 (by simp)
    obtain⟨hy,hfr⟩:=kid_lt hI hk
    have f4:=hI.st.f4 x y hfr
    have hnz:¬h.Z y:=by
     rcases h2 with h2|⟨w,h2⟩
     ·exact h2
     ·have h3:=(hq y x _ (mem_fil h2)).2
      have h4:=hI.rp.si x h1.1 h1.2.1
      rw[h3.1]at h4
      exact(hk.2 h4.symm).elim
    have hcy:=Quiet.cur0 hI hq (g.dep y+1) y (by omega) (by omega)
    have hfy:s.fnd y=true:=by
     cases e:s.fnd y
     ·exact(hnz (hI.rp.s2 y (by omega) hcy e)).elim
     ·rfl
    obtain⟨v,v1,v2,v3⟩:=Quiet.waits hI hq hn d y (by have:=deeper_lt hy (hI.st.dp x y hk);omega) hfy
    exact⟨v,v1,by omega,v3⟩
inductive Down (g:Gh) (a:Nat):Nat→Prop
 |refl:Down g a a
 |step {x z:Nat}:Down g a x→kid g x z→Down g a z
theorem Down.apart{G:Gr}{s:St}{g:Gh}{h:Gs}(hI:Inv G s g h){a b:Nat}(hc:core g a b){z:Nat}(h1:Down g a z):Down g b z→False:=by
 induction h1 with
 |refl=>
  intro h2
  cases h2 with
  |refl=>exact G.irr _ (par_fr hI hc.1).2.1
  |step h3 h4=>
   have:=h4.1.symm.trans hc.1
   cases this
   exact h4.2 hc.2
 | @step x z h3 h4 ih=>
  intro h2
  cases h2 with
  |refl=>
   have:=h4.1.symm.trans hc.2
   cases this
   exact h4.2 hc.1
  | @step x' _ h5 h6=>
   have:=h4.1.symm.trans h6.1
   cases this
   exact ih h5
theorem Quiet.bestE{G:Gr}{s:St}{g:Gh}{h:Gs}(hI:Inv G s g h){a:Nat}(b:Nat):∀(d y:Nat),deeper G g y<d→Down g a y→g.fr a y→g.ph y=0→s.lev y=g.L y→s.bw y=b→b<1001→∃z v,Down g a z∧g.fr a z∧G.adj z v∧¬g.fr z v∧G.w z v=b
 |0,y,hd,_,_,_,_,_,_=>by omega
 |d+1,y,hd,hy,hf,hp,hl,hb,h9=>by
  obtain⟨v,_,v2,v3⟩:=hI.bs.bb y (hI.st.p0 y hp).1 hl (by omega) (by omega)
  rcases v3 with v3|v3|v3
  ·have:=hI.pa.p1 y v3;omega
  ·exact⟨y,v,hy,hf,v2,v3.2.2.1,by omega⟩
  ·obtain⟨k1,k2⟩:=kid_lt hI v3.1
   have f4:=hI.st.f4 y v k2
   exact Quiet.bestE hI b d v (by have:=deeper_lt k1 (hI.st.dp y v v3.1);omega) (Down.step hy v3.1) (hI.st.f3 _ _ _ hf k2) (by omega) v3.2.1 (by rw[v3.2.2.2];exact hb) h9
theorem Quiet.knows{G:Gr}{s:St}{g:Gh}{h:Gs}(hI:Inv G s g h)(hP:Pro G s g h)(hq:Quiet s){a b:Nat}(hc:core g a b)(hf:∀x,g.fr a x→s.fnd x=false):s.over a=true∧s.over b=true:=by
 have hab:=(par_fr hI hc.1).1
 have hpa:=(hI.st.co a b hc).1
 have hpb:=(hI.st.co b a ⟨hc.2,hc.1⟩).1
 have hla:=Quiet.coreL hI hq (u:=b) (v:=a) ⟨hc.2,hc.1⟩
 have hlb:=Quiet.coreL hI hq hc
 have hfa:=hf a (hI.st.f1 a)
 have hfb:=hf b hab
 have h1:s.bw a≤s.bw b∧(s.bw a=1001→s.over b=true):=by
  rcases hP.p3 a b hc hla hfa with⟨w,h1⟩|h1
  ·have:=(hq a b _ h1).2.2;rw[hfb]at this;cases this
  ·exact h1.2.2
 have h2:s.bw b≤s.bw a∧(s.bw b=1001→s.over a=true):=by
  rcases hP.p3 b a ⟨hc.2,hc.1⟩ hlb hfb with⟨w,h1⟩|h1
  ·have:=(hq b a _ h1).2.2;rw[hfa]at this;cases this
  ·exact h1.2.2
 have hm:=hI.rp.bm a
 by_cases e:s.bw a=1001
 ·exact⟨h2.2 (by omega),h1.2 e⟩
 ·obtain⟨z,v,z1,z2,z3,z4,z5⟩:=Quiet.bestE hI (a:=a) (s.bw a) (deeper G g a+1) a (by omega) Down.refl (hI.st.f1 a) hpa hla rfl (by omega)
  obtain⟨z',v',y1,y2,y3,y4,y5⟩:=Quiet.bestE hI (a:=b) (s.bw a) (deeper G g b+1) b (by omega) Down.refl (hI.st.f1 b) hpb hlb (by omega) (by omega)
  rcases G.wd z v z' v' z3 y3 (by omega)with⟨e1,e2⟩|⟨e1,e2⟩
  ·subst e1
   exact(Down.apart hI hc z1 y1).elim
  ·subst e1
   have:g.fr z v:=by
    rw[e2]
    exact hI.st.f3 _ _ _ (hI.st.f2 _ _ z2) (hI.st.f3 _ _ _ hab y2)
   exact(z4 this).elim
def rank(g:Gh)(z:Nat):Nat:=g.L z * 2000+(if g.ph z=2 then g.W z else 0)
theorem half_w{G:Gr}{s:St}{g:Gh}{h:Gs}(hI:Inv G s g h){u v z:Nat}(hh:half s.se u v)(hf:g.fr z u):g.W z=G.w u v∧1≤g.W z∧g.W z≤1000∧G.adj u v:=by
 have h0:=hI.st.hf u v hh
 have f4:=hI.st.f4 z u hf
 have ha:=(hI.st.sa u v (by have:=hh.1;omega)).1
 have:=G.w1 u v ha
 exact⟨by omega,by omega,by omega,ha⟩
theorem Quiet.done{G:Gr}{s:St}{g:Gh}{h:Gs}(hI:Inv G s g h)(hP:Pro G s g h)(hq:Quiet s)(ht:∀u,¬h.tk u)(hn:∀x,s.fnd x=true→s.tst x≠none∨s.cnt x≠0):∀(d z:Nat),rank g z<d→s.aw z=true→(∃v,G.adj z v)→∃a b,core g a b∧s.aw a=true∧(∀x,g.fr a x→s.fnd x=false)
 |0,z,hd,_,_=>by omega
 |d+1,z,hd,hz,ha=>by
  have hW:∀v,s.aw v=true→g.ph v=2→g.W v≤1000:=fun v hv hp=>by
   obtain⟨u',v',f',hh'⟩:=hP.p4 v hv hp
   exact(half_w hI hh' f').2.2.1
  rcases Quiet.phs hP hq ht hz ha with h1|h1
  ·by_cases hf:∃x,g.fr z x∧s.fnd x=true
   ·obtain⟨x,x1,x2⟩:=hf
    obtain⟨v,v1,v2,v3⟩:=Quiet.waits hI hq hn (deeper G g x+1) x (by omega) x2
    have f4:=hI.st.f4 z x x1
    have hc:=Quiet.cur hI hP hq ht v1 v3
    refine Quiet.done hI hP hq ht hn d v ?_ v1 v3
    unfold rank at hd⊢
    have hw:=hW v v1
    have hlt:g.L v+1≤g.L z:=by omega
    have:g.L v * 2000+2000≤g.L z * 2000:=by omega
    split<;>omega
   ·have hf':∀x,g.fr z x→s.fnd x=false:=fun x hx=>by
     cases e:s.fnd x
     ·rfl
     ·exact(hf ⟨x,hx,e⟩).elim
    have hcore:∀d y,g.dep y<d→g.fr z y→∃a b,core g a b∧g.fr z a:=by
     intro d
     induction d with
     |zero=>intro y h1;omega
     |succ d ih=>
      intro y h2 h3
      have f4:=hI.st.f4 z y h3
      cases e:g.par y with
      |none=>exact((hI.st.p0 y (by omega)).2 e).elim
      |some q=>
       by_cases e2:g.par q=some y
       ·exact⟨y,q,⟨e,e2⟩,h3⟩
       ·have:=hI.st.dp q y ⟨e,e2⟩
        exact ih q (by omega) (hI.st.f3 _ _ _ h3 (par_fr hI e).1)
    obtain⟨a,b,c1,c2⟩:=hcore (g.dep z+1) z (by omega) (hI.st.f1 z)
    exact⟨a,b,c1,fr_aw hI hz c2,fun x hx=>hf' x (hI.st.f3 _ _ _ c2 hx)⟩
  ·obtain⟨u,v,f,hh⟩:=hP.p4 z hz h1
   have h0:=hI.st.hf u v hh
   obtain⟨w1,w2,w3,w4⟩:=half_w hI hh f
   have hs:=hq u v _ (mem_fil h0.2.2.2.1)
   have hs2:¬g.L u<s.lev v∧s.se v u=0:=hs.2
   have f4:=hI.st.f4 z u f
   have hav:∃x,G.adj v x:=⟨u,G.sym _ _ w4⟩
   have hc:=Quiet.cur hI hP hq ht hs.1 hav
   have hLv:g.L v=g.L z:=by omega
   refine Quiet.done hI hP hq ht hn d v ?_ hs.1 hav
   unfold rank at hd⊢
   rw[if_pos h1]at hd
   rw[hLv]
   rcases Quiet.phs hP hq ht hs.1 hav with e|e
   ·rw[if_neg (by omega)];omega
   ·rw[if_pos e]
    obtain⟨u',v',f',hh'⟩:=hP.p4 v hs.1 e
    obtain⟨y1,y2,y3,y4⟩:=half_w hI hh' f'
    have hde:=hI.st.de v v u (by omega) (hI.st.f1 v) (G.sym _ _ w4) (fun c=>h0.2.2.1 (hI.st.f2 _ _ c))
    have hws:=G.ws u v
    have hne:g.W v≠g.W z:=fun c=>by
     rcases G.wd u' v' u v y4 w4 (by omega)with⟨e1,e2⟩|⟨e1,e2⟩
     ·rw[e1]at f';exact h0.2.2.1 (hI.st.f2 _ _ f')
     ·have:=hh'.1;rw[e1,e2]at this;omega
    omega
theorem Quiet.all{G:Gr}{s:St}{g:Gh}{h:Gs}(hI:Inv G s g h)(hP:Pro G s g h)(hq:Quiet s)(ht:∀u,¬h.tk u)(hn:∀x,s.fnd x=true→s.tst x≠none∨s.cnt x≠0)(hconn:∀S:Nat→Prop,S 0→(∀z v,G.adj z v→(S z↔S v))→∀z,z<G.n→S z){z:Nat}(hz:s.aw z=true)(ha:∃v,G.adj z v):
 ∃a b,core g a b∧a<G.n∧b<G.n∧s.over a=true∧s.over b=true∧(∀x,x<G.n→s.over x=true→x=a∨x=b)∧∀x,x<G.n→s.aw x=true∧s.fnd x=false∧s.lev x=g.L a∧g.fr a x:=by
 obtain⟨a,b,c1,c2,c3⟩:=Quiet.done hI hP hq ht hn (rank g z+1) z (by omega) hz ha
 obtain⟨o1,o2⟩:=Quiet.knows hI hP hq c1 c3
 have hov:=hI.bs.ov a o1
 have hadj:=(par_fr hI c1.1).2.1
 have ha':=G.lt _ _ hadj
 have hb':=G.lt _ _ (G.sym _ _ hadj)
 have hcl:∀z v,G.adj z v→(g.fr a z↔g.fr a v):=fun z v hzv=>⟨fun e=>hI.st.f3 _ _ _ e (hov z v e hzv),fun e=>hI.st.f3 _ _ _ e (hov v z e (G.sym _ _ hzv))⟩
 have hall:∀x,x<G.n→g.fr a x:=fun x hx=>by
  by_cases h0:g.fr a 0
  ·exact hconn (g.fr a) h0 hcl x hx
  ·have:=hconn (fun k=>¬g.fr a k) h0 (fun z v hzv=>not_congr (hcl z v hzv)) a ha'
   exact(this (hI.st.f1 a)).elim
 refine⟨a,b,c1,ha',hb',o1,o2,fun x hx ho=>?_,fun x hx=>?_⟩
 ·have hx2:=hall x hx
  have hxa:∃v,G.adj x v:=by
   by_cases e:x=a
   ·exact⟨b,by rw[e];exact hadj⟩
   ·by_cases hno:∃v,G.adj x v
    ·exact hno
    ·have:=hconn (fun k=>k=x↔0=x) (by simp) (fun z v hzv=>by
      have e1:z≠x:=fun c=>hno ⟨v,by rw[←c];exact hzv⟩
      have e2:v≠x:=fun c=>hno ⟨z,by rw[←c];exact G.sym _ _ hzv⟩
      simp[e1,e2])
     have h1:=this x hx
     have h2:=this a ha'
     have h3:0=x:=h1.1 rfl
     have h4:=h2.2 h3
     exact(e h4.symm).elim
  obtain⟨v,hv⟩:=hP.p5 x ho hxa
  rcases hI.st.cu a b x v c1 hv hx2 with⟨e1,_⟩|⟨_,e2⟩
  ·exact Or.inl e1.symm
  ·exact Or.inr e2.symm
 ·have hf:=hall x hx
  have hp:g.ph x=0:=by have:=hI.st.f4 a x hf;have:=(hI.st.co a b c1).1;omega
  have hl:=Quiet.cur0 hI hq (g.dep x+1) x (by omega) hp
  have f4:=hI.st.f4 a x hf
  exact⟨fr_aw hI c2 hf,c3 x hf,by omega,hf⟩
theorem mem_rem{q:Nat→Nat→List NMsg}{a b:Nat}{A B:List NMsg}{m x:NMsg}(hq:q a b=A++m::B)(hne:x≠m){u v:Nat}(h:x∈q u v):x∈upd2 q a b (A++B) u v:=by
 simp only[upd2]
 split
 ·rename_i e
  rw[e.1,e.2,hq]at h
  simp at h⊢
  rcases h with h|h|h
  ·exact Or.inl h
  ·exact(hne h).elim
  ·exact Or.inr h
 ·exact h
theorem mem_addq{q:Nat→Nat→List NMsg}{a b:Nat}{m x:NMsg}{u v:Nat}(h:x∈q u v):x∈addq q a b m u v:=by
 simp only[addq,upd2]
 split
 ·rename_i e;rw[e.1,e.2]at h;exact List.mem_append_left _ h
 ·exact h
theorem mem_addq_new{q:Nat→Nat→List NMsg}{a b:Nat}{m:NMsg}:m∈addq q a b m a b:=by simp[addq,upd2]
theorem Pro.of{G:Gr}{s s':St}{g:Gh}{h h':Gs}(hP:Pro G s g h)(e1:s'.aw=s.aw)(e2:s'.lev=s.lev)(e3:s'.fnd=s.fnd)(e4:s'.bw=s.bw)(e5:s'.over=s.over)(e6:∀u v,half s.se u v→half s'.se u v)(e7:∀u,h.tk u→h'.tk u)(e8:∀u v,root∈s.q u v→root∈s'.q u v)(e9:∀u v w,report w∈s.q u v→report w∈s'.q u v):Pro G s' g h':=by
 refine⟨fun z a b c=>?_,fun a b c d e=>?_,fun z a b=>?_,fun u a b=>?_,hP.p6⟩
 ·rw[e1]at a
  obtain⟨y,y1,y2⟩:=hP.p2 z a b c
  exact⟨y,y1,y2.imp (e7 y) (fun⟨c,hc⟩=>⟨c,e8 _ _ hc⟩)⟩
 ·rw[e2]at d⊢
  rw[e3]at e⊢
  rw[e4,e5]
  exact(hP.p3 a b c d e).imp_left (fun⟨w,hw⟩=>⟨w,e9 _ _ _ hw⟩)
 ·rw[e1]at a
  obtain⟨u,v,y1,y2⟩:=hP.p4 z a b
  exact⟨u,v,y1,e6 _ _ y2⟩
 ·rw[e5]at a
  exact hP.p5 u a b
theorem half_rej{se se':Nat→Nat→Nat}{y v:Nat}(hse:(se y v=0∧se'=upd2 se y v 2)∨(se y v≠0∧se'=se)):∀a b,half se a b→half se' a b:=by
 intro a b hh
 rcases hse with⟨h0,rfl⟩|⟨_,rfl⟩
 ·unfold half upd2 at *
  grind
 ·exact hh
theorem pro_reject{G:Gr}{s:St}{g:Gh}{h:Gs}(hP:Pro G s g h){v y:Nat}{A B:List NMsg}(hq:s.q v y=A++reject::B)(se':Nat→Nat→Nat)(hse:(s.se y v=0∧se'=upd2 s.se y v 2)∨(s.se y v≠0∧se'=s.se)):
 Pro G { s with tst:=upd s.tst y none,se:=se',q:=upd2 s.q v y (A++B)} g { h with tg:=fun x=>x=y∨h.tg x}:=
 hP.of rfl rfl rfl rfl rfl (half_rej hse) (fun _ e=>e) (fun _ _ e=>mem_rem hq (fun e=>by cases e) e) (fun _ _ _ e=>mem_rem hq (fun e=>by cases e) e)
theorem pro_tests{G:Gr}{s:St}{g:Gh}{h:Gs}(hP:Pro G s g h){y k:Nat}:
 Pro G { s with tst:=upd s.tst y (some k),q:=addq s.q y k (test (s.lev y) (s.nam y))} g { h with tg:=fun x=>x≠y∧h.tg x}:=
 hP.of rfl rfl rfl rfl rfl (fun _ _ e=>e) (fun _ e=>e) (fun _ _ e=>mem_addq e) (fun _ _ _ e=>mem_addq e)
theorem pro_tests0{G:Gr}{s:St}{g:Gh}{h:Gs}(hP:Pro G s g h){y:Nat}:Pro G s g { h with tg:=fun x=>x≠y∧h.tg x}:=
 hP.of rfl rfl rfl rfl rfl (fun _ _ e=>e) (fun _ e=>e) (fun _ _ e=>e) (fun _ _ _ e=>e)
theorem pro_testA{G:Gr}{s:St}{g:Gh}{h:Gs}(hP:Pro G s g h){v y l n:Nat}{A B:List NMsg}(hq:s.q y v=A++test l n::B):
 Pro G { s with q:=addq (upd2 s.q y v (A++B)) v y accept} g h:=
 hP.of rfl rfl rfl rfl rfl (fun _ _ e=>e) (fun _ e=>e) (fun _ _ e=>mem_addq (mem_rem hq (fun e=>by cases e) e)) (fun _ _ _ e=>mem_addq (mem_rem hq (fun e=>by cases e) e))
theorem pro_testR{G:Gr}{s:St}{g:Gh}{h:Gs}(hP:Pro G s g h){v y l n:Nat}{A B:List NMsg}(hq:s.q y v=A++test l n::B)(se':Nat→Nat→Nat)(hse:(s.se v y=0∧se'=upd2 s.se v y 2)∨(s.se v y≠0∧se'=s.se)):
 Pro G { s with se:=se',q:=addq (upd2 s.q y v (A++B)) v y reject} g h:=
 hP.of rfl rfl rfl rfl rfl (half_rej hse) (fun _ e=>e) (fun _ _ e=>mem_addq (mem_rem hq (fun e=>by cases e) e)) (fun _ _ _ e=>mem_addq (mem_rem hq (fun e=>by cases e) e))
theorem pro_testX{G:Gr}{s:St}{g:Gh}{h:Gs}(hP:Pro G s g h){v y l n:Nat}{A B:List NMsg}(hq:s.q y v=A++test l n::B)(se':Nat→Nat→Nat)(hse:(s.se v y=0∧se'=upd2 s.se v y 2)∨(s.se v y≠0∧se'=s.se)):
 Pro G { s with se:=se',tst:=upd s.tst v none,q:=upd2 s.q y v (A++B)} g { h with tg:=fun x=>x=v∨h.tg x}:=
 hP.of rfl rfl rfl rfl rfl (half_rej hse) (fun _ e=>e) (fun _ _ e=>mem_rem hq (fun e=>by cases e) e) (fun _ _ _ e=>mem_rem hq (fun e=>by cases e) e)
theorem pro_core{G:Gr}{s:St}{g:Gh}{h:Gs}(hP:Pro G s g h){u v l:Nat}{A B:List NMsg}(hq:s.q u v=A++connect l::B):
 Pro G { s with q:=addq (upd2 s.q u v (A++B)) v u (initiate (s.lev v+1) (G.w v u) true)} g h:=
 hP.of rfl rfl rfl rfl rfl (fun _ _ e=>e) (fun _ e=>e) (fun _ _ e=>mem_addq (mem_rem hq (fun e=>by cases e) e)) (fun _ _ _ e=>mem_addq (mem_rem hq (fun e=>by cases e) e))
theorem pro_accept{G:Gr}{s:St}{g:Gh}{h:Gs}(hI:Inv G s g h)(hP:Pro G s g h){v y:Nat}{A B:List NMsg}(hq:s.q v y=A++accept::B)(bw':Nat)(best':Option Nat):
 Pro G { s with tst:=upd s.tst y none,bw:=upd s.bw y bw',best:=upd s.best y best',q:=upd2 s.q v y (A++B)} g h:=by
 have hm:accept∈kT s.q v y:=by simp only[kT,hq];simp[isAns]
 have hf:=tst_fnd hI (hI.ts.t5 y v hm).1
 have h1:Pro G { s with tst:=upd s.tst y none,best:=upd s.best y best',q:=upd2 s.q v y (A++B)} g h:=
  hP.of rfl rfl rfl rfl rfl (fun _ _ e=>e) (fun _ e=>e) (fun _ _ e=>mem_rem hq (fun e=>by cases e) e) (fun _ _ _ e=>mem_rem hq (fun e=>by cases e) e)
 refine⟨h1.p2,fun a b c d e=>?_,h1.p4,h1.p5,h1.p6⟩
 have ha:a≠y:=fun x=>by rw[x]at e;rw[hf]at e;cases e
 rcases h1.p3 a b c d e with h2|h2
 ·exact Or.inl h2
 ·have hb:b≠y:=fun x=>by have:=h2.2.1;rw[x]at this;rw[hf]at this;cases this
  right
  simp only[upd,if_neg ha,if_neg hb]
  exact h2
theorem pro_repC{G:Gr}{s:St}{g:Gh}{h:Gs}(hI:Inv G s g h)(hP:Pro G s g h){x y w:Nat}{A B:List NMsg}(hq:s.q y x=A++report w::B)(hx:s.inn x≠some y)(hf:s.fnd x=true)(bw':Nat)(best':Option Nat)(cnt':Nat):
 Pro G { s with cnt:=upd s.cnt x cnt',bw:=upd s.bw x bw',best:=upd s.best x best',q:=upd2 s.q y x (A++B)} g h:=by
 have hs1:=hI.rp.s1 x hf
 refine⟨fun z a b c=>?_,fun a b c d e=>?_,hP.p4,hP.p5,hP.p6⟩
 ·obtain⟨u,u1,u2⟩:=hP.p2 z a b c
  exact⟨u,u1,u2.imp_right (fun⟨c,hc⟩=>⟨c,mem_rem hq (fun e=>by cases e) hc⟩)⟩
 ·have ha:a≠x:=fun x=>by rw[x]at e;rw[hf]at e;cases e
  rcases hP.p3 a b c d e with⟨w',h2⟩|h2
  ·left
   by_cases e2:a=y∧b=x
   ·obtain⟨rfl,rfl⟩:=e2
    have:=hI.rp.si b hs1.1 hs1.2.1
    rw[c.2]at this
    exact(hx this).elim
   ·refine⟨w',?_⟩
    simp only[upd2,if_neg e2];exact h2
  ·have hb:b≠x:=fun x=>by have:=h2.2.1;rw[x]at this;rw[hf]at this;cases this
   right
   simp only[upd,if_neg ha,if_neg hb]
   exact h2
theorem pro_repIn{G:Gr}{s:St}{g:Gh}{h:Gs}(hI:Inv G s g h)(hP:Pro G s g h){x y w:Nat}{A B:List NMsg}(hq:s.q y x=A++report w::B)(hA:inits A=[])(hx:s.inn x=some y)(hf:s.fnd x=false)(hb:¬s.bw x<w)(o':Nat→Bool)(ho:∀u,s.over u=true→o' u=true)(ho2:∀u,o' u=true→s.over u=true∨(u=x∧w=1001))(ho3:w=1001→s.bw x=1001→o' x=true):
 Pro G { s with over:=o',q:=upd2 s.q y x (A++B)} g h:=by
 have hm:=hI.rp.bm x
 refine⟨fun z a b c=>?_,fun a b c d e=>?_,hP.p4,fun u a b=>?_,hP.p6⟩
 ·obtain⟨u,u1,u2⟩:=hP.p2 z a b c
  exact⟨u,u1,u2.imp_right (fun⟨c,hc⟩=>⟨c,mem_rem hq (fun e=>by cases e) hc⟩)⟩
 ·rcases hP.p3 a b c d e with⟨w',h2⟩|h2
  ·by_cases e2:a=y∧b=x
   ·obtain⟨rfl,rfl⟩:=e2
    right
    rcases hI.coreRep hq hA hx hf with h3|h3
    ·-- a stale one: no core
     have hmr:report w∈kR s.q a b:=by simp only[kR,hq];simp[isRep]
     rcases hI.rp.r1 b a w hmr with h4|h4
     ·have h5:=hI.live hq hA h4.1 h4.2.1 h4.2.2.1 h4.2.2.2.2.2.2.2
      refine⟨h5.1,hf,?_,?_⟩
      ·show s.bw a≤s.bw b;omega
      ·intro e9
       have e9':s.bw a=1001:=e9
       omega
     ·exact(h4.1.2 c.1).elim
    ·refine⟨h3.2.1,hf,?_,?_⟩
     ·show s.bw a≤s.bw b;omega
     ·intro e9
      have e9':s.bw a=1001:=e9
      exact ho3 (by omega) (by omega)
   ·left
    refine⟨w',?_⟩
    simp only[upd2,if_neg e2];exact h2
  ·right
   exact⟨h2.1,h2.2.1,h2.2.2.1,fun e9=>ho _ (h2.2.2.2 e9)⟩
 ·rcases ho2 u a with h2|⟨rfl,h2⟩
  ·exact hP.p5 u h2 b
  ·rcases hI.coreRep hq hA hx hf with h3|h3
   ·omega
   ·exact⟨y,h3.1⟩
theorem over_bw{G:Gr}{s:St}{g:Gh}{h:Gs}(hI:Inv G s g h){u x:Nat}(ho:s.over u=true)(hf:g.fr u x)(hp:g.ph x=0)(hl:s.lev x=g.L x):¬s.bw x<1001:=fun hb=>by
 obtain⟨z,v,z1,z2,z3,z4,z5⟩:=Quiet.bestE hI (a:=x) (s.bw x) (deeper G g x+1) x (by omega) Down.refl (hI.st.f1 x) hp hl rfl hb
 exact z4 (hI.bs.ov u ho z v (hI.st.f3 _ _ _ hf z2) z3)
open Classical in
theorem pro_decide{G:Gr}{s:St}{g:Gh}{h:Gs}(hI:Inv G s g h)(hP:Pro G s g h){x y w:Nat}{A B:List NMsg}(hq:s.q y x=A++report w::B)(hA:inits A=[])(hx:s.inn x=some y)(hf:s.fnd x=false)(hb:s.bw x<w):
 Pro G { s with q:=upd2 s.q y x (A++B)} { g with ph:=fun z=>if g.fr x z then 1 else g.ph z,W:=fun z=>if g.fr x z then s.bw x else g.W z,par:=upd g.par x none,dep:=fun z=>if z=x then 0 else g.dep z+1} { h with tk:=fun z=>z=x∨h.tk z}:=by
 obtain⟨c1,c2,c3,c4,c5,c6,c7,c8,c9,c10⟩:core g x y∧s.lev x=g.L x∧s.lev y=g.L y∧s.fnd y=false∧g.ph x=0∧h.Z x∧h.Z y∧h.be x=s.bw x∧h.be y=s.bw y∧w=s.bw y:=by
  rcases hI.coreRep hq hA hx hf with h3|h3
  ·omega
  ·exact h3
 have hm:=hI.rp.bm y
 have hxy:=(par_fr hI c1.1).1
 have nc:∀a b,core { g with ph:=fun z=>if g.fr x z then 1 else g.ph z,W:=fun z=>if g.fr x z then s.bw x else g.W z,par:=upd g.par x none,dep:=fun z=>if z=x then 0 else g.dep z+1} a b→core g a b∧a≠x∧b≠x:=fun a b hc=>by
  unfold core at hc⊢
  simp only[upd]at hc
  by_cases e1:a=x
  ·rw[if_pos e1]at hc;cases hc.1
  ·by_cases e2:b=x
   ·rw[if_pos e2]at hc;cases hc.2
   ·rw[if_neg e1,if_neg e2]at hc
    exact⟨hc,e1,e2⟩
 refine⟨fun z a b c=>?_,fun a b c d e=>?_,fun z a b=>?_,fun u a b=>?_,fun z=>?_⟩
 ·dsimp only at b⊢
  by_cases e:g.fr x z
  ·exact⟨x,hI.st.f2 _ _ e,Or.inl (Or.inl rfl)⟩
  ·rw[if_neg e]at b
   obtain⟨u,u1,u2⟩:=hP.p2 z a b c
   exact⟨u,u1,u2.imp Or.inr (fun⟨c,hc⟩=>⟨c,mem_rem hq (fun e=>by cases e) hc⟩)⟩
 ·obtain⟨n1,n2,n3⟩:=nc a b c
  refine(hP.p3 a b n1 d e).imp_left (fun⟨w',h2⟩=>⟨w',?_⟩)
  have e2:¬(a=y∧b=x):=fun c=>n3 c.2
  simp only[upd2,if_neg e2];exact h2
 ·dsimp only at b⊢
  by_cases e:g.fr x z
  ·rw[if_pos e]at b;cases b
  ·rw[if_neg e]at b
   exact hP.p4 z a b
 ·obtain⟨v,hv⟩:=hP.p5 u a b
  have key:¬g.fr u x:=fun c=>over_bw hI a c c5 c2 (by omega)
  have hu:u≠x:=fun c=>key (by rw[c];exact hI.st.f1 x)
  have hv':v≠x:=fun c=>key (by rw[←c];exact(par_fr hI hv.1).1)
  refine⟨v,?_⟩
  unfold core
  simp only[upd,if_neg hu,if_neg hv']
  exact hv
 ·dsimp only
  split
  ·omega
  ·exact hP.p6 z
theorem pro_rootSend{G:Gr}{s:St}{g:Gh}{h:Gs}(hP:Pro G s g h){u c:Nat}:Pro G { s with q:=addq s.q u c root} g { h with tk:=fun z=>z≠u∧h.tk z}:=by
 refine⟨fun z a b d=>?_,fun a b d e f=>?_,hP.p4,hP.p5,hP.p6⟩
 ·obtain⟨y,y1,y2⟩:=hP.p2 z a b d
  refine⟨y,y1,?_⟩
  by_cases e:y=u
  ·exact Or.inr ⟨c,by rw[e];exact mem_addq_new⟩
  ·exact y2.imp (fun t=>⟨e,t⟩) (fun⟨c,hc⟩=>⟨c,mem_addq hc⟩)
 ·exact(hP.p3 a b d e f).imp_left (fun⟨w,hw⟩=>⟨w,mem_addq hw⟩)
theorem pro_rootRecv{G:Gr}{s:St}{g:Gh}{h:Gs}(hI:Inv G s g h)(hP:Pro G s g h){y c:Nat}{A B:List NMsg}(hq:s.q y c=A++root::B):
 Pro G { s with q:=upd2 s.q y c (A++B)} { g with par:=upd (upd g.par y (some c)) c none,dep:=fun z=>if z=c then 0 else g.dep z+1} { h with tk:=fun z=>z=c∨h.tk z,ps:=fun z=>z=y∨h.ps z}:=by
 have hm:root∈kX s.q y c:=by simp only[kX,hq];simp[isRoot]
 obtain⟨k1,k2,k3,k4,k5⟩:=hI.bs.k2 y c hm
 obtain⟨_,hyc⟩:=kid_lt hI k4
 have f4:=hI.st.f4 y c hyc
 have old:∀a b,core g a b→a≠y∧a≠c∧b≠y∧b≠c:=fun a b hc=>by
  have h1:=(hI.st.co a b hc).1
  have h2:=(hI.st.co b a ⟨hc.2,hc.1⟩).1
  refine⟨?_,?_,?_,?_⟩<;>intro e<;>subst e<;>omega
 have nc:∀a b,core { g with par:=upd (upd g.par y (some c)) c none,dep:=fun z=>if z=c then 0 else g.dep z+1} a b→core g a b:=fun a b hc=>by
  unfold core at hc⊢
  simp only[upd]at hc
  grind
 refine⟨fun z a b d=>?_,fun a b d e f=>?_,hP.p4,fun u a b=>?_,hP.p6⟩
 ·obtain⟨u,u1,u2⟩:=hP.p2 z a b d
  rcases u2 with u2|⟨c',u2⟩
  ·exact⟨u,u1,Or.inl (Or.inr u2)⟩
  ·by_cases e:u=y
   ·exact⟨c,hI.st.f3 _ _ _ (by rw[←e];exact u1) hyc,Or.inl (Or.inl rfl)⟩
   ·refine⟨u,u1,Or.inr ⟨c',?_⟩⟩
    have e2:¬(u=y∧c'=c):=fun x=>e x.1
    simp only[upd2,if_neg e2];exact u2
 ·exact(hP.p3 a b (nc a b d) e f).imp_left (fun⟨w,hw⟩=>⟨w,mem_rem hq (fun e=>by cases e) hw⟩)
 ·obtain⟨v,hv⟩:=hP.p5 u a b
  obtain⟨o1,o2,o3,o4⟩:=old u v hv
  refine⟨v,?_⟩
  unfold core
  simp only[upd,if_neg o1,if_neg o2,if_neg o3,if_neg o4]
  exact hv
open Classical in
theorem pro_conn{G:Gr}{s:St}{g:Gh}{h:Gs}(hI:Inv G s g h)(hP:Pro G s g h){u v:Nat}(ha:G.adj u v)(h1:s.se v u≠1):
 Pro G { s with se:=upd2 s.se u v 1,q:=addq s.q u v (connect (s.lev u))} { g with ph:=fun z=>if g.fr u z then 2 else g.ph z} { h with tk:=fun z=>z≠u∧h.tk z,ps:=fun z=>h.ps z∧¬g.fr u z}:=by
 have huv:u≠v:=fun e=>by rw[e]at ha;exact G.irr _ ha
 refine⟨fun z a b d=>?_,fun a b d e f=>?_,fun z a b=>?_,hP.p5,fun z=>?_⟩
 ·dsimp only at b⊢
  by_cases e:g.fr u z
  ·rw[if_pos e]at b;cases b
  ·rw[if_neg e]at b
   obtain⟨y,y1,y2⟩:=hP.p2 z a b d
   have hyu:y≠u:=fun x=>e (by rw[←x];exact hI.st.f2 _ _ y1)
   exact⟨y,y1,y2.imp (fun t=>⟨hyu,t⟩) (fun⟨c,hc⟩=>⟨c,mem_addq hc⟩)⟩
 ·exact(hP.p3 a b d e f).imp_left (fun⟨w,hw⟩=>⟨w,mem_addq hw⟩)
 ·dsimp only at b⊢
  by_cases e:g.fr u z
  ·refine⟨u,v,hI.st.f2 _ _ e,?_⟩
   unfold half upd2
   grind
  ·rw[if_neg e]at b
   obtain⟨x,y,y1,y2⟩:=hP.p4 z a b
   refine⟨x,y,y1,?_⟩
   unfold half upd2 at *
   grind
 ·dsimp only
  split
  ·omega
  ·exact hP.p6 z
theorem pro_wake{G:Gr}{s:St}{g:Gh}{h:Gs}(hI:Inv G s g h)(hP:Pro G s g h){u:Nat}(W':Nat):
 Pro G { s with aw:=upd s.aw u true} { g with ph:=upd g.ph u 1,W:=upd g.W u W'} { h with tk:=fun z=>z=u∨h.tk z}:=by
 refine⟨fun z a b d=>?_,hP.p3,fun z a b=>?_,hP.p5,fun z=>?_⟩
 ·by_cases e:z=u
  ·exact⟨u,by rw[e];exact hI.st.f1 u,Or.inl (Or.inl rfl)⟩
  ·simp only[upd,if_neg e]at a b
   obtain⟨y,y1,y2⟩:=hP.p2 z a b d
   exact⟨y,y1,y2.imp_left Or.inr⟩
 ·by_cases e:z=u
  ·simp only[upd,if_pos e]at b;cases b
  ·simp only[upd,if_neg e]at a b
   exact hP.p4 z a b
 ·simp only[upd]
  split
  ·omega
  ·exact hP.p6 z
theorem pro_lone{G:Gr}{s:St}{g:Gh}{h:Gs}(hI:Inv G s g h)(hP:Pro G s g h){u:Nat}(hL:g.L u=0)(hn:∀v,¬G.adj u v):Pro G { s with over:=upd s.over u true} g { h with tk:=fun z=>z≠u∧h.tk z}:=by
 refine⟨fun z a b d=>?_,fun a b d e f=>?_,hP.p4,fun z a b=>?_,hP.p6⟩
 ·obtain⟨y,y1,y2⟩:=hP.p2 z a b d
  have hyu:y≠u:=fun x=>by
   have:=hI.st.f5 u z hL (by rw[←x];exact hI.st.f2 _ _ y1)
   obtain⟨v,hv⟩:=d
   exact hn v (by rw[this];exact hv)
  exact⟨y,y1,y2.imp_left (fun t=>⟨hyu,t⟩)⟩
 ·refine(hP.p3 a b d e f).imp_right (fun⟨x1,x2,x3,x4⟩=>⟨x1,x2,x3,fun y=>?_⟩)
  have:=x4 y
  simp only[upd]
  split
  ·rfl
  ·exact this
 ·by_cases e:z=u
  ·obtain⟨v,hv⟩:=b
   exact(hn v (by rw[←e];exact hv)).elim
  ·simp only[upd,if_neg e]at a
   exact hP.p5 z a b
theorem pro_reports{G:Gr}{s:St}{g:Gh}{h:Gs}(hI:Inv G s g h)(hP:Pro G s g h){y x:Nat}(hf:s.fnd y=true)(hx:s.inn y=some x):
 Pro G { s with fnd:=upd s.fnd y false,q:=addq s.q y x (report (s.bw y))} g { h with Z:=fun z=>z=y∨h.Z z,be:=upd h.be y (s.bw y)}:=by
 have h1:=hI.rp.s1 y hf
 have h2:=hI.rp.si y h1.1 h1.2.1
 refine⟨fun z a b d=>?_,fun a b d e f=>?_,hP.p4,hP.p5,hP.p6⟩
 ·obtain⟨u,u1,u2⟩:=hP.p2 z a b d
  exact⟨u,u1,u2.imp_right (fun⟨c,hc⟩=>⟨c,mem_addq hc⟩)⟩
 ·by_cases ea:a=y
  ·subst ea
   left
   have:x=b:=by
    have h3:=h2.symm.trans hx
    rw[d.1]at h3
    exact(Option.some.inj h3).symm
   exact⟨s.bw a,by rw[this];exact mem_addq_new⟩
  ·simp only[upd,if_neg ea]at f
   rcases hP.p3 a b d e f with⟨w,hw⟩|h3
   ·exact Or.inl ⟨w,mem_addq hw⟩
   ·right
    have eb:b≠y:=fun x=>by have:=h3.2.1;rw[x,hf]at this;cases this
    simp only[upd,if_neg eb]
    exact h3
theorem mem_initq{q:Nat→Nat→List NMsg}{se:Nat→Nat→Nat}{x y:Nat}{A B:List NMsg}{m r:NMsg}(hq:q x y=A++m::B)(hne:r≠m){u v:Nat}(h:r∈q u v):r∈initq q se x y (A++B) m u v:=by
 simp only[initq]
 split
 ·rename_i e
  rw[e.1,e.2,hq]at h
  simp at h⊢
  rcases h with h|h|h
  ·exact Or.inl h
  ·exact(hne h).elim
  ·exact Or.inr h
 ·split
  ·rename_i e;rw[e.1]at h;exact List.mem_append_left _ h
  ·exact h
theorem pro_init{G:Gr}{s:St}{g:Gh}{h:Gs}(hI:Inv G s g h)(hP:Pro G s g h){x y l n:Nat}{f:Bool}{A B:List NMsg}(hq:s.q x y=A++initiate l n f::B)(hlt:s.lev y<l)(c':Nat):
 Pro G { s with lev:=upd s.lev y l,nam:=upd s.nam y n,inn:=upd s.inn y (some x),best:=upd s.best y none,bw:=upd s.bw y 1001,fnd:=upd s.fnd y f,cnt:=upd s.cnt y c',q:=initq s.q s.se x y (A++B) (initiate l n f)} g { h with tg:=fun z=>(z=y∧f=true)∨h.tg z}:=by
 have hm:initiate l n f∈kS s.q x y:=by simp only[kS,hq];simp[isIni]
 have hi:=hI.st.i1 x y l n f hm
 refine⟨fun z a b d=>?_,fun a b d e e2=>?_,hP.p4,hP.p5,hP.p6⟩
 ·obtain⟨u,u1,u2⟩:=hP.p2 z a b d
  exact⟨u,u1,u2.imp_right (fun⟨c,hc⟩=>⟨c,mem_initq hq (fun e=>by cases e) hc⟩)⟩
 ·by_cases ea:a=y
  ·subst ea
   simp only[upd,if_pos]at e e2
   have hxb:x=b:=by
    have:=d.1.symm.trans hi.1
    exact(Option.some.inj this).symm
   subst hxb
   have hmi:(l,n,f)∈inits (kS s.q x a):=by
    have:∀L:List NMsg,initiate l n f∈L→(l,n,f)∈inits L:=by
     intro L
     induction L with
     |nil=>intro h;cases h
     |cons m t ih=>
      intro h
      rcases List.mem_cons.1 h with rfl|h
      ·simp[inits]
      ·have:=ih h
       cases m<;>simp[inits,this]
    exact this _ hm
   rcases (hI.st.co x a ⟨d.2,d.1⟩).2.2 with h3|h3|h3
   ·rw[h3.2.1]at hmi;cases hmi
   ·rw[h3.2.1]at hmi
    simp at hmi
    rw[hmi.2.2]at e2;cases e2
   ·rw[h3.2.1]at hmi;cases hmi
  ·simp only[upd,if_neg ea]at e e2
   rcases hP.p3 a b d e e2 with⟨w,hw⟩|h3
   ·exact Or.inl ⟨w,mem_initq hq (fun e=>by cases e) hw⟩
   ·by_cases eb:b=y
    ·subst eb
     have:=h3.1
     omega
    ·right
     simp only[upd,if_neg ea,if_neg eb]
     exact h3
open Classical in
theorem pro_absorb{G:Gr}{s:St}{g:Gh}{h:Gs}(hI:Inv G s g h)(hP:Pro G s g h){u v l:Nat}{A B:List NMsg}(hq:s.q u v=A++connect l::B)(hl:l<s.lev v)(cnt':Nat→Nat):
 Pro G { s with se:=upd2 s.se v u 1,cnt:=cnt',q:=addq (upd2 s.q u v (A++B)) v u (initiate (s.lev v) (s.nam v) (s.fnd v))}
  { fr:=fun a b=>g.fr a b∨((g.fr u a∨g.fr v a)∧(g.fr u b∨g.fr v b)),L:=fun z=>if g.fr u z then g.L v else g.L z,N:=fun z=>if g.fr u z then g.N v else g.N z,ph:=fun z=>if g.fr u z then g.ph v else g.ph z,W:=fun z=>if g.fr u z then g.W v else g.W z,par:=upd g.par u (some v),dep:=fun z=>if g.fr u z then g.dep v+1+g.dep z else g.dep z}
  { h with Z:=fun z=>if g.fr u z then h.Z v else h.Z z,be:=fun z=>if g.fr u z then G.w u v else h.be z,ps:=fun z=>h.ps z∧¬g.fr u z}:=by
 have hm:connect l∈kS s.q u v:=by simp only[kS,hq];simp[isCon]
 have hcn:=hI.st.cn u v l hm
 have hne:s.se v u≠1:=fun e=>by have:=(hcn.2.1 e).2.2.2;omega
 have hhf:half s.se u v:=⟨hcn.1,hne⟩
 have h0:=hI.st.hf u v hhf
 have hadj:=(hI.st.sa u v (by have:=hhf.1;omega)).1
 have hnpar:g.par v≠some u:=fun e=>hne (hI.st.pr v u e).1
 have hav:s.aw v=true:=by
  cases e:s.aw v
  ·have:=(hI.st.asl v e).1;omega
  ·rfl
 have nc:∀a b,core { fr:=fun a b=>g.fr a b∨((g.fr u a∨g.fr v a)∧(g.fr u b∨g.fr v b)),L:=fun z=>if g.fr u z then g.L v else g.L z,N:=fun z=>if g.fr u z then g.N v else g.N z,ph:=fun z=>if g.fr u z then g.ph v else g.ph z,W:=fun z=>if g.fr u z then g.W v else g.W z,par:=upd g.par u (some v),dep:=fun z=>if g.fr u z then g.dep v+1+g.dep z else g.dep z} a b↔core g a b:=fun a b=>by
  have hpu:=h0.2.1
  unfold core
  simp only[upd]
  grind
 have nfr:∀a b,core g a b→¬g.fr u a:=fun a b hc e=>by
  have h1:=(hI.st.co a b hc).1
  have h2:=hI.st.f4 u a e
  omega
 refine⟨fun z a b d=>?_,fun a b d e e2=>?_,fun z a b=>?_,fun w a b=>?_,fun z=>?_⟩
 ·dsimp only at b⊢
  by_cases e:g.fr u z
  ·rw[if_pos e]at b
   obtain⟨y,y1,y2⟩:=hP.p2 v hav b ⟨u,G.sym _ _ hadj⟩
   exact⟨y,Or.inr ⟨Or.inl e,Or.inr y1⟩,y2.imp_right (fun⟨c,hc⟩=>⟨c,mem_addq (mem_rem hq (fun e=>by cases e) hc)⟩)⟩
  ·rw[if_neg e]at b
   obtain⟨y,y1,y2⟩:=hP.p2 z a b d
   exact⟨y,Or.inl y1,y2.imp_right (fun⟨c,hc⟩=>⟨c,mem_addq (mem_rem hq (fun e=>by cases e) hc)⟩)⟩
 ·have c1:=(nc a b).1 d
  have n1:=nfr a b c1
  have n2:=nfr b a ⟨c1.2,c1.1⟩
  simp only[if_neg n1]at e
  simp only[if_neg n2]
  exact(hP.p3 a b c1 e e2).imp_left (fun⟨w,hw⟩=>⟨w,mem_addq (mem_rem hq (fun e=>by cases e) hw)⟩)
 ·dsimp only at b⊢
  by_cases e:g.fr u z
  ·rw[if_pos e]at b
   obtain⟨x,y,y1,y2⟩:=hP.p4 v hav b
   refine⟨x,y,Or.inr ⟨Or.inl e,Or.inr y1⟩,?_⟩
   have hxu:x≠u:=fun c=>h0.2.2.1 (by rw[←c];exact hI.st.f2 _ _ y1)
   unfold half upd2 at *
   grind
  ·rw[if_neg e]at b
   obtain⟨x,y,y1,y2⟩:=hP.p4 z a b
   refine⟨x,y,Or.inl y1,?_⟩
   have hxu:x≠u:=fun c=>e (by rw[←c];exact hI.st.f2 _ _ y1)
   unfold half upd2 at *
   grind
 ·obtain⟨x,hx⟩:=hP.p5 w a b
  exact⟨x,(nc w x).2 hx⟩
 ·dsimp only
  split
  ·exact hP.p6 v
  ·exact hP.p6 z
open Classical in
theorem pro_merge{G:Gr}{s:St}{g:Gh}{h:Gs}(hI:Inv G s g h)(hP:Pro G s g h){u v:Nat}(ht:h.tk u)(ha:G.adj u v)(h0:s.se u v=0)(h1:s.se v u=1)(hl:g.L u≤s.lev v):
 Pro G { s with se:=upd2 s.se u v 1,q:=addq s.q u v (connect (s.lev u))}
  { fr:=fun a b=>g.fr a b∨((g.fr u a∨g.fr v a)∧(g.fr u b∨g.fr v b)),L:=fun z=>if g.fr u z∨g.fr v z then g.L u+1 else g.L z,N:=fun z=>if g.fr u z∨g.fr v z then G.w u v else g.N z,ph:=fun z=>if g.fr u z∨g.fr v z then 0 else g.ph z,W:=fun z=>if g.fr u z∨g.fr v z then 0 else g.W z,par:=upd (upd g.par u (some v)) v (some u),dep:=g.dep}
  { h with Z:=fun z=>h.Z z∧¬(g.fr u z∨g.fr v z),be:=fun z=>if g.fr u z∨g.fr v z then 0 else h.be z,tk:=fun z=>z≠u∧h.tk z,ps:=fun z=>h.ps z∧¬(g.fr u z∨g.fr v z)}:=by
 have hhf:half s.se v u:=⟨h1,by omega⟩
 have k1:=hI.bs.k1 u ht
 have hf:=hI.st.hf v u hhf
 have l1:=hI.st.l1 v
 have huv:u≠v:=fun e=>by rw[e]at ha;exact G.irr _ ha
 have nfr:∀a b,core g a b→¬(g.fr u a∨g.fr v a):=fun a b hc e=>by
  have h2:=(hI.st.co a b hc).1
  rcases e with e|e
  ·have h3:=hI.st.f4 u a e;omega
  ·have h3:=hI.st.f4 v a e;omega
 refine⟨fun z a b d=>?_,fun a b d e e2=>?_,fun z a b=>?_,fun w a b=>?_,fun z=>?_⟩
 ·dsimp only at b⊢
  by_cases e:g.fr u z∨g.fr v z
  ·rw[if_pos e]at b;cases b
  ·rw[if_neg e]at b
   obtain⟨y,y1,y2⟩:=hP.p2 z a b d
   have hyu:y≠u:=fun x=>e (Or.inl (by rw[←x];exact hI.st.f2 _ _ y1))
   exact⟨y,Or.inl y1,y2.imp (fun t=>⟨hyu,t⟩) (fun⟨c,hc⟩=>⟨c,mem_addq hc⟩)⟩
 ·have hd1:upd (upd g.par u (some v)) v (some u) a=some b:=d.1
  have hd2:upd (upd g.par u (some v)) v (some u) b=some a:=d.2
  by_cases eu:a=u
  ·subst eu
   dsimp only at e
   rw[if_pos (Or.inl (hI.st.f1 a))]at e
   omega
  ·by_cases ev:a=v
   ·subst ev
    dsimp only at e
    rw[if_pos (Or.inr (hI.st.f1 a))]at e
    omega
   ·have c1:core g a b:=by
     unfold core
     simp only[upd]at hd1 hd2
     grind
    have n1:=nfr a b c1
    have n2:=nfr b a ⟨c1.2,c1.1⟩
    simp only[if_neg n1]at e
    simp only[if_neg n2]
    exact(hP.p3 a b c1 e e2).imp_left (fun⟨w,hw⟩=>⟨w,mem_addq hw⟩)
 ·dsimp only at b⊢
  by_cases e:g.fr u z∨g.fr v z
  ·rw[if_pos e]at b;cases b
  ·rw[if_neg e]at b
   obtain⟨x,y,y1,y2⟩:=hP.p4 z a b
   refine⟨x,y,Or.inl y1,?_⟩
   have hxv:x≠v:=fun c=>e (Or.inr (by rw[←c];exact hI.st.f2 _ _ y1))
   unfold half upd2 at *
   grind
 ·obtain⟨x,hx⟩:=hP.p5 w a b
  have n1:=nfr w x hx
  have n2:=nfr x w ⟨hx.2,hx.1⟩
  have a1:w≠u:=fun c=>n1 (Or.inl (by rw[c];exact hI.st.f1 u))
  have a2:w≠v:=fun c=>n1 (Or.inr (by rw[c];exact hI.st.f1 v))
  have a3:x≠u:=fun c=>n2 (Or.inl (by rw[c];exact hI.st.f1 u))
  have a4:x≠v:=fun c=>n2 (Or.inr (by rw[c];exact hI.st.f1 v))
  refine⟨x,?_⟩
  unfold core
  simp only[upd,if_neg a1,if_neg a2,if_neg a3,if_neg a4]
  exact hx
 ·dsimp only
  split
  ·omega
  ·exact hP.p6 z
theorem pro_start(G:Gr){s:St}(h1:∀u,s.aw u=false)(h2:∀u,s.over u=false):Pro G s g0 h0:=by
 refine⟨fun z a b=>?_,fun a b c=>?_,fun z a b=>?_,fun u a=>?_,fun z=>Nat.le_refl _⟩
 ·cases b
 ·cases c.1
 ·rw[h1]at a;cases a
 ·rw[h2]at a;cases a
def S1(n:Nat)(f:Nat→Nat):Nat:=((List.range n).map f).sum
def S2(n:Nat)(f:Nat→Nat→Nat):Nat:=S1 n (fun u=>S1 n (f u))
theorem S1_succ(n:Nat)(f:Nat→Nat):S1 (n+1) f=S1 n f+f n:=by
 unfold S1;rw[List.range_succ,List.map_append,List.sum_append];simp
theorem S1_le(n:Nat)(f g:Nat→Nat)(h:∀u,u<n→f u≤g u):S1 n f≤S1 n g:=by
 induction n with
 |zero=>simp[S1]
 |succ n ih=>
  rw[S1_succ,S1_succ]
  have:=ih (fun u hu=>h u (by omega))
  have:=h n (by omega)
  omega
theorem S1_eq(n:Nat)(f g:Nat→Nat)(h:∀u,u<n→f u=g u):S1 n f=S1 n g:=
 Nat.le_antisymm (S1_le n f g (fun u hu=>by rw[h u hu];exact Nat.le_refl _)) (S1_le n g f (fun u hu=>by rw[h u hu];exact Nat.le_refl _))
theorem S1_one(n:Nat)(f g:Nat→Nat){a:Nat}(ha:a<n)(h:∀u,u<n→u≠a→f u=g u):S1 n f+g a=S1 n g+f a:=by
 induction n with
 |zero=>omega
 |succ n ih=>
  rw[S1_succ,S1_succ]
  by_cases e:a=n
  ·subst e
   rw[S1_eq a f g (fun u hu=>h u (by omega) (by omega))]
   omega
  ·have:=ih (by omega) (fun u hu hne=>h u (by omega) hne)
   have:=h n (by omega) (fun x=>e x.symm)
   omega
theorem S1_const(n c:Nat):S1 n (fun _=>c)=n * c:=by
 induction n with
 |zero=>simp[S1]
 |succ n ih=>rw[S1_succ,ih,Nat.succ_mul]
theorem S2_one(n:Nat)(f g:Nat→Nat→Nat){a b:Nat}(ha:a<n)(hb:b<n)(h:∀u v,¬(u=a∧v=b)→f u v=g u v):S2 n f+g a b=S2 n g+f a b:=by
 have h1:S1 n (f a)+g a b=S1 n (g a)+f a b:=S1_one n (f a) (g a) hb (fun v _ hv=>h a v (fun x=>hv x.2))
 have h2:S2 n f+S1 n (g a)=S2 n g+S1 n (f a):=S1_one n (fun u=>S1 n (f u)) (fun u=>S1 n (g u)) ha (fun u _ hu=>S1_eq n _ _ (fun v _=>h u v (fun x=>hu x.1)))
 omega
theorem S2_le(n:Nat)(f g:Nat→Nat→Nat)(h:∀u v,u<n→v<n→f u v≤g u v):S2 n f≤S2 n g:=S1_le n _ _ (fun u hu=>S1_le n _ _ (fun v hv=>h u v hu hv))
theorem S2_eq(n:Nat)(f g:Nat→Nat→Nat)(h:∀u v,u<n→v<n→f u v=g u v):S2 n f=S2 n g:=S1_eq n _ _ (fun u hu=>S1_eq n _ _ (fun v hv=>h u v hu hv))
def mL(G:Gr)(s:St):Nat:=S1 G.n s.lev
def mF(G:Gr)(s:St):Nat:=S1 G.n (fun u=>if s.fnd u=true then 1 else 0)
def mQ(G:Gr)(p:NMsg→Bool)(s:St):Nat:=S2 G.n (fun u v=>(s.q u v).countP p)
def mB(G:Gr)(s:St):Nat:=S2 G.n (fun u v=>if s.se u v=1 then 1 else 0)
def mD(G:Gr)(s:St):Nat:=S2 G.n (fun u v=>if s.se u v≠0∧s.tst u≠some v then 1 else 0)
open Classical in
noncomputable def mG(G:Gr)(h:Gs):Nat:=S1 G.n (fun u=>if h.tg u then 1 else 0)
open Classical in
noncomputable def mP(G:Gr)(h:Gs):Nat:=S1 G.n (fun u=>if h.ps u then 1 else 0)
structure Cn where
 i:Nat
 r:Nat
 c:Nat
 t:Nat
 a:Nat
 x:Nat
structure CntC(G:Gr)(s:St)(h:Gs)(c:Cn):Prop where
 ni:c.i≤mL G s+mQ G isIni s
 nr:c.r+mF G s≤mL G s
 nc:c.c≤mB G s
 nt:c.t+mG G h≤mL G s+mD G s
 na:c.a+mQ G isTest s≤c.t
 nx:c.x≤mP G h+mQ G isRoot s+G.n * c.c
 ny:∀y z,root∈s.q y z→¬h.ps y
def Cn.sum(c:Cn):Nat:=c.i+c.r+c.c+c.t+c.a+c.x
def Cnt(G:Gr)(k:Nat)(s:St)(h:Gs):Prop:=∃c:Cn,CntC G s h c∧k≤c.sum
theorem mQ_rem(G:Gr)(p:NMsg→Bool){s:St}{a b:Nat}{A B:List NMsg}{m:NMsg}(ha:a<G.n)(hb:b<G.n)(hq:s.q a b=A++m::B)(q':Nat→Nat→List NMsg)(e:q'=upd2 s.q a b (A++B))(s':St)(hs:s'.q=q'):mQ G p s'+(if p m=true then 1 else 0)=mQ G p s:=by
 unfold mQ
 have h1:=S2_one G.n (fun u v=>(s'.q u v).countP p) (fun u v=>(s.q u v).countP p) ha hb (fun u v h=>by
  rw[hs,e];simp only[upd2,if_neg h])
 have h2:(s'.q a b).countP p+(if p m=true then 1 else 0)=(s.q a b).countP p:=by
  rw[hs,e,hq]
  simp only[upd2,and_self,if_true,List.countP_append,List.countP_cons]
  omega
 omega
theorem mQ_add(G:Gr)(p:NMsg→Bool){q:Nat→Nat→List NMsg}{a b:Nat}{m:NMsg}(ha:a<G.n)(hb:b<G.n)(s s':St)(hs:s.q=q)(hs':s'.q=addq q a b m):mQ G p s'=mQ G p s+(if p m=true then 1 else 0):=by
 unfold mQ
 have h1:=S2_one G.n (fun u v=>(s'.q u v).countP p) (fun u v=>(s.q u v).countP p) ha hb (fun u v h=>by
  rw[hs',hs];simp only[addq,upd2,if_neg h])
 have h2:(s'.q a b).countP p=(s.q a b).countP p+(if p m=true then 1 else 0):=by
  rw[hs',hs]
  simp only[addq,upd2,and_self,if_true,List.countP_append,List.countP_cons,List.countP_nil]
  omega
 omega
theorem adj_lt2{G:Gr}{u v:Nat}(h:G.adj u v):u<G.n∧v<G.n:=⟨G.lt _ _ h,G.lt _ _ (G.sym _ _ h)⟩
theorem q_lt{G:Gr}{s:St}{g:Gh}{h:Gs}(hI:Inv G s g h){u v:Nat}{A B:List NMsg}{m:NMsg}(hq:s.q u v=A++m::B):u<G.n∧v<G.n:=adj_lt2 (hI.q0 u v m (by rw[hq];simp)).1
theorem mem_sub{q:Nat→Nat→List NMsg}{a b:Nat}{A B:List NMsg}{m x:NMsg}(hq:q a b=A++m::B){u v:Nat}(h:x∈upd2 q a b (A++B) u v):x∈q u v:=by
 simp only[upd2]at h
 split at h
 ·rename_i e;rw[e.1,e.2,hq];simp at h⊢;rcases h with h|h
  ·exact Or.inl h
  ·exact Or.inr (Or.inr h)
 ·exact h
theorem mem_addq_ne{q:Nat→Nat→List NMsg}{a b:Nat}{m x:NMsg}(hne:x≠m){u v:Nat}(h:x∈addq q a b m u v):x∈q u v:=by
 simp only[addq,upd2]at h
 split at h
 ·rename_i e;rw[e.1,e.2];simp at h;rcases h with h|h
  ·exact h
  ·exact(hne h).elim
 ·exact h
theorem S2_lt1(n:Nat)(f g:Nat→Nat→Nat)(h:∀u v,u<n→v<n→f u v≤g u v){a b:Nat}(ha:a<n)(hb:b<n)(hab:f a b+1≤g a b):S2 n f+1≤S2 n g:=by
 have h1:=S2_one n g (fun u v=>if u=a∧v=b then f a b else g u v) ha hb (fun u v hn=>by simp only[if_neg hn])
 have h2:=S2_le n f (fun u v=>if u=a∧v=b then f a b else g u v) (fun u v hu hv=>by
  split
  ·rename_i e;rw[e.1,e.2];exact Nat.le_refl _
  ·exact h u v hu hv)
 simp only[and_self,if_true]at h1
 omega
theorem mD_le{G:Gr}{s s':St}(h:∀u v,u<G.n→v<G.n→s.se u v≠0→s.tst u≠some v→s'.se u v≠0∧s'.tst u≠some v):mD G s≤mD G s':=S2_le _ _ _ (fun u v hu hv=>by
 split
 ·rename_i e;rw[if_pos (h u v hu hv e.1 e.2)];exact Nat.le_refl _
 ·exact Nat.zero_le _)
theorem mD_lt{G:Gr}{s s':St}(h:∀u v,u<G.n→v<G.n→s.se u v≠0→s.tst u≠some v→s'.se u v≠0∧s'.tst u≠some v){a b:Nat}(ha:a<G.n)(hb:b<G.n)(h1:s.tst a=some b)(h2:s'.se a b≠0∧s'.tst a≠some b):mD G s+1≤mD G s':=by
 refine S2_lt1 _ _ _ (fun u v hu hv=>?_) ha hb ?_
 ·split
  ·rename_i e;rw[if_pos (h u v hu hv e.1 e.2)];exact Nat.le_refl _
  ·exact Nat.zero_le _
 ·rw[if_pos h2,if_neg (fun e=>e.2 h1)];omega
theorem mB_le{G:Gr}{s s':St}(h:∀u v,s.se u v=1→s'.se u v=1):mB G s≤mB G s':=S2_le _ _ _ (fun u v hu hv=>by
 split
 ·rename_i e;rw[if_pos (h u v e)];exact Nat.le_refl _
 ·exact Nat.zero_le _)
open Classical in
theorem mG_add(G:Gr)(h h':Gs)(y:Nat)(e:∀x,h'.tg x→x=y∨h.tg x):mG G h'≤mG G h+1:=by
 unfold mG
 by_cases hy:y<G.n
 ·have h1:=S1_one G.n (fun u=>if u=y then 1 else if h.tg u then 1 else 0) (fun u=>if h.tg u then 1 else 0) hy (fun u _ hu=>by simp only[if_neg hu])
  have h2:=S1_le G.n (fun u=>if h'.tg u then 1 else 0) (fun u=>if u=y then 1 else if h.tg u then 1 else 0) (fun u _=>by
   by_cases c:h'.tg u
   ·rw[if_pos c]
    rcases e u c with c2|c2
    ·rw[if_pos c2];exact Nat.le_refl _
    ·simp only[if_pos c2];split<;>exact Nat.le_refl _
   ·rw[if_neg c];exact Nat.zero_le _)
  simp only[if_true]at h1
  omega
 ·have h2:=S1_le G.n (fun u=>if h'.tg u then 1 else 0) (fun u=>if h.tg u then 1 else 0) (fun u hu=>by
   by_cases c:h'.tg u
   ·rw[if_pos c]
    rcases e u c with c2|c2
    ·omega
    ·rw[if_pos c2];exact Nat.le_refl _
   ·rw[if_neg c];exact Nat.zero_le _)
  omega
open Classical in
theorem mG_le(G:Gr)(h h':Gs)(e:∀x,h'.tg x→h.tg x):mG G h'≤mG G h:=S1_le G.n _ _ (fun u _=>by
 by_cases c:h'.tg u
 ·rw[if_pos c,if_pos (e u c)];exact Nat.le_refl _
 ·rw[if_neg c];exact Nat.zero_le _)
open Classical in
theorem mG_sub(G:Gr)(h h':Gs)(y:Nat)(hy:y<G.n)(ht:h.tg y)(e:∀x,h'.tg x→x≠y∧h.tg x):mG G h'+1≤mG G h:=by
 unfold mG
 have h1:=S1_one G.n (fun u=>if h.tg u then 1 else 0) (fun u=>if u=y then 0 else if h.tg u then 1 else 0) hy (fun u _ hu=>by simp only[if_neg hu])
 have h2:=S1_le G.n (fun u=>if h'.tg u then 1 else 0) (fun u=>if u=y then 0 else if h.tg u then 1 else 0) (fun u _=>by
  by_cases c:h'.tg u
  ·rw[if_pos c,if_neg (e u c).1,if_pos (e u c).2];exact Nat.le_refl _
  ·rw[if_neg c];exact Nat.zero_le _)
 simp only[if_true,if_pos ht]at h1
 omega
open Classical in
theorem mP_le(G:Gr)(h:Gs):mP G h≤G.n:=by
 have:=S1_le G.n (fun u=>if h.ps u then 1 else 0) (fun _=>1) (fun u _=>by split<;>omega)
 rw[S1_const]at this
 unfold mP
 omega
open Classical in
theorem mP_add(G:Gr)(h h':Gs)(y:Nat)(hy:y<G.n)(hn:¬h.ps y)(e:∀x,h'.ps x↔x=y∨h.ps x):mP G h'=mP G h+1:=by
 unfold mP
 have h1:=S1_one G.n (fun u=>if h'.ps u then 1 else 0) (fun u=>if h.ps u then 1 else 0) hy (fun u _ hu=>by
  by_cases c:h.ps u
  ·rw[if_pos c,if_pos ((e u).2 (Or.inr c))]
  ·rw[if_neg c,if_neg (fun x=>by rcases (e u).1 x with d|d;exact hu d;exact c d)])
 rw[if_neg hn,if_pos ((e y).2 (Or.inl rfl))]at h1
 omega
open Classical in
theorem mP_eq(G:Gr)(h h':Gs)(e:∀x,h'.ps x↔h.ps x):mP G h'=mP G h:=S1_eq G.n _ _ (fun u _=>by
 by_cases c:h.ps u
 ·rw[if_pos c,if_pos ((e u).2 c)]
 ·rw[if_neg c,if_neg (fun x=>c ((e u).1 x))])
theorem mL_upd{G:Gr}{s s':St}{y l:Nat}(hy:y<G.n)(e:s'.lev=upd s.lev y l):mL G s'+s.lev y=mL G s+l:=by
 unfold mL
 have:=S1_one G.n s'.lev s.lev hy (fun u _ hu=>by rw[e];simp only[upd,if_neg hu])
 rw[e]at this⊢
 simp only[upd_at]at this
 exact this
theorem mF_upd{G:Gr}{s s':St}{y:Nat}{f:Bool}(hy:y<G.n)(e:s'.fnd=upd s.fnd y f):mF G s'+(if s.fnd y=true then 1 else 0)=mF G s+(if f=true then 1 else 0):=by
 unfold mF
 have:=S1_one G.n (fun u=>if s'.fnd u=true then 1 else 0) (fun u=>if s.fnd u=true then 1 else 0) hy (fun u _ hu=>by rw[e];simp only[upd,if_neg hu])
 rw[e]at this⊢
 simp only[upd_at]at this
 exact this
end Go.Proofs.YtlfijfodklhplaaGreat.Ghs
