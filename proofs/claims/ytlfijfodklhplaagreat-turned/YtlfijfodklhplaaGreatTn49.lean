import Derived.Test.YtlfijfodklhplaaGreatTn48
import Derived.Test.YtlfijfodklhplaaGreatTn24
import Derived.Test.YtlfijfodklhplaaGreatTn43
import Derived.Test.YtlfijfodklhplaaGreatTn28
import Derived.Deep.DeepCutAuto
import Derived.Deep.CutBlock
set_option maxRecDepth 100000
set_option maxHeartbeats 4000000
set_option linter.unusedVariables false
set_option linter.unusedSimpArgs false
namespace Go.Proofs.YtlfijfodklhplaaGreat.Ghs.V
open Go.RowKit
open Ghs NMsg
theorem small_L{n:Nat}{L:List E3}(h:Simple n L)(h8:n≤8)(h1:1≤n)(hl:L.length≤25):Small (grL h):=by
 have hk:=krs_len h1 (L:=L) (fun e he=>⟨(h.ok e he).1,(h.ok e he).2.1⟩)
 have len2:∀l:List E3,(l.flatMap (fun e=>[(e.a,e.b),(e.b,e.a)])).length=2 * l.length:=by
  intro l
  induction l with
  |nil=>rfl
  |cons e l ih=>simp only[List.flatMap_cons,List.length_append,List.length_cons,List.length_nil,ih];omega
 refine⟨h8,h1,⟨((krs L).2).flatMap (fun e=>[(e.a,e.b),(e.b,e.a)]),fun u v hm=>?_,by rw[len2];omega⟩,L.flatMap (fun e=>[(e.a,e.b),(e.b,e.a)]),fun u v hm=>?_,by rw[len2];omega⟩
 ·rw[List.mem_flatMap]
  rcases hm with⟨e,he,hh⟩|⟨e,he,hh⟩
  ·rcases hh with⟨a,b⟩|⟨a,b⟩
   ·exact⟨e,he,by rw[a,b];simp⟩
   ·exact⟨e,he,by rw[a,b];simp⟩
  ·rcases hh with⟨a,b⟩|⟨a,b⟩
   ·exact⟨e,he,by rw[a,b];simp⟩
   ·exact⟨e,he,by rw[a,b];simp⟩
 ·obtain⟨e,he,hh⟩:=hm
  rw[List.mem_flatMap]
  rcases hh with⟨a,b⟩|⟨a,b⟩
  ·exact⟨e,he,by rw[a,b];simp⟩
  ·exact⟨e,he,by rw[a,b];simp⟩
theorem fresh_all{n:Nat}{L:List E3}(h:Simple n L)(hw:∀(u:Nat) (s:AS),(AN.fresh n (L.map ed3)).sps[u]?=some s→NWell s.n):AI (topL h) (AN.fresh n (L.map ed3)):=by
 have ho:=Ghs.AI.fresh h hw
 refine⟨ho.sf,ho.qt,fun _ _=>[],?_⟩
 refine LInv.start _ _ _ (fun u=>?_) (fun u j=>?_) rfl
 ·unfold lsOf
  dsimp only
  rw[fresh_sps]
  have hdg:(topL h).dg u=(own u L).length:=rfl
  by_cases hu:u<n
  ·rw[if_pos hu]
   show Nod.new (wts (ownE u (L.map ed3)))=_
   congr 1
   rw[own_ed3]
   apply List.ext_getElem?
   intro j
   unfold wts
   rw[List.getElem?_map,List.getElem?_map,List.getElem?_map,hdg]
   by_cases hj:j<(own u L).length
   ·rw[List.getElem?_range hj,List.getElem?_eq_getElem hj]
    simp only[Option.map_some,Option.some.injEq]
    rw[topL_nb h u j _ (List.getElem?_eq_getElem hj)]
    have:=(w_other h (List.getElem_mem hj)).1
    show (ed3 (own u L)[j]).wt.toNat=wOf L u (other u (own u L)[j])
    rw[this];rfl
   ·rw[List.getElem?_eq_none (by omega),List.getElem?_eq_none (by simp;omega)];rfl
  ·rw[if_neg hu]
   have:(own u L).length=0:=by
    rw[List.length_eq_zero_iff]
    apply List.eq_nil_iff_forall_not_mem.2
    intro e he
    obtain⟨h1,h2⟩:=own_mem.1 he
    have:=h.ok e h1
    omega
   rw[hdg,this];rfl
 ·unfold lsOf
  dsimp only
  rw[fresh_side h]
  split
  ·rename_i d hd
   split at hd
   ·cases hd;rfl
   ·cases hd
  ·rfl
theorem qt_nodes{A:AN}(h:Qt A)(u:Nat):((lsOf A).nodes u).sent=[]:=by
 unfold lsOf
 dsimp only
 cases hs:A.sps[u]? with
 |none=>rfl
 |some s=>exact h u s hs
theorem filter_full{α:Type}(p q:α→Bool):∀(l:List α),(∀x∈l,p x=true→q x=true)→(l.filter q).length≤(l.filter p).length→l.filter p=l.filter q
 |[],_,_=>rfl
 |x::l,h1,h2=>by
  have hle:(l.filter p).length≤(l.filter q).length:=by
   have:∀l:List α,(∀x∈l,p x=true→q x=true)→(l.filter p).length≤(l.filter q).length:=by
    intro l
    induction l with
    |nil=>intro _;simp
    |cons y l ih=>
     intro h
     have i1:=ih (fun x hx=>h x (by simp[hx]))
     have hy:=h y (by simp)
     by_cases c:p y=true
     ·simp[c,hy c];omega
     ·by_cases d:q y=true
      ·simp[c,d];omega
      ·simp[c,d];omega
   exact this l (fun y hy=>h1 y (by simp[hy]))
  have hx:=h1 x (by simp)
  by_cases c:p x=true
  ·simp only[List.filter_cons,c,hx c,if_true,List.length_cons]at h2⊢
   rw[filter_full p q l (fun y hy=>h1 y (by simp[hy])) (by omega)]
  ·by_cases d:q x=true
   ·simp only[List.filter_cons,c,d,if_true,List.length_cons]at h2
    simp at h2
    omega
   ·simp only[List.filter_cons,c,d]at h2⊢
    simp at h2⊢
    have:=filter_full p q l (fun y hy=>h1 y (by simp[hy])) h2
    exact this
theorem kr_sub:∀(M:List E3) (c:(Nat→Nat)×List E3),∃S,(M.foldl krOne c).2=c.2++S∧S.Sublist M
 |[],c=>⟨[],by simp,List.Sublist.slnil⟩
 |e::M,c=>by
  obtain⟨S,h1,h2⟩:=kr_sub M (krOne c e)
  by_cases hc:c.1 e.a=c.1 e.b
  ·have:krOne c e=c:=by unfold krOne;rw[if_pos hc]
   rw[this]at h1
   exact⟨S,by rw[List.foldl_cons,this];exact h1,h2.cons e⟩
  ·have:(krOne c e).2=c.2++[e]:=by unfold krOne;rw[if_neg hc]
   rw[this]at h1
   exact⟨e::S,by rw[List.foldl_cons,h1];simp,h2.cons_cons e⟩
open Classical in
theorem sub_filter{S L:List E3}(h:S.Sublist L):L.Nodup→S=L.filter (fun e=>decide (e∈S)):=by
 induction h with
 |slnil=>intro _;rfl
 | @cons S L a hs ih=>
  intro hn
  have h1:=List.nodup_cons.1 hn
  have ha:a∉S:=fun e=>h1.1 (hs.subset e)
  rw[List.filter_cons,if_neg (by simpa using ha)]
  exact ih h1.2
 | @cons_cons S L a hs ih=>
  intro hn
  have h1:=List.nodup_cons.1 hn
  rw[List.filter_cons,if_pos (by simp)]
  congr 1
  refine(ih h1.2).trans ?_
  refine List.filter_congr (fun x hx=>?_)
  have hxa:x≠a:=fun e=>h1.1 (e▸hx)
  simp[hxa]
theorem found_tree{n:Nat}{L:List E3}{h:Simple n L}{A:AN}{C:Nat}(hA:Ghs.AI (topL h) A C)(hes:A.es=L.map ed3)(h1:1≤n)(hw:n≤A.tree.length+1):A.tree=((krs L).2).map ed3:=by
 classical
 have hk:=krs_len h1 (L:=L) (fun e he=>⟨(h.ok e he).1,(h.ok e he).2.1⟩)
 have h3:A.tree=(L.filter (fun e=>A.branch e.a e.b||A.branch e.b e.a)).map ed3:=by
  unfold AN.tree
  rw[hes,List.filter_map]
  rfl
 have hnd:L.Nodup:=h.inc.imp (fun {a b} hab e=>by rw[e]at hab;exact Nat.lt_irrefl _ hab)
 obtain⟨S,s1,s2⟩:=kr_sub L (fun k=>k,[])
 have s3:(krs L).2=S:=by unfold krs;rw[s1];simp
 have s4:=sub_filter s2 hnd
 rw[←s3]at s4
 have hle:(L.filter (fun e=>decide (e∈(krs L).2))).length≤(L.filter (fun e=>A.branch e.a e.b||A.branch e.b e.a)).length:=by
  rw[←s4]
  rw[h3,List.length_map]at hw
  omega
 have h4:=filter_full (fun e=>A.branch e.a e.b||A.branch e.b e.a) (fun e=>decide (e∈(krs L).2)) L (fun x hx hb=>by
  rw[Bool.or_eq_true]at hb
  simpa using hA.edge hx hb) hle
 rw[h3,h4,←s4]
theorem found_all{n:Nat}{L:List E3}(h:Simple n L)(h8:n≤8)(h2:2≤n)(hl:L.length≤25)(hconn:∀S:Nat→Prop,S 0→(∀e∈L,S e.a↔S e.b)→∀k,k<n→S k){A:AN}(hA:AI (topL h) A)(hb:A.bag.length≤300)(hes:A.es=L.map ed3){z:Nat}(hz:z<n)(haw:((lsOf (stl n 400 A)).nodes z).state≠0):
 (stl n 400 A).tree=((krs L).2).map ed3∧∃a b l,a<n∧b<n∧a≠b∧1≤l∧l≤3∧(∃e∈(krs L).2,(e.a=a∧e.b=b)∨(e.a=b∧e.b=a))∧(∀x,x<n→(((lsOf (stl n 400 A)).nodes x).over=true↔x=a∨x=b))∧∀x,x<n→((lsOf (stl n 400 A)).nodes x).state=2∧((lsOf (stl n 400 A)).nodes x).level=l:=by
 have hG:=small_L h h8 (by omega) hl
 have hdg:∀u,(topL h).dg u≤30:=fun u=>by
  show (own u L).length≤30
  have:(own u L).length≤L.length:=List.length_filter_le _ _
  omega
 obtain⟨c1,c2⟩:=settled hG hdg hA hb
 have c1:Calm (topL h) (stl n 400 A):=c1
 have hconn2:∀S:Nat→Prop,S 0→(∀z v,(grL h).adj z v→(S z↔S v))→∀z,z<(grL h).n→S z:=fun S s0 hS k hk=>hconn S s0 (fun e he=>hS e.a e.b ⟨e,he,Or.inl ⟨rfl,rfl⟩⟩) k hk
 have hadj:∃v,(grL h).adj z v:=by
  apply Classical.byContradiction
  intro hno
  have key:=hconn (fun k=>k=z↔0=z) (by simp) (fun e he=>by
   have e1:e.a≠z:=fun c=>hno ⟨e.b,e,he,Or.inl ⟨c,rfl⟩⟩
   have e2:e.b≠z:=fun c=>hno ⟨e.a,e,he,Or.inr ⟨rfl,c⟩⟩
   simp[e1,e2])
  have k0:=key z hz
  have h0:0=z:=k0.1 rfl
  have k1:=key 1 (by omega)
  have:=k1.2 h0
  omega
 obtain⟨a,b,l,j,r1,r2,r3,r4,r5,r6,r7,r8,r9,r10⟩:=c1.rest (qt_nodes c1.ai.qt) hconn2 haw hadj
 have ho:=c1.ai.old hG hdg
 have hes2:(stl n 400 A).es=L.map ed3:=by
  have:(stl n 400 A).es=A.es:=c2
  rw[this];exact hes
 have hw:=ho.over hes2 hconn r1 r7
 refine⟨found_tree ho hes2 (by omega) hw,a,b,l,r1,r2,?_,r6,?_,?_,fun x hx=>⟨r9 x hx,fun e=>?_⟩,r10⟩
 ·intro e
  have:=(topL h).adj a j r3
  rw[r4,e]at this
  exact(grL h).irr _ this
 ·have:=ho.low h8 r1
  rw[(r10 a r1).2]at this
  exact this
 ·have hbr:=(ho.br r3).2 r5
  rw[r4]at hbr
  have hadj2:=(topL h).adj a j r3
  rw[r4]at hadj2
  obtain⟨e,he,hh⟩:=hadj2
  refine⟨e,ho.edge he ?_,hh⟩
  rcases hh with⟨x1,x2⟩|⟨x1,x2⟩
  ·left;rw[x1,x2];exact hbr
  ·right;rw[x1,x2];exact hbr
 ·rcases e with e|e
  ·rw[e];exact r7
  ·rw[e];exact r8
theorem b3_carry{A:AN}(h:A.bag.length≤300)(i j:Nat):(A.carry i j).bag.length≤300:=by
 unfold AN.carry
 split
 ·exact h
 ·rename_i d hd
  obtain⟨ext,e1,e2,e3,e4⟩:=adds_ext i d.1 d.2.out (A.modE i j En.outs)
  exact e3 h
theorem b3_sends(i:Nat):∀(l:List (Nat×Fr.Msg)) {A:AN},A.bag.length≤300→(A.sends i l).bag.length≤300
 |[],A,h=>h
 |c::l,A,h=>by
  show ((A.sendOne i c).sends i l).bag.length≤300
  exact b3_sends i l (b3_carry (A:=A.modE i c.1 (fun e=>e.try c.2)) h i c.1)
theorem b3_post{A:AN}(h:A.bag.length≤300)(i:Nat):(A.post i).bag.length≤300:=b3_sends i _ (A:=A.modN i (fun n=>{ n with sent:=[]})) h
theorem AI.ticks{G:Gr}{T:Top G}(hG:Small G)(hdg:∀u,T.dg u≤30){u:Nat}:∀(l:List Nat) {A:AN},AI T A→(∀j∈l,j<T.dg u)→AI T (l.foldl (fun A j=>A.tickOne u j) A)∧(l.foldl (fun A j=>A.tickOne u j) A).es=A.es∧(lsOf (l.foldl (fun A j=>A.tickOne u j) A)).nodes=(lsOf A).nodes
 |[],A,hA,_=>⟨hA,rfl,rfl⟩
 |j::l,A,hA,hl=>by
  have a1:=(tickOne_all hG hdg hA (hl j (by simp))).1
  obtain⟨b1,b2,b3⟩:=AI.ticks hG hdg l a1.ai (fun i hi=>hl i (by simp[hi]))
  exact⟨b1,b2.trans a1.es,b3.trans a1.nd⟩
theorem AI.tick{G:Gr}{T:Top G}(hG:Small G)(hdg:∀u,T.dg u≤30){A:AN}(hA:AI T A)(u:Nat):AI T (A.tick u)∧(A.tick u).es=A.es∧(lsOf (A.tick u)).nodes=(lsOf A).nodes:=by
 unfold AN.tick AN.ticks
 refine AI.ticks hG hdg _ hA (fun j hj=>?_)
 have hj':=List.mem_range.1 hj
 cases hs:A.sps[u]? with
 |none=>rw[hs]at hj';exact absurd hj' (Nat.not_lt_zero _)
 |some s=>
  rw[hs]at hj'
  exact(hA.sf.lt (d:=s.ss[j]'hj') (by rw[side_at,hs];exact List.getElem?_eq_getElem hj')).1
end Go.Proofs.YtlfijfodklhplaaGreat.Ghs.V
namespace Go.Proofs.YtlfijfodklhplaaGreat
open Go.RowKit
structure Ste{G:Ghs.Gr}(T:Ghs.Top G)(w wx:World)(N0 N:Nt):Prop where
 ok:NtOk wx N 90
 tn:NtTo w wx N0 N
 way:N.way=N0.way
 ai:Ghs.V.AI T N.abs
theorem low_ok{G:Ghs.Gr}{T:Ghs.Top G}(hdg:∀u,T.dg u≤30){w:World}{N:Nt}{B:Nat}(h:NtOk w N B)(hA:Ghs.V.AI T N.abs):NtOk w N 90:=by
 refine⟨h.rep,⟨h.ok.few,fun i s hs=>?_,h.ok.out,h.ok.kept,h.ok.bag,h.ok.pk,h.ok.sym⟩,h.st,h.es,h.some_⟩
 obtain⟨a,b,c⟩:=h.ok.well i s hs
 obtain⟨H,hI⟩:=hA.inv
 obtain⟨chan,n1,_⟩:=hI.net
 have h1:=n1.offs_few i
 rw[Ghs.nodes_at hs]at h1
 have:=hdg i
 exact⟨a,b,by omega⟩
theorem Ste.keepN{G:Ghs.Gr}{T:Ghs.Top G}{w wx w1:World}{N0 N:Nt}(h:Ste T w wx N0 N)(k:Keep nil wx w1):Ste T w w1 N0 N:=⟨h.ok.keepN k,h.tn.trans (NtTo.of_keep N k),h.way,h.ai⟩
theorem Ste.next{G:Ghs.Gr}{T:Ghs.Top G}(hdg:∀u,T.dg u≤30){w wx w1:World}{N0 N N':Nt}{B:Nat}(h:Ste T w wx N0 N)(r:NtR w1 N')(t:NtTo wx w1 N N')(wy:N'.way=N.way)(o:AOk N'.abs B)(st:ASt N'.abs)(ai:Ghs.V.AI T N'.abs):Ste T w w1 N0 N':=
 ⟨low_ok hdg ⟨r,o,st,es_to h.ok.es t,by rw[t.len];exact h.ok.some_⟩ ai,h.tn.trans t,wy.trans h.way,ai⟩
theorem Ste.deliver{G:Ghs.Gr}{T:Ghs.Top G}(hG:Ghs.V.Small G)(hdg:∀u,T.dg u≤30){w wx:World}{N0 N:Nt}(h:Ste T w wx N0 N)(hb:N.abs.bag≠[]):
 Calls Tryz.prog 32 #[.pointer (some ⟨N0.nb,0,none⟩),.int .i64 0] wx fun r w'=>∃v,r=.returned v∧v=.int .i64 0∧∃N',Ste T w w' N0 N'∧N'.abs=N.abs.deliver 0:=by
 have hl:0<N.L.length:=by
  rw[←NtR.abs_len.1]
  exact List.length_pos_iff.2 hb
 have h1:=adeliver (R:=fun v w'=>v=.int .i64 0∧∃N',Ste T w w' N0 N'∧N'.abs=N.abs.deliver 0) N.nb ((0:Nat):Int) wx ((mdeliver_yes N 0 _ 90 wx h.ok.rep (List.getElem?_eq_getElem hl) h.ok.ok h.ok.st (by omega)).mono (by
  rintro r w' ⟨rfl,N',b1,b2,b3,b4,b5,b6⟩
  refine⟨_,rfl,rfl,N',h.next hdg b1 b3 b4 b5 b6 ?_,b2⟩
  rw[b2]
  exact(h.ai.deliver hG hdg h.ok.ok.bag 0).1))
 rw[h.tn.nb]at h1
 exact h1
theorem Ste.nothing{G:Ghs.Gr}{T:Ghs.Top G}{w wx:World}{N0 N:Nt}(h:Ste T w wx N0 N)(hb:N.abs.bag=[]):
 Calls Tryz.prog 32 #[.pointer (some ⟨N0.nb,0,none⟩),.int .i64 0] wx fun r w'=>∃v,r=.returned v∧v=.int .i64 7∧Ste T w w' N0 N:=by
 have hl:N.L.length=0:=by rw[←NtR.abs_len.1,hb];rfl
 have h1:=adeliver (R:=fun v w'=>v=.int .i64 7∧Ste T w w' N0 N) N.nb 0 wx ((mdeliver_no N 0 wx h.ok.rep (by omega)).mono (by
  rintro r w' ⟨rfl,k⟩
  exact⟨_,rfl,rfl,h.keepN k⟩))
 rw[h.tn.nb]at h1
 exact h1
theorem Ste.tick{G:Ghs.Gr}{T:Ghs.Top G}(hG:Ghs.V.Small G)(hdg:∀u,T.dg u≤30){w wx:World}{N0 N:Nt}(h:Ste T w wx N0 N){k:Nat}(hk:k<N0.sps.length):
 Calls Tryz.prog 33 #[.pointer (some ⟨N0.nb,0,none⟩),.int .i64 (k:Int)] wx fun r w'=>∃v,r=.returned v∧v=.int .i64 0∧∃N',Ste T w w' N0 N'∧N'.abs=N.abs.tick k:=by
 have hl:k<N.sps.length:=by rw[h.tn.len];exact hk
 have h1:=atick (R:=fun v w'=>v=.int .i64 0∧∃N',Ste T w w' N0 N'∧N'.abs=N.abs.tick k) N.nb (k:Int) wx ((mtick_any N k _ 90 wx h.ok.rep (List.getElem?_eq_getElem hl) h.ok.ok h.ok.st).mono (by
  rintro r w' ⟨rfl,N',b1,b2,b3,b4,b5,b6⟩
  refine⟨_,rfl,rfl,N',h.next hdg b1 b3 b4 b5 b6 ?_,b2⟩
  rw[b2]
  exact(h.ai.tick hG hdg k).1))
 rw[h.tn.nb]at h1
 exact h1
theorem Ste.packets{G:Ghs.Gr}{T:Ghs.Top G}{w wx:World}{N0 N:Nt}(h:Ste T w wx N0 N):
 Calls Tryz.prog 24 #[.pointer (some ⟨N0.nb,0,none⟩)] wx fun r w'=>∃v,r=.returned v∧∃a c,v=.slice a N.abs.bag.length c∧Ste T w w' N0 N:=by
 have h1:=apackets (R:=fun v w'=>∃a c,v=.slice a N.abs.bag.length c∧Ste T w w' N0 N) N.nb wx ((mpackets_any N 90 wx h.ok.rep h.ok.ok).mono (by
  rintro r w2 ⟨T',a,c,rfl,ht⟩
  have e:T'.length=N.abs.bag.length:=by have:=congrArg List.length ht.same;rw[NtR.abs_len.1];simpa using this
  exact⟨_,rfl,a,c,by rw[e],h.keepN ht.keep⟩))
 rw[h.tn.nb]at h1
 exact h1
theorem tickAll_succ(n:Nat)(A:AN):Ghs.V.tickAll (n+1) A=(Ghs.V.tickAll n A).tick n:=by
 unfold Ghs.V.tickAll
 rw[List.range_succ,List.foldl_append]
 rfl
theorem settle_any{G:Ghs.Gr}{T:Ghs.Top G}(hG:Ghs.V.Small G)(hdg:∀u,T.dg u≤30)(N0:Nt)(w:World)(h:NtOk w N0 90)(hA:Ghs.V.AI T N0.abs):
 Calls Tryz.prog 16 #[.pointer (some ⟨N0.nb,0,none⟩),.int .i64 (N0.sps.length:Int)] w fun r w'=>r=.returned (.tuple #[])∧∃N,Ste T w w' N0 N∧N.abs=Ghs.V.stl N0.sps.length 400 N0.abs:=by
 have H0:Unit→Ste T w w N0 N0:=fun _=>⟨h,NtTo.refl w N0,rfl,hA⟩
 have HG:Unit→Ghs.V.Small G∧∀u,T.dg u≤30:=fun _=>⟨hG,hdg⟩
 have hn9:(N0.sps.length:Int)≤1000:=by have:=h.ok.few;rw[NtR.abs_len.2]at this;omega
 obtain⟨nb,hnb⟩:∃nb,nb=N0.nb:=⟨_,rfl⟩
 have HNB:Unit→N0.nb=nb:=fun _=>hnb.symm
 obtain⟨nn,hnn⟩:∃nn,nn=N0.sps.length:=⟨_,rfl⟩
 have HNN:Unit→N0.sps.length=nn:=fun _=>hnn.symm
 rw[←hnn]at hn9
 rw[←hnb,←hnn]
 clear h hA hG hdg hnb hnn
 go_enter Tryz.func16,Tryz.ntmps16
 go_wp2_with fail
 go_loopw [4] (fun v wx=>∃(r:Nat) (N:Nt),r≤400∧v=.int .i64 (r:Int)∧Ste T w wx N0 N∧Ghs.V.stl nn (400 - r) N.abs=Ghs.V.stl nn 400 N0.abs) (fun v _=>400 - (intOf v).toNat)
 case atStart=>exact⟨0,N0,Nat.zero_le _,rfl,H0 (),rfl⟩
 case round=>
  clear H0
  obtain⟨r,N,hr,rfl,hs,hst⟩:=hrel
  have HQ:Unit→Ste T w wr N0 N∧Ghs.V.stl nn (400 - r) N.abs=Ghs.V.stl nn 400 N0.abs:=fun _=>⟨hs,hst⟩
  clear hs hst
  by_cases hrl:r<400
  ·have hrI:(r:Int)<400:=by omega
   have HRL:Unit→r<400:=fun _=>hrl
   clear hr hrl
   go_upto_block 2 with fail
   go_cut [] (fun wx=>∃N1,Ste T w wx N0 N1∧N1.abs=Ghs.V.dls 3000 N.abs)
   case first=>
    go_wp2_with fail
    go_loopw [5] (fun v wx=>∃(i:Nat) (N1:Nt),(i:Int)≤3000∧v=.int .i64 (i:Int)∧Ste T w wx N0 N1∧Ghs.V.dls (3000 - i) N1.abs=Ghs.V.dls 3000 N.abs) (fun v _=>3000 - (intOf v).toNat)
    case atStart=>exact⟨0,N,by omega,rfl,(HQ ()).1,rfl⟩
    case round=>
     obtain⟨i,N1,hi,rfl,hs,hd⟩:=hrel
     have H1:Unit→Ste T w wr N0 N1∧Ghs.V.dls (3000 - i) N1.abs=Ghs.V.dls 3000 N.abs:=fun _=>⟨hs,hd⟩
     clear hs hd
     by_cases hil:(i:Int)<3000
     ·have HIL:Unit→(i:Int)<3000:=fun _=>hil
      clear hi
      by_cases hb:N1.abs.bag=[]
      ·have HB:Unit→N1.abs.bag=[]:=fun _=>hb
       have HC:Unit→_:=fun _=>(H1 ()).1.nothing (HB ())
       rw[HNB ()]at HC
       clear hb
       go_wp2_with fail
       refine Calls.mono (HC ()) ?_
       rintro q w1 ⟨v,rfl,rfl,h1⟩
       have H2:Unit→Ste T w w1 N0 N1:=fun _=>h1
       clear h1 HC
       go_wp2
       go_meet
       case rel=>exact⟨N1,H2 (),by rw[←(H1 ()).2,Ghs.V.dls_nil _ (HB ())]⟩
      ·have HB:Unit→N1.abs.bag≠[]:=fun _=>hb
       have HC:Unit→_:=fun _=>(H1 ()).1.deliver (HG ()).1 (HG ()).2 (HB ())
       rw[HNB ()]at HC
       clear hb
       go_wp2_with fail
       refine Calls.mono (HC ()) ?_
       rintro q w1 ⟨v,rfl,rfl,N2,h1,h2⟩
       have H2:Unit→Ste T w w1 N0 N2∧N2.abs=N1.abs.deliver 0:=fun _=>⟨h1,h2⟩
       clear h1 h2 HC
       go_wp2
       refine⟨⟨i+1,N2,by have:=HIL ();omega,by go_num,(H2 ()).1,?_⟩,by have:=HIL ();simp[intOf];omega⟩
       rw[(H2 ()).2,←(H1 ()).2]
       cases hx:N1.abs.bag with
       |nil=>exact(HB () hx).elim
       |cons x t=>
        have e:3000 - i=(3000 - (i+1))+1:=by have:=HIL ();omega
        rw[e,Ghs.V.dls_cons _ hx]
     ·have hie:i=3000:=by omega
      subst hie
      rw[show ((3000:Nat):Int)=3000 from rfl]
      clear hi hil
      go_wp2
      go_meet
      case rel=>exact⟨N1,(H1 ()).1,(H1 ()).2⟩
   case rest=>
    obtain⟨N1,hs1,hd1⟩:=hcut
    have H1:Unit→Ste T w wc N0 N1∧N1.abs=Ghs.V.dls 3000 N.abs:=fun _=>⟨hs1,hd1⟩
    clear hs1 hd1
    go_wp2_with fail
    go_loopw [7] (fun v wx=>∃(i:Nat) (N2:Nt),i≤nn∧v=.int .i64 (i:Int)∧Ste T w wx N0 N2∧N2.abs=Ghs.V.tickAll i (Ghs.V.dls 3000 N.abs)) (fun v _=>nn - (intOf v).toNat)
    case atStart=>exact⟨0,N1,Nat.zero_le _,rfl,(H1 ()).1,(H1 ()).2⟩
    case round=>
     clear H1 N1
     obtain⟨i,N2,hi,rfl,hs,hd⟩:=hrel
     have H2:Unit→Ste T w wr N0 N2∧N2.abs=Ghs.V.tickAll i (Ghs.V.dls 3000 N.abs):=fun _=>⟨hs,hd⟩
     clear hs hd
     by_cases hil:i<nn
     ·--@P tk
      have hiI:(i:Int)<(nn:Int):=by omega
      have HIL:Unit→i<nn:=fun _=>hil
      have HC:Unit→_:=fun _=>(H2 ()).1.tick (HG ()).1 (HG ()).2 (k:=i) (by rw[HNN ()];exact HIL ())
      rw[HNB ()]at HC
      clear hi hil
      go_wp2_with fail
      refine Calls.mono (HC ()) ?_
      rintro q w1 ⟨v,rfl,rfl,N3,h1,h2⟩
      have H3:Unit→Ste T w w1 N0 N3∧N3.abs=N2.abs.tick i:=fun _=>⟨h1,h2⟩
      clear h1 h2 HC
      go_wp2
      refine⟨⟨i+1,N3,by have:=HIL ();omega,by go_num,(H3 ()).1,?_⟩,by have:=HIL ();simp[intOf];omega⟩
      rw[(H3 ()).2,(H2 ()).2,tickAll_succ]
     ·--@P pk
      have hiI:¬((i:Int)<(nn:Int)):=by omega
      have hie:i=nn:=by omega
      have H3:Unit→Ste T w wr N0 N2∧N2.abs=Ghs.V.tickAll nn (Ghs.V.dls 3000 N.abs):=fun _=>by rw[←hie];exact H2 ()
      clear H2 hi hil hie
      have HC:Unit→_:=fun _=>(H3 ()).1.packets
      rw[HNB ()]at HC
      go_wp2_with fail
      refine Calls.mono (HC ()) ?_
      rintro q w1 ⟨v,rfl,a,c,rfl,h1⟩
      have H4:Unit→Ste T w w1 N0 N2:=fun _=>h1
      clear h1 HC
      have hst:Ghs.V.stl nn (400 - r) N.abs=if N2.abs.bag.length=0 then N2.abs else Ghs.V.stl nn (399 - r) N2.abs:=by
       have e:400 - r=(399 - r)+1:=by have:=HRL ();omega
       rw[e,(H3 ()).2]
       rfl
      have HST:Unit→Ghs.V.stl nn (400 - r) N.abs=if N2.abs.bag.length=0 then N2.abs else Ghs.V.stl nn (399 - r) N2.abs:=fun _=>hst
      clear hst
      by_cases hb:N2.abs.bag.length=0
      ·have HB:Unit→N2.abs.bag.length=0:=fun _=>hb
       rw[hb]
       clear hb
       go_wp2
       refine bodyPost_ret (results_none rfl _ _ _) rfl ?_
       exact⟨rfl,N2,H4 (),by rw[←(HQ ()).2,HST (),if_pos (HB ())]⟩
      ·have HB:Unit→¬N2.abs.bag.length=0:=fun _=>hb
       obtain⟨bl,hbl⟩:∃bl,bl=N2.abs.bag.length:=⟨_,rfl⟩
       rw[←hbl]
       have hbI:¬((bl:Int)=0):=by omega
       clear hb hbl
       go_wp2
       refine⟨⟨r+1,N2,by have:=HRL ();omega,by go_num,H4 (),?_⟩,by have:=HRL ();simp[intOf];omega⟩
       rw[←(HQ ()).2,HST (),if_neg (HB ())]
       have e:400 - (r+1)=399 - r:=by omega
       rw[e]
  ·have hre:r=400:=by omega
   subst hre
   rw[show ((400:Nat):Int)=400 from rfl]
   clear hr hrl
   go_wp2
   go_end0
   exact⟨rfl,N,(HQ ()).1,(HQ ()).2⟩
def nks(N:Nat)(f:Nat→Nat):Array Value:=((List.range N).map (fun i=>Value.int .i64 (f i:Int))).toArray
theorem nks_get{N:Nat}{f:Nat→Nat}{k:Nat}(hk:k<N):(nks N f)[k]?=some (.int .i64 (f k:Int)):=by
 unfold nks
 simp[hk]
theorem nks_ext{N:Nat}{f g:Nat→Nat}(h:∀k,k<N→f k=g k):nks N f=nks N g:=by
 unfold nks
 congr 1
 refine List.map_congr_left (fun k hk=>?_)
 rw[h k (List.mem_range.1 hk)]
theorem nks_set{N:Nat}{f:Nat→Nat}{k:Nat}(v:Nat):(nks N f).setIfInBounds k (.int .i64 (v:Int))=nks N (fun i=>if i=k then v else f i):=by
 unfold nks
 apply Array.ext
 ·simp
 ·intro i h1 h2
  simp[List.getElem_set]
  by_cases e:k=i
  ·subst e;simp
  ·simp[e,Ne.symm e]
theorem mk_ints(N:Nat)(w:World)(h1:1≤N)(h2:N≤8):(Instr.makeSlice 25 (.int .i64 (N:Int)) (.int .i64 (N:Int))).run Tryz.prog w=.ok (.slice (some ⟨w.heap.size,0,none⟩) N N) (w.alloc (.cells (nks N (fun _=>0)) 3)):=by
 obtain rfl|rfl|rfl|rfl|rfl|rfl|rfl|rfl:N=1∨N=2∨N=3∨N=4∨N=5∨N=6∨N=7∨N=8:=by omega
 all_goals
  clear h1 h2
  kernel_rfl
structure LgS(w wx:World)(g N:Nat)(f:Nat→Nat)(F:List Ed)(a:Option Addr)(c:Nat):Prop where
 blk:Blk wx g (nks N f) 3
 new:w.heap.size≤g
 tre:Tre w wx F a c
 far:¬inB a g
theorem LgS.keepN{w wx w1:World}{g N:Nat}{f:Nat→Nat}{F:List Ed}{a:Option Addr}{c:Nat}(h:LgS w wx g N f F a c)(k:Keep nil wx w1):LgS w w1 g N f F a c:=⟨h.blk.keep k id,h.new,h.tre.keepN k,h.far⟩
theorem LgS.set{w wx:World}{g N:Nat}{f:Nat→Nat}{F:List Ed}{a:Option Addr}{c:Nat}(h:LgS w wx g N f F a c)(k v:Nat):LgS w (wx.setCell ⟨g,k,none⟩ (.int .i64 (v:Int))) g N (fun i=>if i=k then v else f i) F a c:=by
 have ks:Keep (only g) wx (wx.setCell ⟨g,k,none⟩ (.int .i64 (v:Int))):=(Keep.refl (only g) wx).setCell (p:=⟨g,k,none⟩) (fun _=>rfl) _
 refine⟨?_,h.new,⟨h.tre.keep.trans' ks (fun i hi e=>by simp only[only]at e;have:=h.new;omega),h.tre.row.keep ks (fun i hi e=>by simp only[only]at e;exact h.far (e▸hi)),h.tre.new⟩,h.far⟩
 have:=h.blk.set k (.int .i64 (v:Int))
 rwa [nks_set]at this
theorem LgS.next{w wr w6:World}{g N:Nat}{f:Nat→Nat}{F:List Ed}{a a':Option Addr}{c c':Nat}(h:LgS w wr g N f F a c)(x:Ed){o:Obj}(hb:RV w6 30 3 a' (F.length+1) c' (ecells F++[.int .i64 x.a,.int .i64 x.b,.int .i64 x.wt]))(hd:(a'=a∧c'=c)∨(a'=some ⟨(wr.alloc o).heap.size,0,none⟩∧Keep nil (wr.alloc o) w6))(hk:Keep (inB a) wr w6):LgS w w6 g N f (F++[x]) a' c':=by
 refine⟨h.blk.keep hk h.far,h.new,h.tre.next x (Keep.refl nil wr) hb hd hk,?_⟩
 rcases hd with⟨rfl,_⟩|⟨rfl,_⟩
 ·exact h.far
 ·intro e
  have h1:=h.blk.lt
  have h2:=inB_some.1 e
  simp only[World.size_alloc]at h2
  omega
theorem LgS.ext{w wx:World}{g N:Nat}{f f':Nat→Nat}{F:List Ed}{a:Option Addr}{c:Nat}(h:LgS w wx g N f F a c)(e:∀k,k<N→f k=f' k):LgS w wx g N f' F a c:=⟨by rw[←nks_ext e];exact h.blk,h.new,h.tre,h.far⟩
def lgW(M:List Ghs.E3)(V:Nat):(Nat→Nat)×List Ghs.E3:=(List.range' 1 V).foldl (fun c w=>M.foldl (fun c e=>if e.w=w then Ghs.krOne c e else c) c) (fun k=>k,[])
def lgI(M:List Ghs.E3)(V i:Nat):(Nat→Nat)×List Ghs.E3:=(M.take i).foldl (fun c e=>if e.w=V+1 then Ghs.krOne c e else c) (lgW M V)
theorem lgW_succ(M:List Ghs.E3)(V:Nat):lgW M (V+1)=lgI M V M.length:=by
 unfold lgI
 rw[List.take_length]
 unfold lgW
 rw[List.range'_concat,List.foldl_append]
 simp only[List.foldl_cons,List.foldl_nil,Nat.one_mul,Nat.add_comm 1 V]
theorem lgI_succ{M:List Ghs.E3}(V:Nat){i:Nat}{e:Ghs.E3}(h:M[i]?=some e):lgI M V (i+1)=if e.w=V+1 then Ghs.krOne (lgI M V i) e else lgI M V i:=by
 unfold lgI
 rw[take_succ_get h,List.foldl_append]
 rfl
theorem krOne_len(c:(Nat→Nat)×List Ghs.E3)(e:Ghs.E3):(Ghs.krOne c e).2.length≤c.2.length+1:=by
 unfold Ghs.krOne;split<;>simp
theorem lgI_len{M:List Ghs.E3}(hl:M.length≤25):∀V,(lgW M V).2.length≤V * 25∧∀i,i≤M.length→(lgI M V i).2.length≤V * 25+i:=by
 have key:∀V,(lgW M V).2.length≤V * 25→∀i,i≤M.length→(lgI M V i).2.length≤V * 25+i:=fun V h i=>by
  induction i with
  |zero=>intro _;unfold lgI;simp;exact h
  |succ i ih=>
   intro hi
   have hg:M[i]?=some M[i]:=List.getElem?_eq_getElem (by omega)
   rw[lgI_succ V hg]
   have:=ih (by omega)
   split
   ·have:=krOne_len (lgI M V i) M[i];omega
   ·omega
 intro V
 induction V with
 |zero=>exact⟨by simp[lgW],key 0 (by simp[lgW])⟩
 |succ V ih=>
  have h1:(lgW M (V+1)).2.length≤(V+1) * 25:=by
   rw[lgW_succ]
   have:=ih.2 M.length (Nat.le_refl _)
   omega
  exact⟨h1,key _ h1⟩
theorem lgW_all(M:List Ghs.E3):lgW M 1000=Ghs.krs (Ghs.inOrder M):=Ghs.krs_loops M
theorem klight_more(n:Nat)(M:List Ghs.E3)(sa:Option Addr)(sc:Nat)(w:World)(hr:RV w 30 3 sa M.length sc (ecells (M.map Ghs.ed3)))(h1:1≤n)(h8:n≤8)(hl:M.length≤25)(hM:∀e∈M,e.a<n∧e.b<n∧1≤e.w∧e.w≤1000):
 Calls Tryz.prog 18 #[.int .i64 (n:Int),.slice sa M.length sc] w fun r w'=>∃a c,r=.returned (.slice a (Ghs.krs (Ghs.inOrder M)).2.length c)∧Tre w w' ((Ghs.krs (Ghs.inOrder M)).2.map Ghs.ed3) a c:=by
 rw[←lgW_all]
 have H:Unit→RV w 30 3 sa M.length sc (ecells (M.map Ghs.ed3))∧1≤n∧n≤8∧M.length≤25∧∀e∈M,e.a<n∧e.b<n∧1≤e.w∧e.w≤1000:=fun _=>⟨hr,h1,h8,hl,hM⟩
 have hmk:=fun w=>mk_ints n w h1 h8
 have hn1:(0:Int)<(n:Int):=by omega
 have hn8:(n:Int)≤8:=by omega
 obtain⟨ml,hml⟩:∃ml,ml=M.length:=⟨_,rfl⟩
 have HML:Unit→ml=M.length∧ml≤25:=fun _=>⟨hml,by omega⟩
 rw[←hml]
 clear hr h1 h8 hl hM hml
 go_enter Tryz.func18,Tryz.ntmps18
 go_wp2_with fail
 obtain⟨W1,hW1⟩:∃W1,W1=w.alloc (.cells (nks n (fun _=>0)) 3):=⟨_,rfl⟩
 obtain⟨g,hg⟩:∃g,g=w.heap.size:=⟨_,rfl⟩
 rw[←hW1,←hg]
 have H1:Unit→LgS w W1 g n (fun _=>0) [] none 0:=fun _=>by
  rw[hW1,hg]
  exact⟨Blk.new _ _ _,Nat.le_refl _,⟨(Keep.refl nil w).alloc _,RV.nil _ _ _,fun g hg=>(inB_none g hg).elim⟩,fun e=>inB_none _ e⟩
 clear hW1 hg hmk
 go_loopw [6] (fun v wx=>∃i:Nat,i≤n∧v=.int .i64 (i:Int)∧LgS w wx g n (fun k=>if k<i then k else 0) [] none 0) (fun v _=>n - (intOf v).toNat)
 case atStart=>exact⟨0,Nat.zero_le _,rfl,(H1 ()).ext (fun k _=>by simp)⟩
 case round=>
  clear H1
  obtain⟨i,hi,rfl,hs⟩:=hrel
  have HS:Unit→LgS w wr g n (fun k=>if k<i then k else 0) [] none 0:=fun _=>hs
  by_cases hil:i<n
  ·have z1:=hs.blk.cell i
   rw[nks_get hil]at z1
   have zf:=hs.blk.frozen i
   have hgl:=hs.blk.lt
   have hiI:(i:Int)<(n:Int):=by omega
   have HIL:Unit→i<n:=fun _=>hil
   clear hs hi hil
   go_wp2_with fail
   refine⟨⟨i+1,by have:=HIL ();omega,by go_num,((HS ()).set i i).ext (fun k hk=>?_)⟩,by have:=HIL ();simp[intOf];omega⟩
   by_cases e:k=i
   ·subst e;simp
   ·by_cases e2:k<i
    ·simp[e,e2];omega
    ·simp[e,e2];omega
  ·have hiI:¬((i:Int)<(n:Int)):=by omega
   have HS2:Unit→LgS w wr g n (lgW M 0).1 ((lgW M 0).2.map Ghs.ed3) none 0:=fun _=>hs.ext (fun k hk=>by rw[if_pos (by omega)];rfl)
   clear hs hi hil HS
   go_wp2_with fail
   go_loopw [7,8] (fun u v wx=>∃(V:Nat) (a:Option Addr) (c:Nat),(V:Int)≤1000∧v=.int .i64 ((V:Int)+1)∧u=.slice a (lgW M V).2.length c∧LgS w wx g n (lgW M V).1 ((lgW M V).2.map Ghs.ed3) a c) (fun _ v _=>1001 - (intOf v).toNat)
   case atStart=>exact⟨0,none,0,by omega,rfl,rfl,HS2 ()⟩
   case round=>
    clear HS2
    obtain⟨V,a,c,hV,rfl,rfl,hs⟩:=hrel
    by_cases hVl:(V:Int)<1000
    ·--@P w
     have HS:Unit→LgS w wr g n (lgI M V 0).1 ((lgI M V 0).2.map Ghs.ed3) a c:=fun _=>hs
     have hV1:(V:Int)+1≤1000:=by omega
     have e0:(lgW M V).2.length=(lgI M V 0).2.length:=rfl
     rw[e0]
     have hVw:IntKind.i64.wrap ((V:Int)+1+1)=(V:Int)+1+1:=by rw[IntKind.wrap_i64];omega
     clear hs hV e0
     go_wp2_with fail
     go_loopw [7,9] (fun u v wx=>∃(i:Nat) (a:Option Addr) (c:Nat),i≤ml∧v=.int .i64 (i:Int)∧u=.slice a (lgI M V i).2.length c∧LgS w wx g n (lgI M V i).1 ((lgI M V i).2.map Ghs.ed3) a c) (fun _ v _=>ml - (intOf v).toNat)
     case atStart=>exact⟨0,a,c,Nat.zero_le _,rfl,rfl,HS ()⟩
     case round=>
      clear HS
      obtain⟨i,a,c,hi,rfl,rfl,hs⟩:=hrel
      have HS:Unit→LgS w wr g n (lgI M V i).1 ((lgI M V i).2.map Ghs.ed3) a c:=fun _=>hs
      by_cases hil:i<ml
      ·--@P i
       obtain⟨e,he⟩:∃e,M[i]?=some e:=⟨_,List.getElem?_eq_getElem (by have:=HML ();omega)⟩
       have HE:Unit→M[i]?=some e∧i<ml:=fun _=>⟨he,hil⟩
       have hin:=(H ()).2.2.2.2 e (List.mem_of_getElem? he)
       have hmt:(M.map Ghs.ed3)[i]?=some (Ghs.ed3 e):=by rw[List.getElem?_map,he];rfl
       obtain⟨b,q,hba,hbl,e0,e1,e2⟩:=edge_at ((H ()).1.keep hs.tre.keep (fun _ _ e=>e)) hmt (by have:=HML ();omega)
       have z1:=hs.blk.cell e.a
       have z2:=hs.blk.cell e.b
       rw[nks_get hin.1]at z1
       rw[nks_get hin.2.1]at z2
       have hgl:=hs.blk.lt
       have hiI:(i:Int)<(ml:Int):=by omega
       have hi9:(i:Int)<25:=by have:=HML ();omega
       obtain⟨f,hf⟩:∃f,f=(lgI M V i).1:=⟨_,rfl⟩
       obtain⟨F,hF⟩:∃F,F=(lgI M V i).2:=⟨_,rfl⟩
       have HSC:Unit→lgI M V (i+1)=if e.w=V+1 then Ghs.krOne (f,F) e else (f,F):=fun _=>by rw[lgI_succ V (HE ()).1,hf,hF]
       have HFL:Unit→F.length≤25025:=fun _=>by
        have:=(lgI_len (H ()).2.2.2.1 V).2 i (by have:=HML ();omega)
        have:=HML ()
        rw[hF]
        omega
       rw[←hf,←hF]at HS
       rw[←hf]at z1 z2
       rw[←hF]
       clear hf hF
       obtain⟨x,y,z⟩:=e
       simp only[Ghs.ed3]at e0 e1 e2 z1 z2 hin
       have hxI:(x:Int)<(n:Int):=by omega
       have hyI:(y:Int)<(n:Int):=by omega
       subst hba
       clear hs hi hil he hmt hin
       obtain⟨fx,hfx⟩:∃fx,fx=f x:=⟨_,rfl⟩
       obtain⟨fy,hfy⟩:∃fy,fy=f y:=⟨_,rfl⟩
       have HF:Unit→fx=f x∧fy=f y:=fun _=>⟨hfx,hfy⟩
       rw[←hfx]at z1
       rw[←hfy]at z2
       clear hfx hfy
       obtain⟨fl,hfl⟩:∃fl,fl=F.length:=⟨_,rfl⟩
       have HFF:Unit→fl=F.length:=fun _=>hfl
       rw[←hfl]
       clear hfl
       go_wp2_with fail
       obtain⟨W2,hW2⟩:∃W2,W2=wr.alloc (.cells #[.int .i64 (x:Int),.int .i64 (y:Int),.int .i64 (z:Int)] 30):=⟨_,rfl⟩
       obtain⟨eb,heb⟩:∃eb,eb=wr.heap.size:=⟨_,rfl⟩
       have hb2:Blk W2 eb #[.int .i64 (x:Int),.int .i64 (y:Int),.int .i64 (z:Int)] 30:=by rw[hW2,heb];exact Blk.new _ _ _
       have k2:Keep nil wr W2:=by rw[hW2];exact(Keep.refl nil wr).alloc _
       rw[←hW2,←heb]
       have H2:Unit→LgS w W2 g n f (F.map Ghs.ed3) a c:=fun _=>(HS ()).keepN k2
       have hfe:¬inB a eb:=fun e=>by have:=(HS ()).tre.row.lt eb e;omega
       have c0:W2.cell? ⟨eb,0,none⟩=some (.int .i64 (x:Int)):=by rw[hb2.cell];rfl
       have c1:W2.cell? ⟨eb,1,none⟩=some (.int .i64 (y:Int)):=by rw[hb2.cell];rfl
       have c2:W2.cell? ⟨eb,2,none⟩=some (.int .i64 (z:Int)):=by rw[hb2.cell];rfl
       have hel:=hb2.lt
       have HB2:Unit→Blk W2 eb #[.int .i64 (x:Int),.int .i64 (y:Int),.int .i64 (z:Int)] 30:=fun _=>hb2
       have z1:=(k2.cell g _ hgl id).trans z1
       have z2:=(k2.cell g _ hgl id).trans z2
       have hgl:g<W2.heap.size:=Nat.lt_of_lt_of_le hgl k2.size
       clear hW2 heb hb2 k2 HS e0 e1 e2 hbl
       by_cases hzw:z=V+1
       ·have HZW:Unit→z=V+1:=fun _=>hzw
        have hzI:(z:Int)=(V:Int)+1:=by omega
        rw[hzI]at c2
        clear hzw hzI
        by_cases hff:fx=fy
        ·--@P eq
         have HFE:Unit→fx=fy:=fun _=>hff
         rw[←hff]at z2
         clear hff
         go_quiet (fail)
         have HK2:Unit→Keep nil W2 (W2.drewN nq):=fun _=>(Keep.refl nil W2).drewN nq
         clear c0 c1 c2 z1 z2 hel hgl
         go_wp2
         have h1:lgI M V (i+1)=(f,F):=by
          rw[HSC (),if_pos (HZW ())]
          unfold Ghs.krOne
          rw[if_pos (by dsimp only;rw[←(HF ()).1,←(HF ()).2];exact HFE ())]
         refine⟨⟨i+1,a,c,by have:=HE ();omega,by go_num,by rw[h1,HFF ()],by rw[h1];exact(H2 ()).keepN (HK2 ())⟩,by have:=HE ();simp[intOf];omega⟩
        ·--@P ne
         have HFE:Unit→¬fx=fy:=fun _=>hff
         have hffB:((fx:Int)==(fy:Int))=false:=by rw[nat_beq];simpa using hff
         clear hff
         go_quiet (fail)
         obtain⟨W3,hW3⟩:∃W3,W3=W2.drewN nq:=⟨_,rfl⟩
         have k3:Keep nil W2 W3:=by rw[hW3];exact(Keep.refl nil W2).drewN nq
         rw[←hW3]
         have H3:Unit→LgS w W3 g n f (F.map Ghs.ed3) a c∧Blk W3 eb #[.int .i64 (x:Int),.int .i64 (y:Int),.int .i64 (z:Int)] 30:=fun _=>⟨(H2 ()).keepN k3,(HB2 ()).keep k3 id⟩
         have c0:=(k3.cell eb _ hel id).trans c0
         have c1:=(k3.cell eb _ hel id).trans c1
         have c2:=(k3.cell eb _ hel id).trans c2
         have hel:eb<W3.heap.size:=Nat.lt_of_lt_of_le hel k3.size
         have z1:=(k3.cell g _ hgl id).trans z1
         have z2:=(k3.cell g _ hgl id).trans z2
         have hgl:g<W3.heap.size:=Nat.lt_of_lt_of_le hgl k3.size
         clear hW3 k3 H2 HB2
         have HR3:Unit→RV W3 30 3 a fl c (ecells (F.map Ghs.ed3)):=fun _=>by
          have h1:=(H3 ()).1.tre.row
          rw[List.length_map,←HFF ()]at h1
          exact h1
         obtain⟨ls,hls⟩:∃ls,ls=ecells (F.map Ghs.ed3):=⟨_,rfl⟩
         rw[←hls]at HR3
         have HLS:Unit→ls=ecells (F.map Ghs.ed3):=fun _=>hls
         have hga:¬inB a g:=(H3 ()).1.far
         clear hls
         go_wp2_with (at_builtin;refine wpList_append_rvS _ rfl (.tmp 56) (.tmp 58) 26 rfl 30 (.agg #[.int .i64 0,.int .i64 0,.int .i64 0]) 3 24 Tryz.underlying26 edge_info rfl a fl c rfl ls ((HR3 ()).alloc _) ⟨W3.heap.size,0,none⟩ 1 1 (by omega) rfl [.int .i64 (x:Int),.int .i64 (y:Int),.int .i64 ((V:Int)+1)] rfl (cells_elist W3 [.int .i64 (x:Int),.int .i64 (y:Int),.int .i64 ((V:Int)+1)] 30 _ rfl) (by intro u hu;simp at hu;rcases hu with rfl|rfl|rfl<;>rfl) (by have:=HFL ();have:=HFF ();omega) (by have:=HFL ();have:=HFF ();omega) ?_;intro a' c' w6 hb6 hd6 hk6;have hk7:Keep (inB a) W3 w6:=((Keep.refl (inB a) W3).alloc _).trans hk6;have c0:=(hk7.cell eb _ hel hfe).trans c0;have c1:=(hk7.cell eb _ hel hfe).trans c1;have hel:eb<w6.heap.size:=Nat.lt_of_lt_of_le hel hk7.size;have z1:=(hk7.cell g _ hgl hga).trans z1;have z2:=(hk7.cell g _ hgl hga).trans z2;have hgl:g<w6.heap.size:=Nat.lt_of_lt_of_le hgl hk7.size)
         have H6:Unit→LgS w w6 g n f ((F++[Ghs.E3.mk x y z]).map Ghs.ed3) a' c':=fun _=>by
          rw[List.map_append]
          refine(H3 ()).1.next (Ghs.ed3 ⟨x,y,z⟩) ?_ hd6 hk7
          rw[List.length_map,←HFF (),←HLS ()]
          have e9:(Ghs.ed3 ⟨x,y,z⟩).wt=(V:Int)+1:=by show (z:Int)=_;have:=HZW ();omega
          rw[e9]
          exact hb6
         clear hb6 hd6 hk6 hk7 c0 c1 z1 z2 hel H3 HR3 HLS
         go_loopw [13] (fun v wx=>∃k:Nat,k≤n∧v=.int .i64 (k:Int)∧LgS w wx g n (fun j=>if j<k∧f j=fy then fx else f j) ((F++[Ghs.E3.mk x y z]).map Ghs.ed3) a' c') (fun v _=>n - (intOf v).toNat)
         case atStart=>exact⟨0,Nat.zero_le _,rfl,(H6 ()).ext (fun k _=>by simp)⟩
         case round=>
          clear H6
          obtain⟨k,hk,rfl,hs⟩:=hrel
          have HS:Unit→LgS w wr g n (fun j=>if j<k∧f j=fy then fx else f j) ((F++[Ghs.E3.mk x y z]).map Ghs.ed3) a' c':=fun _=>hs
          by_cases hkl:k<n
          ·have y1:=hs.blk.cell k
           rw[nks_get hkl,if_neg (by omega)]at y1
           have yf:=hs.blk.frozen k
           have hgl:=hs.blk.lt
           have hkI:(k:Int)<(n:Int):=by omega
           have HKL:Unit→k<n:=fun _=>hkl
           obtain⟨fk,hfk⟩:∃fk,fk=f k:=⟨_,rfl⟩
           rw[←hfk]at y1
           have HFK:Unit→fk=f k:=fun _=>hfk
           clear hs hk hkl hfk
           by_cases hfy:fk=fy
           ·have HFY:Unit→fk=fy:=fun _=>hfy
            rw[hfy]at y1
            clear hfy
            go_wp2_with fail
            refine⟨⟨k+1,by have:=HKL ();omega,by go_num,((HS ()).set k fx).ext (fun j hj=>?_)⟩,by have:=HKL ();simp[intOf];omega⟩
            by_cases e:j=k
            ·rw[if_pos e,if_pos ⟨by omega,by rw[e,←HFK ()];exact HFY ()⟩]
            ·rw[if_neg e]
             by_cases e2:j<k∧f j=fy
             ·rw[if_pos e2,if_pos ⟨by omega,e2.2⟩]
             ·rw[if_neg e2,if_neg (fun e3=>e2 ⟨by omega,e3.2⟩)]
           ·have HFY:Unit→¬fk=fy:=fun _=>hfy
            have hfB:((fk:Int)==(fy:Int))=false:=by rw[nat_beq];simpa using hfy
            have hfI:¬((fk:Int)=(fy:Int)):=by omega
            clear hfy
            go_wp2_with fail
            refine⟨⟨k+1,by have:=HKL ();omega,by go_num,(HS ()).ext (fun j hj=>?_)⟩,by have:=HKL ();simp[intOf];omega⟩
            by_cases e2:j<k∧f j=fy
            ·rw[if_pos e2,if_pos ⟨by omega,e2.2⟩]
            ·rw[if_neg e2,if_neg (fun e3=>by
              by_cases e:j=k
              ·exact HFY () (by rw[HFK (),←e];exact e3.2)
              ·exact e2 ⟨by omega,e3.2⟩)]
          ·have hkI:¬((k:Int)<(n:Int)):=by omega
           have HS2:Unit→LgS w wr g n (lgI M V (i+1)).1 ((lgI M V (i+1)).2.map Ghs.ed3) a' c'∧(lgI M V (i+1)).2.length=fl+1:=fun _=>by
            have h1:lgI M V (i+1)=(fun j=>if f j=f y then f x else f j,F++[Ghs.E3.mk x y z]):=by
             rw[HSC (),if_pos (HZW ())]
             unfold Ghs.krOne
             rw[if_neg (by dsimp only;rw[←(HF ()).1,←(HF ()).2];exact HFE ())]
            rw[h1]
            refine⟨hs.ext (fun j hj=>?_),by simp[HFF ()]⟩
            dsimp only
            rw[←(HF ()).1,←(HF ()).2]
            by_cases e:f j=fy
            ·rw[if_pos e,if_pos ⟨by omega,e⟩]
            ·rw[if_neg e,if_neg (fun e2=>e e2.2)]
           clear hs hk hkl HS
           go_wp2
           refine⟨⟨i+1,a',c',by have:=HE ();omega,by go_num,by rw[(HS2 ()).2],(HS2 ()).1⟩,by have:=HE ();simp[intOf];omega⟩
       ·--@P wt
        have HZW:Unit→¬z=V+1:=fun _=>hzw
        have hzI:((z:Int)==(V:Int)+1)=false:=beq_eq_false_iff_ne.2 (by omega)
        have hzN:((z:Int) != (V:Int)+1)=true:=by simp only[bne,hzI];rfl
        have hzD:decide ((z:Int)=(V:Int)+1)=false:=decide_eq_false (by omega)
        clear hzw
        go_quiet (fail)
        have HK2:Unit→Keep nil W2 (W2.drewN nq):=fun _=>(Keep.refl nil W2).drewN nq
        clear c0 c1 c2 z1 z2 hel hgl
        go_wp2
        have h1:lgI M V (i+1)=(f,F):=by rw[HSC (),if_neg (HZW ())]
        refine⟨⟨i+1,a,c,by have:=HE ();omega,by go_num,by rw[h1,HFF ()],by rw[h1];exact(H2 ()).keepN (HK2 ())⟩,by have:=HE ();simp[intOf];omega⟩
      ·have hiI:¬((i:Int)<(ml:Int)):=by omega
       have hie:i=M.length:=by have:=HML ();omega
       have h1:lgI M V i=lgW M (V+1):=by rw[hie];exact(lgW_succ M V).symm
       rw[h1]at HS⊢
       clear hs hi hil hie h1
       go_wp2
       refine⟨⟨V+1,a,c,by omega,by rw[Int.natCast_add];rfl,rfl,HS ()⟩,?_⟩
       simp[intOf]
       omega
    ·have hVe:V=1000:=by omega
     subst hVe
     have HS:Unit→LgS w wr g n (lgW M 1000).1 ((lgW M 1000).2.map Ghs.ed3) a c:=fun _=>hs
     rw[show ((1000:Nat):Int)+1=1001 from rfl]
     clear hs hV hVl
     go_wp2
     go_ret
     exact⟨a,c,rfl,(HS ()).tre⟩
theorem awk_tick{i:Nat}{A:AN}(h:Awk i A)(k:Nat):Awk i (A.tick k):=by
 have key:∀(l:List Nat) (A:AN),Awk i A→Awk i (l.foldl (fun A j=>A.tickOne k j) A):=by
  intro l
  induction l with
  |nil=>intro A h;exact h
  |cons j l ih=>
   intro A h
   exact ih _ (awk_nods h (by unfold AN.tickOne;rw[nods_carry,nods_modE]))
 exact key _ _ h
theorem awk_tickAll{i:Nat}(n:Nat){A:AN}(h:Awk i A):Awk i (Ghs.V.tickAll n A):=by
 have key:∀(l:List Nat) (A:AN),Awk i A→Awk i (l.foldl (fun A j=>A.tick j) A):=by
  intro l
  induction l with
  |nil=>intro A h;exact h
  |cons j l ih=>intro A h;exact ih _ (awk_tick h j)
 exact key _ _ h
theorem awk_dls{i:Nat}:∀(f:Nat) {A:AN},Awk i A→Awk i (Ghs.V.dls f A)
 |0,A,h=>h
 |f+1,A,h=>by
  cases hb:A.bag with
  |nil=>rw[Ghs.V.dls_nil _ hb];exact h
  |cons x r=>rw[Ghs.V.dls_cons _ hb];exact awk_dls f (awk_deliver h 0)
theorem awk_stl{i:Nat}(n:Nat):∀(r:Nat) {A:AN},Awk i A→Awk i (Ghs.V.stl n r A)
 |0,A,h=>h
 |r+1,A,h=>by
  have h1:=awk_tickAll n (awk_dls 3000 h)
  unfold Ghs.V.stl
  split
  ·exact h1
  ·exact awk_stl n r h1
theorem awk_node{i:Nat}{A:AN}(h:Awk i A)(hi:i<A.sps.length):((Ghs.lsOf A).nodes i).state≠0:=by
 have hs:A.sps[i]?=some A.sps[i]:=List.getElem?_eq_getElem hi
 rw[Ghs.nodes_at hs]
 refine h _ ?_
 unfold AN.nods
 rw[List.getElem?_map,hs]
 rfl
theorem len_tickAll(n:Nat)(A:AN):(Ghs.V.tickAll n A).sps.length=A.sps.length:=by
 have key:∀(l:List Nat) (A:AN),(l.foldl (fun A j=>A.tick j) A).sps.length=A.sps.length:=by
  intro l
  induction l with
  |nil=>intro A;rfl
  |cons j l ih=>
   intro A
   show (l.foldl (fun A j=>A.tick j) (A.tick j)).sps.length=_
   rw[ih]
   unfold AN.tick AN.ticks
   exact Ghs.len_ticks _ _ A
 exact key _ _
theorem len_dls:∀(f:Nat) (A:AN),(Ghs.V.dls f A).sps.length=A.sps.length
 |0,A=>rfl
 |f+1,A=>by
  cases hb:A.bag with
  |nil=>rw[Ghs.V.dls_nil _ hb]
  |cons x r=>rw[Ghs.V.dls_cons _ hb,len_dls f,Ghs.len_deliver]
theorem len_stl(n:Nat):∀(r:Nat) (A:AN),(Ghs.V.stl n r A).sps.length=A.sps.length
 |0,A=>rfl
 |r+1,A=>by
  unfold Ghs.V.stl
  split
  ·rw[len_tickAll,len_dls]
  ·rw[len_stl n r,len_tickAll,len_dls]
end Go.Proofs.YtlfijfodklhplaaGreat
