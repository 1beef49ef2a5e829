import Derived.Test.YtlfijfodklhplaaGreatTn16
set_option linter.unusedVariables false
set_option linter.unusedSimpArgs false
namespace Go.Proofs.YtlfijfodklhplaaGreat
open Go.RowKit
theorem sd_split{ss:List Sd}{j:Nat}{d:Sd}(h:ss[j]?=some d):sdcells ss=sdcells (ss.take j)++sdcell d++sdcells (ss.drop (j+1)):=by
 obtain⟨hj,rfl⟩:=List.getElem?_eq_some_iff.1 h
 have h1:ss=ss.take j++ss[j]::ss.drop (j+1):=by rw[←List.drop_eq_getElem_cons hj,List.take_append_drop]
 have h2:=congrArg sdcells h1
 rw[h2]
 simp only[sdcells,List.flatMap_append,List.flatMap_cons,List.append_assoc]
theorem sd_split_set{ss:List Sd}{j:Nat}{d:Sd}(h:ss[j]?=some d)(d':Sd):sdcells (ss.set j d')=sdcells (ss.take j)++sdcell d'++sdcells (ss.drop (j+1)):=by
 have h1:=sd_split (lset_self h d')
 rw[h1,List.take_set_of_le (Nat.le_refl j),List.drop_set_of_lt (Nat.lt_succ_self j)]
theorem sdcells_len(l:List Sd)(h:∀d∈l,d.e.kept.length=4):(sdcells l).length=l.length * 25:=by
 induction l with
 |nil=>rfl
 |cons d t ih=>
  have hc:sdcells (d::t)=sdcell d++sdcells t:=by simp[sdcells]
  rw[hc,List.length_append,ih (fun x hx=>h x (List.mem_cons_of_mem _ hx)),List.length_cons]
  have hl:(sdcell d).length=25:=by simp[sdcell,cells_len d.e d.p (h d (List.mem_cons_self ..))]
  omega
theorem put_mid(A B B' C:List Value)(x:Value)(n:Nat)(hn:n=A.length)(hl:B'.length=B.length):put (A++(x::B)++C).toArray (n+1) B'=(A++(x::B')++C).toArray:=by
 subst hn
 unfold put
 have e1:(A++x::B++C).take (A.length+1)=A++[x]:=by
  rw[List.append_assoc,List.take_append,List.take_of_length_le (by omega)];simp
 have e2:(A++x::B++C).drop (A.length+1+B'.length)=C:=by
  rw[hl,show A.length+1+B.length=(A++x::B).length by simp;omega,List.drop_left]
 simp only[List.toList_toArray]
 rw[e1,e2];simp
theorem rv_pos{w:World}{e:TypeId}{size:Nat}{a:Option Addr}{n c:Nat}{vs:List Value}(h:RV w e size a n c vs)(hn:0<n):∃g o,a=some ⟨g,o,none⟩∧VBo w g o e size vs c:=by
 obtain⟨_,_,h3⟩:=h
 rcases h3 with⟨_,e,_⟩|h3
 ·omega
 ·exact h3
def Nt.setE(N:Nt)(i:Nat)(s:Sp)(j:Nat)(d:Sd)(e:En)(p:Pl)(R:Nat→Prop):Nt:=N.setS i { s with ss:=s.ss.set j { d with e:=e,p:=p}} R
theorem NtR.atEnd{w:World}{N:Nt}(h:NtR w N){i j:Nat}{s:Sp}{d:Sd}(hs:N.sps[i]?=some s)(hd:s.ss[j]?=some d):
 ∃g o c,s.sa=some ⟨g,o,none⟩∧g<w.heap.size∧w.cell? ⟨g,o+j * 25,none⟩=some (.int .i64 (d.to_:Int))∧Rep w c 181 g (o+j * 25+1) d.e d.p∧
  ∀(w':World) (e':En) (p':Pl) (R:Nat→Prop),Rep w' c 181 g (o+j * 25+1) e' p'→Keep (fun k=>k=g∨ELst d.p k) w w'→(∀k,ELst p' k→ELst d.p k∨w.heap.size≤k)→(∀k,R k→ELst d.p k∧¬ELst p' k)→
   NtR w' (N.setE i s j d e' p' R)∧NtTo w w' N (N.setE i s j d e' p' R):=by
 have hjl:=(List.getElem?_eq_some_iff.1 hd).1
 obtain⟨g,o,hsa,pre,sp,hb,hpre,hcap⟩:=rv_pos (h.sides i s hs) (by omega)
 have four:∀x∈s.ss,x.e.kept.length=4:=fun x hx=>by
  obtain⟨j',hj',rfl⟩:=List.getElem_of_mem hx
  exact(h.ends i s hs j' _ (List.getElem?_eq_getElem hj')).four
 have hE:=h.ends i s hs j d hd
 have hlen:=sdcells_len s.ss four
 have hpl:(pre++sdcells (s.ss.take j)).length=o+j * 25:=by
  rw[List.length_append,sdcells_len _ (fun x hx=>four x (List.mem_of_mem_take hx)),List.length_take,hpre]
  rw[Nat.min_eq_left (by omega)]
 have hcells:∀d':Sd,pre++sdcells (s.ss.set j d')++sp=(pre++sdcells (s.ss.take j))++(Value.int .i64 (d'.to_:Int)::d'.e.cells d'.p)++(sdcells (s.ss.drop (j+1))++sp):=fun d'=>by
  rw[sd_split_set hd];simp[sdcell]
 have hcell0:pre++sdcells s.ss++sp=(pre++sdcells (s.ss.take j))++(Value.int .i64 (d.to_:Int)::d.e.cells d.p)++(sdcells (s.ss.drop (j+1))++sp):=by
  rw[sd_split hd];simp[sdcell]
 have own0:∀a b k,s.own a k→s.own b k→a=b:=fun a b k h1 h2=>by
  have:=h.apart (.spot i a) (.spot i b) k ⟨s,hs,h1⟩ ⟨s,hs,h2⟩
  cases this;rfl
 have hgl:∀(j':Nat) (d':Sd),s.ss[j']?=some d'→¬ELst d'.p g:=fun j' d' h1 h2=>by
  have:=own0 (.ends j') .side g ⟨d',h1,h2⟩ (by rw[show s.own .side g=inB s.sa g from rfl,hsa];exact inB_self g o)
  cases this
 have hput:∀(e':En) (p':Pl),e'.kept.length=4→put (pre++sdcells s.ss++sp).toArray (o+j * 25+1) (e'.cells p')=(pre++sdcells (s.ss.set j { d with e:=e',p:=p'})++sp).toArray:=fun e' p' h4=>by
  rw[hcells,hcell0]
  exact put_mid _ _ _ _ _ _ hpl.symm (by rw[cells_len e' p' h4,cells_len d.e d.p hE.four])
 have hsz:o+j * 25+1+24≤(pre++sdcells s.ss++sp).toArray.size:=by
  have:(j+1) * 25≤s.ss.length * 25:=Nat.mul_le_mul_right _ hjl
  simp only[List.size_toArray,List.length_append,hpre,hlen];omega
 refine⟨g,o,(pre++sdcells s.ss++sp).toArray,hsa,hb.lt,?_,hE.rep ?_ hsz (hgl j d hd),?_⟩
 ·rw[hb.cell,hcell0,List.getElem?_toArray,List.append_assoc,List.getElem?_append_right (by omega),←hpl,Nat.sub_self];rfl
 ·rw[hput d.e d.p hE.four]
  have:s.ss.set j { d with e:=d.e,p:=d.p}=s.ss:=by
   apply List.ext_getElem?
   intro k
   by_cases e:j=k
   ·subst e;rw[lset_self hd,hd]
   ·rw[List.getElem?_set_ne e]
  rw[this];exact hb
 ·intro w' e' p' R hr hk hm hR
  have hfix:({ s with ss:=s.ss.set j { d with e:=e',p:=p'}}:Sp).fix=s.fix:=by
   simp only[Sp.fix];rw[map_set_eq Sd.to_ s.ss j { d with e:=e',p:=p'} d hd rfl]
  have oldE:∀k,ELst d.p k→s.own (.ends j) k:=fun k hk=>⟨d,hd,hk⟩
  have gside:s.own .side g:=by rw[show s.own .side g=inB s.sa g from rfl,hsa];exact inB_self g o
  have notE:∀(a:LP) (k:Nat),s.own a k→a≠.side→a≠.ends j→¬(k=g∨ELst d.p k):=fun a k h1 h2 h3 h4=>by
   rcases h4 with h4|h4
   ·subst h4;exact h2 (own0 _ _ _ h1 gside)
   ·exact h3 (own0 _ _ _ h1 (oldE k h4))
  refine h.setS hs _ hfix R (fun k=>k=g∨ELst d.p k) hk ?_ ?_ ?_ ?_ ?_ ?_ ?_
  ·rintro k (rfl|h1)
   ·exact⟨.side,gside⟩
   ·exact⟨.ends j,oldE k h1⟩
  ·exact(h.nods i s hs).keep hk (fun k h1=>notE .node k h1 (by simp) (by simp))
  ·show RV w' 181 25 s.sa (s.ss.set j _).length s.sc _
   rw[List.length_set,hsa]
   have hl2:(sdcells (s.ss.set j { d with e:=e',p:=p'})).length=s.ss.length * 25:=by
    rw[sdcells_len,List.length_set]
    intro x hx
    rcases List.mem_or_eq_of_mem_set hx with h1|h1
    ·exact four x h1
    ·rw[h1];exact hr.four
   refine⟨hl2,(h.sides i s hs).2.1,Or.inr ⟨g,o,rfl,pre,sp,?_,hpre,by rw[hl2];rw[hlen]at hcap;exact hcap⟩⟩
   rw[←hput e' p' hr.four]
   exact hr.blk
  ·intro j' d' h1
   rcases lset_get h1 with⟨_,rfl⟩|⟨hne,h2⟩
   ·exact hr.lst
   ·exact(h.ends i s hs j' d' h2).keep hk (fun k h3=>notE (.ends j') k ⟨d',h2,h3⟩ (by simp) (fun x=>hne (by cases x;rfl)))
  ·intro a k h1
   cases a with
   |node=>exact Or.inl ⟨.node,h1⟩
   |side=>exact Or.inl ⟨.side,h1⟩
   |ends j'=>
    obtain⟨d',h2,h3⟩:=h1
    rcases lset_get h2 with⟨_,rfl⟩|⟨hne,h4⟩
    ·rcases hm k h3 with h5|h5
     ·exact Or.inl ⟨.ends j,oldE k h5⟩
     ·exact Or.inr h5
    ·exact Or.inl ⟨.ends j',d',h4,h3⟩
  ·have lt0:∀a k,s.own a k→k<w.heap.size:=fun a k h1=>h.lt (.spot i a) k ⟨s,hs,h1⟩
   have oth:∀a k,a≠.ends j→({ s with ss:=s.ss.set j { d with e:=e',p:=p'}}:Sp).own a k→s.own a k:=fun a k hne h1=>by
    cases a with
    |node=>exact h1
    |side=>exact h1
    |ends j'=>
     obtain⟨d',h2,h3⟩:=h1
     rcases lset_get h2 with⟨e,_⟩|⟨_,h4⟩
     ·exact(hne (by rw[e])).elim
     ·exact⟨d',h4,h3⟩
   have mine:∀k,({ s with ss:=s.ss.set j { d with e:=e',p:=p'}}:Sp).own (.ends j) k→ELst p' k:=fun k h1=>by
    obtain⟨d',h2,h3⟩:=h1
    rcases lset_get h2 with⟨_,rfl⟩|⟨hne,_⟩
    ·exact h3
    ·exact(hne rfl).elim
   have one:∀a k,a≠.ends j→({ s with ss:=s.ss.set j { d with e:=e',p:=p'}}:Sp).own a k→ELst p' k→False:=fun a k hne h1 h2=>by
    have h3:=oth a k hne h1
    rcases hm k h2 with h4|h4
    ·exact hne (own0 _ _ _ h3 (oldE k h4))
    ·have:=lt0 a k h3;omega
   intro a b k h1 h2
   by_cases ha:a=.ends j
   ·by_cases hb:b=.ends j
    ·rw[ha,hb]
    ·subst ha;exact(one b k hb h2 (mine k h1)).elim
   ·by_cases hb:b=.ends j
    ·subst hb;exact(one a k ha h1 (mine k h2)).elim
    ·exact own0 a b k (oth a k ha h1) (oth b k hb h2)
  ·intro k h1
   obtain⟨h2,h3⟩:=hR k h1
   refine⟨⟨.ends j,oldE k h2⟩,fun a h4=>?_⟩
   cases a with
   |node=>have:=own0 _ .node _ (oldE k h2) h4;cases this
   |side=>have:=own0 _ .side _ (oldE k h2) h4;cases this
   |ends j'=>
    obtain⟨d',h5,h6⟩:=h4
    rcases lset_get h5 with⟨_,rfl⟩|⟨hne,h7⟩
    ·exact h3 h6
    ·have:=own0 _ _ _ (oldE k h2) (show s.own (.ends j') k from⟨d',h7,h6⟩)
     cases this;exact hne rfl
def Nt.setN(N:Nt)(i:Nat)(s:Sp)(n:Nod)(p:Np)(R:Nat→Prop):Nt:=N.setS i { s with n:=n,p:=p} R
theorem NtR.setN{w w':World}{N:Nt}(h:NtR w N){i:Nat}{s:Sp}(hs:N.sps[i]?=some s)(n':Nod)(p':Np)(R:Nat→Prop)(hr:NRep w' s.b n' p')(hk:Keep (NMine s.b s.p) w w')(hm:∀k,NMine s.b p' k→NMine s.b s.p k∨w.heap.size≤k)(hR:∀k,R k→NMine s.b s.p k∧¬NMine s.b p' k):
 NtR w' (N.setN i s n' p' R)∧NtTo w w' N (N.setN i s n' p' R):=by
 have own0:∀a b k,s.own a k→s.own b k→a=b:=fun a b k h1 h2=>by
  have:=h.apart (.spot i a) (.spot i b) k ⟨s,hs,h1⟩ ⟨s,hs,h2⟩
  cases this;rfl
 have lt0:∀a k,s.own a k→k<w.heap.size:=fun a k h1=>h.lt (.spot i a) k ⟨s,hs,h1⟩
 have nn:∀k,NMine s.b s.p k→s.own .node k:=fun k h1=>h1
 have notE:∀(a:LP) (k:Nat),s.own a k→a≠.node→¬NMine s.b s.p k:=fun a k h1 h2 h3=>h2 (own0 _ _ _ h1 (nn k h3))
 refine h.setS hs { s with n:=n',p:=p'} rfl R (NMine s.b s.p) hk (fun k h1=>⟨.node,h1⟩) hr ?_ ?_ ?_ ?_ ?_
 ·exact(h.sides i s hs).keep hk (fun k h1=>notE .side k h1 (by simp))
 ·exact fun j d hd=>(h.ends i s hs j d hd).keep hk (fun k h1=>notE (.ends j) k ⟨d,hd,h1⟩ (by simp))
 ·intro a k h1
  cases a with
  |node=>exact(hm k h1).imp (fun x=>⟨.node,x⟩) id
  |side=>exact Or.inl ⟨.side,h1⟩
  |ends j=>exact Or.inl ⟨.ends j,h1⟩
 ·have one:∀a k,a≠.node→s.own a k→NMine s.b p' k→False:=fun a k hne h1 h2=>by
   rcases hm k h2 with h4|h4
   ·exact hne (own0 _ _ _ h1 (nn k h4))
   ·have:=lt0 a k h1;omega
  intro a b k h1 h2
  cases a with
  |node=>
   cases b with
   |node=>rfl
   |side=>exact(one .side k (by simp) h2 h1).elim
   |ends j=>exact(one (.ends j) k (by simp) h2 h1).elim
  |side=>
   cases b with
   |node=>exact(one .side k (by simp) h1 h2).elim
   |side=>rfl
   |ends j=>exact own0 .side (.ends j) k h1 h2
  |ends j=>
   cases b with
   |node=>exact(one (.ends j) k (by simp) h1 h2).elim
   |side=>exact own0 (.ends j) .side k h1 h2
   |ends j'=>exact own0 (.ends j) (.ends j') k h1 h2
 ·intro k h1
  obtain⟨h2,h3⟩:=hR k h1
  refine⟨⟨.node,h2⟩,fun a h4=>?_⟩
  cases a with
  |node=>exact h3 h4
  |side=>exact notE .side k h4 (by simp) h2
  |ends j=>exact notE (.ends j) k h4 (by simp) h2
theorem NtR.bag{w:World}{N:Nt}(h:NtR w N):Bag w N.nb 2 N.L N.ba N.bc:=
 ⟨h.blk.lt,by rw[h.blk.cell];rfl,h.blk.frozen _,h.brow,fun e=>by have:=h.apart .bag .net N.nb e rfl;cases this⟩
theorem NtR.wayTo{w w':World}{N:Nt}(h:NtR w N)(k:Keep nil w w')(W:Nat→Prop)(hW:∀i,W i→N.way i∨(w.heap.size≤i∧i<w'.heap.size)):NtR w' { N with way:=W}:=by
 have h1:=h.keep k (fun _ _ e=>e)
 refine⟨h1.blk,h1.erow,h1.prow,h1.brow,h1.pks,h1.pkn,h1.nods,h1.sides,h1.ends,?_,?_⟩
 ·intro i hi
  rcases hW i hi with e|e
  ·exact Nat.lt_of_lt_of_le (h.wayl i e) k.size
  ·exact e.2
 ·refine apart_step (N:=N) (z:=w.heap.size) (fun q=>q=.way) h.apart h.lt ?_ ?_ ?_
  ·intro q hq i hi
   cases q with
   |way=>exact(hq rfl).elim
   |spot i' a=>exact hi
   |_=>exact hi
  ·rintro q rfl i hi
   rcases hW i hi with e|e
   ·exact Or.inl ⟨.way,rfl,e⟩
   ·exact Or.inr e.1
  ·rintro q r i rfl rfl _ _;rfl
theorem own_way{N:Nt}{W:Nat→Prop}{k:Nat}:({ N with way:=W}:Nt).Own k↔N.Own k:=by
 constructor
 ·rintro⟨q,hq,hk⟩
  cases q with
  |way=>exact(hq rfl).elim
  |net=>exact⟨.net,by simp,hk⟩
  |edges=>exact⟨.edges,by simp,hk⟩
  |spots=>exact⟨.spots,by simp,hk⟩
  |bag=>exact⟨.bag,by simp,hk⟩
  |pks=>exact⟨.pks,by simp,hk⟩
  |spot i a=>exact⟨.spot i a,by simp,hk⟩
 ·rintro⟨q,hq,hk⟩
  cases q with
  |way=>exact(hq rfl).elim
  |net=>exact⟨.net,by simp,hk⟩
  |edges=>exact⟨.edges,by simp,hk⟩
  |spots=>exact⟨.spots,by simp,hk⟩
  |bag=>exact⟨.bag,by simp,hk⟩
  |pks=>exact⟨.pks,by simp,hk⟩
  |spot i a=>exact⟨.spot i a,by simp,hk⟩
theorem NtTo.way{w w':World}{N N':Nt}(h:NtTo w w' N N')(W W':Nat→Prop):NtTo w w' { N with way:=W} { N' with way:=W'}:=
 ⟨h.keep.mono (fun k _ e=>own_way.2 e),fun k hk=>(h.mine k (own_way.1 hk)).imp own_way.2 id,h.nb,h.ty,h.es,h.ea,h.ec,h.pa,h.pc,h.fix⟩
def Nt.setB(N:Nt)(L:List Pk)(ba:Option Addr)(bc:Nat)(W:Nat→Prop):Nt:={ N with L:=L,ba:=ba,bc:=bc,way:=W}
theorem NtR.setB{w w':World}{N:Nt}(h:NtR w N)(L':List Pk)(ba':Option Addr)(bc':Nat)(W:Nat→Prop)(hb:Bag w' N.nb 2 L' ba' bc')(hto:BagTo w w' N.nb 2 N.ba ba' (.slice ba' L'.length bc'))
 (hp:∀x∈L',x∈N.L∨(N.way x.g∧PRow w x.g x.l x.c)) (hn:L'.Pairwise (fun x y=>x.g≠y.g)) (hW:∀k,W k→N.way k∧∀x∈L',x.g≠k):
 NtR w' (N.setB L' ba' bc' W)∧∀w0 N0,NtTo w0 w N0 N→(∀x∈L',x∈N.L∨N0.Own x.g∨w0.heap.size≤x.g)→NtTo w0 w' N0 (N.setB L' ba' bc' W):=by
 have hk:=hto.keep
 have notE:∀(q:Pt) (k:Nat),N.own q k→q≠.net→q≠.bag→¬(k=N.nb∨inB N.ba k):=fun q k hq h1 h2 e=>by
  rcases e with e|e
  ·exact h1 (h.apart _ _ k hq e)
  ·exact h2 (h.apart _ _ k hq e)
 refine⟨⟨?_,?_,?_,hb.row,?_,hn,?_,?_,?_,?_,?_⟩,?_⟩
 ·exact hto.blk N.cells N.ty h.blk
 ·exact h.erow.keep hk (fun g hg=>notE .edges g hg (by simp) (by simp))
 ·exact h.prow.keep hk (fun g hg=>notE .spots g hg (by simp) (by simp))
 ·intro x hx
  rcases hp x hx with e|⟨e,e2⟩
  ·exact(h.pks x e).keep hk (fun g hg=>notE .pks g ⟨x,e,(inB_some.1 hg).symm⟩ (by simp) (by simp))
  ·exact e2.keep hk (fun g hg=>by rw[inB_some.1 hg];exact notE .way x.g e (by simp) (by simp))
 ·exact fun i s hs=>(h.nods i s hs).keep hk (fun g hg=>notE (.spot i .node) g ⟨s,hs,hg⟩ (by simp) (by simp))
 ·exact fun i s hs=>(h.sides i s hs).keep hk (fun g hg=>notE (.spot i .side) g ⟨s,hs,hg⟩ (by simp) (by simp))
 ·exact fun i s hs j d hd=>(h.ends i s hs j d hd).keep hk (fun g hg=>notE (.spot i (.ends j)) g ⟨s,hs,d,hd,hg⟩ (by simp) (by simp))
 ·exact fun k hk1=>Nat.lt_of_lt_of_le (h.wayl k (hW k hk1).1) hk.size
 ·refine apart_step (N:=N) (z:=w.heap.size) (fun q=>q=.way∨q=.bag∨q=.pks) h.apart h.lt ?_ ?_ ?_
  ·intro q hq k hk1
   cases q with
   |way=>exact(hq (Or.inl rfl)).elim
   |bag=>exact(hq (Or.inr (Or.inl rfl))).elim
   |pks=>exact(hq (Or.inr (Or.inr rfl))).elim
   |_=>exact hk1
  ·rintro q (rfl|rfl|rfl) k hk1
   ·exact Or.inl ⟨.way,Or.inl rfl,(hW k hk1).1⟩
   ·rcases hto.mine k hk1 with e|e
    ·exact Or.inl ⟨.bag,Or.inr (Or.inl rfl),e⟩
    ·exact Or.inr e
   ·obtain⟨x,hx,rfl⟩:=hk1
    rcases hp x hx with e|⟨e,_⟩
    ·exact Or.inl ⟨.pks,Or.inr (Or.inr rfl),x,e,rfl⟩
    ·exact Or.inl ⟨.way,Or.inl rfl,e⟩
  ·have wp:∀k,W k→(∃x∈L',x.g=k)→False:=fun k h1 ⟨x,hx,e⟩=>(hW k h1).2 x hx e
   have bw:∀k,inB ba' k→N.way k→False:=fun k h1 h2=>by
    rcases hto.mine k h1 with e|e
    ·have:=h.apart .bag .way k e h2;cases this
    ·have:=h.wayl k h2;omega
   have bp:∀k,inB ba' k→(∃x∈L',x.g=k)→False:=fun k h1 ⟨x,hx,e2⟩=>by
    subst e2
    rcases hp x hx with e|⟨e,_⟩
    ·rcases hto.mine _ h1 with e3|e3
     ·have:=h.apart .bag .pks _ e3 ⟨x,e,rfl⟩;cases this
     ·have:=(h.pks x e).lt x.g (inB_self _ _);omega
    ·exact bw _ h1 e
   rintro q r k (rfl|rfl|rfl) (rfl|rfl|rfl) h1 h2
   ·rfl
   ·exact(bw k h2 (hW k h1).1).elim
   ·exact(wp k h1 h2).elim
   ·exact(bw k h1 (hW k h2).1).elim
   ·rfl
   ·exact(bp k h1 h2).elim
   ·exact(wp k h2 h1).elim
   ·exact(bp k h2 h1).elim
   ·rfl
 ·intro w0 N0 t hx
  have hown:∀k,(k=N.nb∨inB N.ba k)→N.Own k:=fun k e=>by
   rcases e with e|e
   ·exact⟨.net,by simp,e⟩
   ·exact⟨.bag,by simp,e⟩
  refine⟨t.keep.trans' hk (fun i hi e=>?_),?_,t.nb,t.ty,t.es,t.ea,t.ec,t.pa,t.pc,t.fix⟩
  ·rcases t.mine i (hown i e)with h1|h1
   ·exact h1
   ·omega
  ·rintro k ⟨q,hq,hk1⟩
   cases q with
   |way=>exact(hq rfl).elim
   |net=>exact t.mine k ⟨.net,by simp,hk1⟩
   |edges=>exact t.mine k ⟨.edges,by simp,hk1⟩
   |spots=>exact t.mine k ⟨.spots,by simp,hk1⟩
   |bag=>
    rcases hto.mine k hk1 with e|e
    ·exact t.mine k ⟨.bag,by simp,e⟩
    ·exact Or.inr (Nat.le_trans t.keep.size e)
   |pks=>
    obtain⟨x,hx1,rfl⟩:=hk1
    rcases hx x hx1 with e|e
    ·exact t.mine _ ⟨.pks,by simp,x,e,rfl⟩
    ·exact e
   |spot i a=>exact t.mine k ⟨.spot i a,by simp,hk1⟩
def Pl.new:Pl:=⟨none,0,none,0,[]⟩
abbrev zero24:Array Value:=#[.int .i64 0,.slice none 0 0,.int .i64 0,.int .i64 0,.int .i64 0,.int .i64 0,.bool false,.bool false,.int .i64 0,.int .i64 0,.int .i64 0,.bool false,.bool false,.int .i64 0,.int .i64 0,.int .i64 0,.bool false,.bool false,.int .i64 0,.int .i64 0,.int .i64 0,.bool false,.bool false,.slice none 0 0]
theorem cells_new:En.new.cells Pl.new=zero24.toList:=rfl
end Go.Proofs.YtlfijfodklhplaaGreat
