import Derived.Test.YtlfijfodklhplaaGreatSf19
import Derived.Test.YtlfijfodklhplaaGreatSf20
import Derived.Test.YtlfijfodklhplaaGreatSf17
import Derived.Test.YtlfijfodklhplaaGreatSf08
set_option linter.unusedVariables false
set_option linter.unusedSimpArgs false
namespace Go.Proofs.YtlfijfodklhplaaGreat
open Go.RowKit
def ELst (p:Pl) (k:Nat):Prop:=inB p.wa k∨inB p.oa k∨k ∈ p.gs
structure RepL (w : World) (e : En) (p : Pl) : Prop where
  four:e.kept.length=4
  wrow:RV w 76 4 p.wa e.wait.length p.wc (mcells e.wait)
  orow:RV w 56 1 p.oa e.out.length p.oc (ovals p.gs e.out)
  gl:p.gs.length=e.out.length
  bufs:∀ (i g:Nat) (f:Fr.Frm),p.gs[i]?=some g→e.out[i]?=some f→Buf w g (Fr.enc f) 10
  wo:∀ k,inB p.wa k→¬ inB p.oa k
  gw:∀ k,k ∈ p.gs→¬ inB p.wa k∧¬ inB p.oa k
  gn:p.gs.Nodup
  wok:∀ m ∈ e.wait,MOk m
  most:e.first + e.wait.length≤65536
  awt:e.await≤65536
  kn:∀ (i:Nat) (m:Fr.Msg),e.kept[i]?=some (some m)→e.await + i < 65536
  fok:∀ f ∈ e.out,FrOk f
theorem Rep.lst {w:World} {c:Array Value} {t:TypeId} {b o:Nat} {e:En} {p:Pl} (h:Rep w c t b o e p):RepL w e p :=
  ⟨h.four,h.wrow,h.orow,h.gl,h.bufs,h.wo,fun k hk=>⟨fun x=>h.gw k hk (Or.inr (Or.inl x)),fun x=>h.gw k hk (Or.inr (Or.inr x))⟩,h.gn,h.wok,h.most,h.awt,h.kn,h.fok⟩
theorem RepL.rep {w : World} {c : Array Value} {t : TypeId} {b o : Nat} {e : En} {p : Pl} (h : RepL w e p) (hb : Blk w b (put c o (e.cells p)) t) (hf : o + 24 ≤ c.size) (hn : ¬ ELst p b) : Rep w c t b o e p where
  blk:=hb
  fit:=hf
  four:=h.four
  wrow:=h.wrow
  orow:=h.orow
  gl:=h.gl
  bufs:=h.bufs
  wb:=fun x=>hn (Or.inl x)
  ob:=fun x=>hn (Or.inr (Or.inl x))
  wo:=h.wo
  gw:=fun k hk=>by
    rintro (rfl | x | x)
    · exact hn (Or.inr (Or.inr hk))
    · exact (h.gw k hk).1 x
    · exact (h.gw k hk).2 x
  gn:=h.gn
  wok:=h.wok
  most:=h.most
  awt:=h.awt
  kn:=h.kn
  fok:=h.fok
theorem Rep.notL {w:World} {c:Array Value} {t:TypeId} {b o:Nat} {e:En} {p:Pl} (h:Rep w c t b o e p):¬ ELst p b:=by
  rintro (x | x | x)
  · exact h.wb x
  · exact h.ob x
  · exact h.gw b x (Or.inl rfl)
theorem RepL.keep {ex : Nat → Prop} {w w' : World} {e : En} {p : Pl} (h : RepL w e p) (k : Keep ex w w') (hn : ∀ i, ELst p i → ¬ ex i) : RepL w' e p where
  four:=h.four
  wrow:=h.wrow.keep k (fun g hg=>hn g (Or.inl hg))
  orow:=h.orow.keep k (fun g hg=>hn g (Or.inr (Or.inl hg)))
  gl:=h.gl
  bufs:=fun i g f hg hf=>(h.bufs i g f hg hf).keep k (hn g (Or.inr (Or.inr (List.mem_of_getElem? hg))))
  wo:=h.wo
  gw:=h.gw
  gn:=h.gn
  wok:=h.wok
  most:=h.most
  awt:=h.awt
  kn:=h.kn
  fok:=h.fok
theorem RepL.lt {w:World} {e:En} {p:Pl} (h:RepL w e p):∀ i,ELst p i→i < w.heap.size:=by
  rintro i (hi | hi | hi)
  · exact h.wrow.lt i hi
  · exact h.orow.lt i hi
  · obtain ⟨j,hj,rfl⟩:=List.getElem_of_mem hi
    have hj':j < e.out.length:=by have:=h.gl; omega
    exact (h.bufs j p.gs[j] e.out[j] (List.getElem?_eq_getElem hj) (List.getElem?_eq_getElem hj')).lt
structure Sd where
  to_:Nat
  e:En
  p:Pl
def sdcell (d:Sd):List Value:=.int .i64 (d.to_:Int) :: d.e.cells d.p
def sdcells (l:List Sd):List Value:=l.flatMap sdcell
structure Sp where
  b:Nat
  n:Nod
  p:Np
  sa:Option Addr
  sc:Nat
  ss:List Sd
def spcell (s:Sp):List Value:=[.pointer (some ⟨s.b,0,none⟩),.slice s.sa s.ss.length s.sc]
def spcells (l:List Sp):List Value:=l.flatMap spcell
structure Nt where
  nb:Nat
  ty:TypeId
  es:List Ed
  ea:Option Addr
  ec:Nat
  sps:List Sp
  pa:Option Addr
  pc:Nat
  L:List Pk
  ba:Option Addr
  bc:Nat
  way:Nat→Prop
inductive LP where
  | node | side
  | ends (j:Nat)
inductive Pt where
  | net | edges | spots | bag | pks | way
  | spot (i:Nat) (a:LP)
def Sp.own (s : Sp) : LP → Nat → Prop
  | .node,k=>NMine s.b s.p k
  | .side,k=>inB s.sa k
  | .ends j,k=>∃ d,s.ss[j]?=some d∧ELst d.p k
def Nt.own (N : Nt) : Pt → Nat → Prop
  | .net,k=>k=N.nb
  | .edges,k=>inB N.ea k
  | .spots,k=>inB N.pa k
  | .bag,k=>inB N.ba k
  | .pks,k=>∃ x ∈ N.L,x.g=k
  | .way,k=>N.way k
  | .spot i a,k=>∃ s,N.sps[i]?=some s∧s.own a k
def Nt.Own (N:Nt) (k:Nat):Prop:=∃ i,i≠Pt.way∧N.own i k
def Nt.cells (N:Nt):Array Value:=#[.slice N.ea N.es.length N.ec,.slice N.pa N.sps.length N.pc,.slice N.ba N.L.length N.bc]
structure NtR (w : World) (N : Nt) : Prop where
  blk:Blk w N.nb N.cells N.ty
  erow:RV w 30 3 N.ea N.es.length N.ec (ecells N.es)
  prow:RV w 125 2 N.pa N.sps.length N.pc (spcells N.sps)
  brow:RV w 200 4 N.ba N.L.length N.bc (pkcells N.L)
  pks:∀ x ∈ N.L,PRow w x.g x.l x.c
  pkn:N.L.Pairwise (fun x y=>x.g≠y.g)
  nods:∀ (i:Nat) (s:Sp),N.sps[i]?=some s→NRep w s.b s.n s.p
  sides:∀ (i:Nat) (s:Sp),N.sps[i]?=some s→RV w 181 25 s.sa s.ss.length s.sc (sdcells s.ss)
  ends:∀ (i:Nat) (s:Sp),N.sps[i]?=some s→∀ (j:Nat) (d:Sd),s.ss[j]?=some d→RepL w d.e d.p
  wayl:∀ k,N.way k→k < w.heap.size
  apart:∀ i j k,N.own i k→N.own j k→i=j
theorem NtR.lt {w:World} {N:Nt} (h:NtR w N):∀ i k,N.own i k→k < w.heap.size:=by
  intro i k hk
  cases i with
  | net=>rw [show k=N.nb from hk]; exact h.blk.lt
  | edges=>exact h.erow.lt k hk
  | spots=>exact h.prow.lt k hk
  | bag=>exact h.brow.lt k hk
  | pks=>obtain ⟨x,hx,rfl⟩:=hk; exact (h.pks x hx).lt x.g (inB_self _ _)
  | way=>exact h.wayl k hk
  | spot i a =>
    obtain ⟨s,hs,hk⟩:=hk
    cases a with
    | node=>exact (h.nods i s hs).lt k hk
    | side=>exact (h.sides i s hs).lt k hk
    | ends j=>obtain ⟨d,hd,hk⟩:=hk; exact (h.ends i s hs j d hd).lt k hk
theorem NtR.Olt {w:World} {N:Nt} (h:NtR w N) {k:Nat} (hk:N.Own k):k < w.heap.size:=by obtain ⟨i,_,hk⟩:=hk; exact h.lt i k hk
theorem NtR.keep {ex : Nat → Prop} {w w' : World} {N : Nt} (h : NtR w N) (k : Keep ex w w') (hn : ∀ i, N.Own i → ¬ ex i) : NtR w' N where
  blk:=h.blk.keep k (hn _ ⟨.net,by simp,rfl⟩)
  erow:=h.erow.keep k (fun g hg=>hn g ⟨.edges,by simp,hg⟩)
  prow:=h.prow.keep k (fun g hg=>hn g ⟨.spots,by simp,hg⟩)
  brow:=h.brow.keep k (fun g hg=>hn g ⟨.bag,by simp,hg⟩)
  pks:=fun x hx=>(h.pks x hx).keep k (fun g hg=>hn g ⟨.pks,by simp,x,hx,(inB_some.1 hg).symm⟩)
  pkn:=h.pkn
  nods:=fun i s hs=>(h.nods i s hs).keep k (fun g hg=>hn g ⟨.spot i .node,by simp,s,hs,hg⟩)
  sides:=fun i s hs=>(h.sides i s hs).keep k (fun g hg=>hn g ⟨.spot i .side,by simp,s,hs,hg⟩)
  ends:=fun i s hs j d hd=>(h.ends i s hs j d hd).keep k (fun g hg=>hn g ⟨.spot i (.ends j),by simp,s,hs,d,hd,hg⟩)
  wayl:=fun g hg=>Nat.lt_of_lt_of_le (h.wayl g hg) k.size
  apart:=h.apart
theorem apart_step {N N':Nt} {z:Nat} (I:Pt→Prop) (h:∀ i j k,N.own i k→N.own j k→i=j) (hl:∀ i k,N.own i k→k < z) (h0:∀ i,¬ I i→∀ k,N'.own i k→N.own i k) (h1:∀ i,I i→∀ k,N'.own i k→(∃ j,I j∧N.own j k)∨z≤k) (h2:∀ i j k,I i→I j→N'.own i k→N'.own j k→i=j):∀ i j k,N'.own i k→N'.own j k→i=j:=by
  have one:∀ i j k,I i→¬ I j→N'.own i k→N'.own j k→False:=fun i j k hi hj ki kj=>by
    have kj':=h0 j hj k kj
    rcases h1 i hi k ki with ⟨j',hj',x⟩ | x
    · exact hj (h j' j k x kj' ▸ hj')
    · have:=hl j k kj'; omega
  intro i j k ki kj
  by_cases hi:I i
  · by_cases hj:I j
    · exact h2 i j k hi hj ki kj
    · exact (one i j k hi hj ki kj).elim
  · by_cases hj:I j
    · exact (one j i k hj hi kj ki).elim
    · exact h i j k (h0 i hi k ki) (h0 j hj k kj)
def Sp.fix (s:Sp):Nat × Option Addr × Nat × List Nat:=(s.b,s.sa,s.sc,s.ss.map Sd.to_)
structure NtTo (w w' : World) (N N' : Nt) : Prop where
  keep:Keep N.Own w w'
  mine:∀ k,N'.Own k→N.Own k∨w.heap.size≤k
  nb:N'.nb=N.nb
  ty:N'.ty=N.ty
  es:N'.es=N.es
  ea:N'.ea=N.ea
  ec:N'.ec=N.ec
  pa:N'.pa=N.pa
  pc:N'.pc=N.pc
  fix:N'.sps.map Sp.fix=N.sps.map Sp.fix
theorem NtTo.refl (w:World) (N:Nt):NtTo w w N N:=⟨Keep.refl _ _,fun _ h=>Or.inl h,rfl,rfl,rfl,rfl,rfl,rfl,rfl,rfl⟩
theorem NtTo.of_keep {w w':World} (N:Nt) (k:Keep nil w w'):NtTo w w' N N:=⟨k.mono (fun _ _ e=>e.elim),fun _ h=>Or.inl h,rfl,rfl,rfl,rfl,rfl,rfl,rfl,rfl⟩
theorem NtTo.trans {w w1 w2:World} {N N1 N2:Nt} (h:NtTo w w1 N N1) (k:NtTo w1 w2 N1 N2):NtTo w w2 N N2 :=
  ⟨h.keep.trans' k.keep (fun i hi e=>by
    rcases h.mine i e with h1 | h1
    · exact h1
    · omega),fun i hi=>by
    rcases k.mine i hi with h1 | h1
    · exact h.mine i h1
    · exact Or.inr (Nat.le_trans h.keep.size h1),k.nb.trans h.nb,k.ty.trans h.ty,k.es.trans h.es,k.ea.trans h.ea,k.ec.trans h.ec,k.pa.trans h.pa,k.pc.trans h.pc,k.fix.trans h.fix⟩
theorem NtTo.spot {w w':World} {N N':Nt} (h:NtTo w w' N N') {i:Nat} {s:Sp} (hs:N.sps[i]?=some s):∃ s',N'.sps[i]?=some s'∧s'.fix=s.fix:=by
  have h1:(N'.sps.map Sp.fix)[i]?=some s.fix:=by rw [h.fix,List.getElem?_map,hs]; rfl
  rw [List.getElem?_map] at h1
  obtain ⟨s',h2,h3⟩:=Option.map_eq_some_iff.1 h1
  exact ⟨s',h2,h3⟩
theorem NtTo.len {w w':World} {N N':Nt} (h:NtTo w w' N N'):N'.sps.length=N.sps.length:=by
  have:=congrArg List.length h.fix
  simpa using this
theorem lset_get {α:Type} {l:List α} {i i':Nat} {x y:α} (h:(l.set i x)[i']?=some y):(i'=i∧y=x)∨(i'≠i∧l[i']?=some y):=by
  by_cases e:i=i'
  · subst e
    rw [List.getElem?_set_self'] at h
    obtain ⟨z,_,h2⟩:=Option.map_eq_some_iff.1 h
    exact Or.inl ⟨rfl,h2.symm⟩
  · rw [List.getElem?_set_ne e] at h
    exact Or.inr ⟨fun e'=>e e'.symm,h⟩
theorem lset_self {α:Type} {l:List α} {i:Nat} {y:α} (h:l[i]?=some y) (x:α):(l.set i x)[i]?=some x:=by
  rw [List.getElem?_set_self']; rw [h]; rfl
theorem map_set_eq {α β:Type} (f:α→β) (l:List α) (i:Nat) (x y:α) (h:l[i]?=some y) (he:f x=f y):(l.set i x).map f=l.map f:=by
  apply List.ext_getElem?
  intro k
  rw [List.getElem?_map,List.getElem?_map]
  by_cases e:i=k
  · subst e; rw [lset_self h,h]; simp [he]
  · rw [List.getElem?_set_ne e]
theorem flatMap_set_eq {α β:Type} (f:α→List β) (l:List α) (i:Nat) (x y:α) (h:l[i]?=some y) (he:f x=f y):(l.set i x).flatMap f=l.flatMap f:=by
  rw [List.flatMap_def,List.flatMap_def,map_set_eq f l i x y h he]
theorem fix_parts {s s':Sp} (h:s'.fix=s.fix):s'.b=s.b∧s'.sa=s.sa∧s'.sc=s.sc∧s'.ss.map Sd.to_=s.ss.map Sd.to_∧s'.ss.length=s.ss.length:=by
  simp only [Sp.fix,Prod.mk.injEq] at h
  obtain ⟨h1,h2,h3,h4⟩:=h
  exact ⟨h1,h2,h3,h4,by simpa using congrArg List.length h4⟩
theorem fix_cell {s s':Sp} (h:s'.fix=s.fix):spcell s'=spcell s:=by
  obtain ⟨h1,h2,h3,_,h5⟩:=fix_parts h
  simp [spcell,h1,h2,h3,h5]
def Nt.setS (N:Nt) (i:Nat) (s:Sp) (R:Nat→Prop):Nt:={ N with sps:=N.sps.set i s,way:=fun k=>N.way k∨R k }
theorem NtR.setS {w w' : World} {N : Nt} (h : NtR w N) {i : Nat} {s : Sp} (hs : N.sps[i]? = some s) (s' : Sp) (hf : s'.fix = s.fix) (R E : Nat → Prop) (hk : Keep E w w') (hE : ∀ k, E k → ∃ a, s.own a k)
    (hn:NRep w' s'.b s'.n s'.p) (hsd:RV w' 181 25 s'.sa s'.ss.length s'.sc (sdcells s'.ss)) (he:∀ (j:Nat) (d:Sd),s'.ss[j]?=some d→RepL w' d.e d.p)
    (hm:∀ a k,s'.own a k→(∃ b,s.own b k)∨w.heap.size≤k) (ha:∀ a b k,s'.own a k→s'.own b k→a=b) (hR:∀ k,R k→(∃ b,s.own b k)∧∀ a,¬ s'.own a k) :
    NtR w' (N.setS i s' R)∧NtTo w w' N (N.setS i s' R):=by
  have hsO:∀ a k,s.own a k→N.own (.spot i a) k:=fun a k hk=>⟨s,hs,hk⟩
  have hEO:∀ k,E k→N.Own k:=fun k hk=>by obtain ⟨a,h1⟩:=hE k hk; exact ⟨.spot i a,by simp,hsO a k h1⟩
  have hkO:Keep N.Own w w':=hk.mono (fun k _ e=>hEO k e)
  have notE:∀ (q:Pt) (k:Nat),N.own q k→(∀ a,q≠.spot i a)→¬ E k:=fun q k hq hne e=>by
    obtain ⟨a,h1⟩:=hE k e
    exact hne a (h.apart _ _ k hq (hsO a k h1))
  have old:∀ i' s2,(N.sps.set i s')[i']?=some s2→i'≠i→N.sps[i']?=some s2:=fun i' s2 h1 h2=>by
    rcases lset_get h1 with ⟨e,_⟩ | ⟨_,e⟩
    · exact (h2 e).elim
    · exact e
  refine ⟨⟨?_,?_,?_,?_,?_,h.pkn,?_,?_,?_,?_,?_⟩,⟨hkO,?_,rfl,rfl,rfl,rfl,rfl,rfl,rfl,map_set_eq Sp.fix N.sps i s' s hs hf⟩⟩
  · have:=h.blk.keep hk (notE .net N.nb rfl (by simp))
    simpa [Nt.cells,Nt.setS] using this
  · exact h.erow.keep hk (fun g hg=>notE .edges g hg (by simp))
  · have:=h.prow.keep hk (fun g hg=>notE .spots g hg (by simp))
    simpa [Nt.setS,spcells,flatMap_set_eq spcell N.sps i s' s hs (fix_cell hf)] using this
  · exact h.brow.keep hk (fun g hg=>notE .bag g hg (by simp))
  · exact fun x hx=>(h.pks x hx).keep hk (fun g hg=>notE .pks g ⟨x,hx,(inB_some.1 hg).symm⟩ (by simp))
  · intro i' s2 h1
    rcases lset_get h1 with ⟨e,rfl⟩ | ⟨e,h2⟩
    · exact hn
    · exact (h.nods i' s2 h2).keep hk (fun g hg=>notE (.spot i' .node) g ⟨s2,h2,hg⟩ (fun a x=>e (by cases x; rfl)))
  · intro i' s2 h1
    rcases lset_get h1 with ⟨e,rfl⟩ | ⟨e,h2⟩
    · exact hsd
    · exact (h.sides i' s2 h2).keep hk (fun g hg=>notE (.spot i' .side) g ⟨s2,h2,hg⟩ (fun a x=>e (by cases x; rfl)))
  · intro i' s2 h1 j d hd
    rcases lset_get h1 with ⟨e,rfl⟩ | ⟨e,h2⟩
    · exact he j d hd
    · exact (h.ends i' s2 h2 j d hd).keep hk (fun g hg=>notE (.spot i' (.ends j)) g ⟨s2,h2,d,hd,hg⟩ (fun a x=>e (by cases x; rfl)))
  · rintro k (hk1 | hk1)
    · exact Nat.lt_of_lt_of_le (h.wayl k hk1) hk.size
    · obtain ⟨⟨b,hb⟩,_⟩:=hR k hk1
      exact Nat.lt_of_lt_of_le (h.lt _ k (hsO b k hb)) hk.size
  · refine apart_step (N:=N) (z:=w.heap.size) (fun q=>q=.way∨∃ a,q=.spot i a) h.apart h.lt ?_ ?_ ?_
    · intro q hq k hk1
      cases q with
      | way=>exact (hq (Or.inl rfl)).elim
      | spot i' a =>
        obtain ⟨s2,h1,h2⟩:=hk1
        have hne:i'≠i:=fun e=>hq (Or.inr ⟨a,by rw [e]⟩)
        exact ⟨s2,old i' s2 h1 hne,h2⟩
      | _=>exact hk1
    · rintro q (rfl | ⟨a,rfl⟩) k hk1
      · rcases hk1 with hk1 | hk1
        · exact Or.inl ⟨.way,Or.inl rfl,hk1⟩
        · obtain ⟨⟨b,hb⟩,_⟩:=hR k hk1
          exact Or.inl ⟨.spot i b,Or.inr ⟨b,rfl⟩,hsO b k hb⟩
      · obtain ⟨s2,h1,h2⟩:=hk1
        rcases lset_get h1 with ⟨_,rfl⟩ | ⟨e,_⟩
        · rcases hm a k h2 with ⟨b,hb⟩ | h3
          · exact Or.inl ⟨.spot i b,Or.inr ⟨b,rfl⟩,hsO b k hb⟩
          · exact Or.inr h3
        · exact (e rfl).elim
    · have no:∀ a k,(N.setS i s' R).own .way k→(N.setS i s' R).own (.spot i a) k→False:=fun a k h1 h2=>by
        obtain ⟨s2,h3,h4⟩:=h2
        rcases lset_get h3 with ⟨_,rfl⟩ | ⟨e,_⟩
        · rcases h1 with h1 | h1
          · rcases hm a k h4 with ⟨b,hb⟩ | h5
            · have:=h.apart .way (.spot i b) k h1 (hsO b k hb); cases this
            · have:=h.wayl k h1; omega
          · exact (hR k h1).2 a h4
        · exact e rfl
      rintro q r k (rfl | ⟨a,rfl⟩) (rfl | ⟨b,rfl⟩) h1 h2
      · rfl
      · exact (no b k h1 h2).elim
      · exact (no a k h2 h1).elim
      · obtain ⟨s2,h3,h4⟩:=h1
        obtain ⟨s3,h5,h6⟩:=h2
        rcases lset_get h3 with ⟨_,rfl⟩ | ⟨e,_⟩
        · rcases lset_get h5 with ⟨_,rfl⟩ | ⟨e,_⟩
          · rw [ha a b k h4 h6]
          · exact (e rfl).elim
        · exact (e rfl).elim
  · rintro k ⟨q,hq,hk1⟩
    cases q with
    | way=>exact (hq rfl).elim
    | spot i' a =>
      obtain ⟨s2,h1,h2⟩:=hk1
      rcases lset_get h1 with ⟨rfl,rfl⟩ | ⟨e,h3⟩
      · rcases hm a k h2 with ⟨b,hb⟩ | h3
        · exact Or.inl ⟨.spot i' b,by simp,hsO b k hb⟩
        · exact Or.inr h3
      · exact Or.inl ⟨.spot i' a,by simp,s2,h3,h2⟩
    | net=>exact Or.inl ⟨.net,by simp,hk1⟩
    | edges=>exact Or.inl ⟨.edges,by simp,hk1⟩
    | spots=>exact Or.inl ⟨.spots,by simp,hk1⟩
    | bag=>exact Or.inl ⟨.bag,by simp,hk1⟩
    | pks=>exact Or.inl ⟨.pks,by simp,hk1⟩
theorem sd_split {ss:List Sd} {j:Nat} {d:Sd} (h:ss[j]?=some d):sdcells ss=sdcells (ss.take j)++sdcell d++sdcells (ss.drop (j + 1)):=by
  obtain ⟨hj,rfl⟩:=List.getElem?_eq_some_iff.1 h
  have h1:ss=ss.take j++ss[j] :: ss.drop (j + 1):=by rw [← List.drop_eq_getElem_cons hj,List.take_append_drop]
  have h2:=congrArg sdcells h1
  rw [h2]
  simp only [sdcells,List.flatMap_append,List.flatMap_cons,List.append_assoc]
theorem sd_split_set {ss:List Sd} {j:Nat} {d:Sd} (h:ss[j]?=some d) (d':Sd):sdcells (ss.set j d')=sdcells (ss.take j)++sdcell d'++sdcells (ss.drop (j + 1)):=by
  have h1:=sd_split (lset_self h d')
  rw [h1,List.take_set_of_le (Nat.le_refl j),List.drop_set_of_lt (Nat.lt_succ_self j)]
theorem sdcells_len (l:List Sd) (h:∀ d ∈ l,d.e.kept.length=4):(sdcells l).length=l.length * 25:=by
  induction l with
  | nil=>rfl
  | cons d t ih =>
    have hc:sdcells (d :: t)=sdcell d++sdcells t:=by simp [sdcells]
    rw [hc,List.length_append,ih (fun x hx=>h x (List.mem_cons_of_mem _ hx)),List.length_cons]
    have hl:(sdcell d).length=25:=by simp [sdcell,cells_len d.e d.p (h d (List.mem_cons_self ..))]
    omega
theorem put_mid (A B B' C:List Value) (x:Value) (n:Nat) (hn:n=A.length) (hl:B'.length=B.length):put (A++(x :: B)++C).toArray (n + 1) B'=(A++(x :: B')++C).toArray:=by
  subst hn
  unfold put
  have e1:(A++x :: B++C).take (A.length + 1)=A++[x]:=by
    rw [List.append_assoc,List.take_append,List.take_of_length_le (by omega)]; simp
  have e2:(A++x :: B++C).drop (A.length + 1 + B'.length)=C:=by
    rw [hl,show A.length + 1 + B.length=(A++x :: B).length by simp; omega,List.drop_left]
  simp only [List.toList_toArray]
  rw [e1,e2]; simp
theorem rv_pos {w:World} {e:TypeId} {size:Nat} {a:Option Addr} {n c:Nat} {vs:List Value} (h:RV w e size a n c vs) (hn:0 < n):∃ g o,a=some ⟨g,o,none⟩∧VBo w g o e size vs c:=by
  obtain ⟨_,_,h3⟩:=h
  rcases h3 with ⟨_,e,_⟩ | h3
  · omega
  · exact h3
def Nt.setE (N:Nt) (i:Nat) (s:Sp) (j:Nat) (d:Sd) (e:En) (p:Pl) (R:Nat→Prop):Nt:=N.setS i { s with ss:=s.ss.set j { d with e:=e,p:=p } } R
theorem NtR.atEnd {w:World} {N:Nt} (h:NtR w N) {i j:Nat} {s:Sp} {d:Sd} (hs:N.sps[i]?=some s) (hd:s.ss[j]?=some d) :
    ∃ g o c,s.sa=some ⟨g,o,none⟩∧g < w.heap.size∧w.cell? ⟨g,o + j * 25,none⟩=some (.int .i64 (d.to_:Int))∧Rep w c 181 g (o + j * 25 + 1) d.e d.p ∧
      ∀ (w':World) (e':En) (p':Pl) (R:Nat→Prop),Rep w' c 181 g (o + j * 25 + 1) e' p'→Keep (fun k=>k=g∨ELst d.p k) w w'→(∀ k,ELst p' k→ELst d.p k∨w.heap.size≤k)→(∀ k,R k→ELst d.p k∧¬ ELst p' k) →
        NtR w' (N.setE i s j d e' p' R)∧NtTo w w' N (N.setE i s j d e' p' R):=by
  have hjl:=(List.getElem?_eq_some_iff.1 hd).1
  obtain ⟨g,o,hsa,pre,sp,hb,hpre,hcap⟩:=rv_pos (h.sides i s hs) (by omega)
  have four:∀ x ∈ s.ss,x.e.kept.length=4:=fun x hx=>by
    obtain ⟨j',hj',rfl⟩:=List.getElem_of_mem hx
    exact (h.ends i s hs j' _ (List.getElem?_eq_getElem hj')).four
  have hE:=h.ends i s hs j d hd
  have hlen:=sdcells_len s.ss four
  have hpl:(pre++sdcells (s.ss.take j)).length=o + j * 25:=by
    rw [List.length_append,sdcells_len _ (fun x hx=>four x (List.mem_of_mem_take hx)),List.length_take,hpre]
    rw [Nat.min_eq_left (by omega)]
  have hcells:∀ d':Sd,pre++sdcells (s.ss.set j d')++sp=(pre++sdcells (s.ss.take j))++(Value.int .i64 (d'.to_:Int) :: d'.e.cells d'.p)++(sdcells (s.ss.drop (j + 1))++sp):=fun d'=>by
    rw [sd_split_set hd]; simp [sdcell]
  have hcell0:pre++sdcells s.ss++sp=(pre++sdcells (s.ss.take j))++(Value.int .i64 (d.to_:Int) :: d.e.cells d.p)++(sdcells (s.ss.drop (j + 1))++sp):=by
    rw [sd_split hd]; simp [sdcell]
  have own0:∀ a b k,s.own a k→s.own b k→a=b:=fun a b k h1 h2=>by
    have:=h.apart (.spot i a) (.spot i b) k ⟨s,hs,h1⟩ ⟨s,hs,h2⟩
    cases this; rfl
  have hgl:∀ (j':Nat) (d':Sd),s.ss[j']?=some d'→¬ ELst d'.p g:=fun j' d' h1 h2=>by
    have:=own0 (.ends j') .side g ⟨d',h1,h2⟩ (by rw [show s.own .side g=inB s.sa g from rfl,hsa]; exact inB_self g o)
    cases this
  have hput:∀ (e':En) (p':Pl),e'.kept.length=4→put (pre++sdcells s.ss++sp).toArray (o + j * 25 + 1) (e'.cells p')=(pre++sdcells (s.ss.set j { d with e:=e',p:=p' })++sp).toArray:=fun e' p' h4=>by
    rw [hcells,hcell0]
    exact put_mid _ _ _ _ _ _ hpl.symm (by rw [cells_len e' p' h4,cells_len d.e d.p hE.four])
  have hsz:o + j * 25 + 1 + 24≤(pre++sdcells s.ss++sp).toArray.size:=by
    have:(j + 1) * 25≤s.ss.length * 25:=Nat.mul_le_mul_right _ hjl
    simp only [List.size_toArray,List.length_append,hpre,hlen]; omega
  refine ⟨g,o,(pre++sdcells s.ss++sp).toArray,hsa,hb.lt,?_,hE.rep ?_ hsz (hgl j d hd),?_⟩
  · rw [hb.cell,hcell0,List.getElem?_toArray,List.append_assoc,List.getElem?_append_right (by omega),← hpl,Nat.sub_self]; rfl
  · rw [hput d.e d.p hE.four]
    have:s.ss.set j { d with e:=d.e,p:=d.p }=s.ss:=by
      apply List.ext_getElem?
      intro k
      by_cases e:j=k
      · subst e; rw [lset_self hd,hd]
      · rw [List.getElem?_set_ne e]
    rw [this]; exact hb
  · intro w' e' p' R hr hk hm hR
    have hfix:({ s with ss:=s.ss.set j { d with e:=e',p:=p' } }:Sp).fix=s.fix:=by
      simp only [Sp.fix]; rw [map_set_eq Sd.to_ s.ss j { d with e:=e',p:=p' } d hd rfl]
    have oldE:∀ k,ELst d.p k→s.own (.ends j) k:=fun k hk=>⟨d,hd,hk⟩
    have gside:s.own .side g:=by rw [show s.own .side g=inB s.sa g from rfl,hsa]; exact inB_self g o
    have notE:∀ (a:LP) (k:Nat),s.own a k→a≠.side→a≠.ends j→¬ (k=g∨ELst d.p k):=fun a k h1 h2 h3 h4=>by
      rcases h4 with h4 | h4
      · subst h4; exact h2 (own0 _ _ _ h1 gside)
      · exact h3 (own0 _ _ _ h1 (oldE k h4))
    refine h.setS hs _ hfix R (fun k=>k=g∨ELst d.p k) hk ?_ ?_ ?_ ?_ ?_ ?_ ?_
    · rintro k (rfl | h1)
      · exact ⟨.side,gside⟩
      · exact ⟨.ends j,oldE k h1⟩
    · exact (h.nods i s hs).keep hk (fun k h1=>notE .node k h1 (by simp) (by simp))
    · show RV w' 181 25 s.sa (s.ss.set j _).length s.sc _
      rw [List.length_set,hsa]
      have hl2:(sdcells (s.ss.set j { d with e:=e',p:=p' })).length=s.ss.length * 25:=by
        rw [sdcells_len,List.length_set]
        intro x hx
        rcases List.mem_or_eq_of_mem_set hx with h1 | h1
        · exact four x h1
        · rw [h1]; exact hr.four
      refine ⟨hl2,(h.sides i s hs).2.1,Or.inr ⟨g,o,rfl,pre,sp,?_,hpre,by rw [hl2]; rw [hlen] at hcap; exact hcap⟩⟩
      rw [← hput e' p' hr.four]
      exact hr.blk
    · intro j' d' h1
      rcases lset_get h1 with ⟨_,rfl⟩ | ⟨hne,h2⟩
      · exact hr.lst
      · exact (h.ends i s hs j' d' h2).keep hk (fun k h3=>notE (.ends j') k ⟨d',h2,h3⟩ (by simp) (fun x=>hne (by cases x; rfl)))
    · intro a k h1
      cases a with
      | node=>exact Or.inl ⟨.node,h1⟩
      | side=>exact Or.inl ⟨.side,h1⟩
      | ends j' =>
        obtain ⟨d',h2,h3⟩:=h1
        rcases lset_get h2 with ⟨_,rfl⟩ | ⟨hne,h4⟩
        · rcases hm k h3 with h5 | h5
          · exact Or.inl ⟨.ends j,oldE k h5⟩
          · exact Or.inr h5
        · exact Or.inl ⟨.ends j',d',h4,h3⟩
    · have lt0:∀ a k,s.own a k→k < w.heap.size:=fun a k h1=>h.lt (.spot i a) k ⟨s,hs,h1⟩
      have oth:∀ a k,a≠.ends j→({ s with ss:=s.ss.set j { d with e:=e',p:=p' } }:Sp).own a k→s.own a k:=fun a k hne h1=>by
        cases a with
        | node=>exact h1
        | side=>exact h1
        | ends j' =>
          obtain ⟨d',h2,h3⟩:=h1
          rcases lset_get h2 with ⟨e,_⟩ | ⟨_,h4⟩
          · exact (hne (by rw [e])).elim
          · exact ⟨d',h4,h3⟩
      have mine:∀ k,({ s with ss:=s.ss.set j { d with e:=e',p:=p' } }:Sp).own (.ends j) k→ELst p' k:=fun k h1=>by
        obtain ⟨d',h2,h3⟩:=h1
        rcases lset_get h2 with ⟨_,rfl⟩ | ⟨hne,_⟩
        · exact h3
        · exact (hne rfl).elim
      have one:∀ a k,a≠.ends j→({ s with ss:=s.ss.set j { d with e:=e',p:=p' } }:Sp).own a k→ELst p' k→False:=fun a k hne h1 h2=>by
        have h3:=oth a k hne h1
        rcases hm k h2 with h4 | h4
        · exact hne (own0 _ _ _ h3 (oldE k h4))
        · have:=lt0 a k h3; omega
      intro a b k h1 h2
      by_cases ha:a=.ends j
      · by_cases hb:b=.ends j
        · rw [ha,hb]
        · subst ha; exact (one b k hb h2 (mine k h1)).elim
      · by_cases hb:b=.ends j
        · subst hb; exact (one a k ha h1 (mine k h2)).elim
        · exact own0 a b k (oth a k ha h1) (oth b k hb h2)
    · intro k h1
      obtain ⟨h2,h3⟩:=hR k h1
      refine ⟨⟨.ends j,oldE k h2⟩,fun a h4=>?_⟩
      cases a with
      | node=>have:=own0 _ .node _ (oldE k h2) h4; cases this
      | side=>have:=own0 _ .side _ (oldE k h2) h4; cases this
      | ends j' =>
        obtain ⟨d',h5,h6⟩:=h4
        rcases lset_get h5 with ⟨_,rfl⟩ | ⟨hne,h7⟩
        · exact h3 h6
        · have:=own0 _ _ _ (oldE k h2) (show s.own (.ends j') k from ⟨d',h7,h6⟩)
          cases this; exact hne rfl
def Nt.setN (N:Nt) (i:Nat) (s:Sp) (n:Nod) (p:Np) (R:Nat→Prop):Nt:=N.setS i { s with n:=n,p:=p } R
theorem NtR.setN {w w':World} {N:Nt} (h:NtR w N) {i:Nat} {s:Sp} (hs:N.sps[i]?=some s) (n':Nod) (p':Np) (R:Nat→Prop) (hr:NRep w' s.b n' p') (hk:Keep (NMine s.b s.p) w w') (hm:∀ k,NMine s.b p' k→NMine s.b s.p k∨w.heap.size≤k) (hR:∀ k,R k→NMine s.b s.p k∧¬ NMine s.b p' k) :
    NtR w' (N.setN i s n' p' R)∧NtTo w w' N (N.setN i s n' p' R):=by
  have own0:∀ a b k,s.own a k→s.own b k→a=b:=fun a b k h1 h2=>by
    have:=h.apart (.spot i a) (.spot i b) k ⟨s,hs,h1⟩ ⟨s,hs,h2⟩
    cases this; rfl
  have lt0:∀ a k,s.own a k→k < w.heap.size:=fun a k h1=>h.lt (.spot i a) k ⟨s,hs,h1⟩
  have nn:∀ k,NMine s.b s.p k→s.own .node k:=fun k h1=>h1
  have notE:∀ (a:LP) (k:Nat),s.own a k→a≠.node→¬ NMine s.b s.p k:=fun a k h1 h2 h3=>h2 (own0 _ _ _ h1 (nn k h3))
  refine h.setS hs { s with n:=n',p:=p' } rfl R (NMine s.b s.p) hk (fun k h1=>⟨.node,h1⟩) hr ?_ ?_ ?_ ?_ ?_
  · exact (h.sides i s hs).keep hk (fun k h1=>notE .side k h1 (by simp))
  · exact fun j d hd=>(h.ends i s hs j d hd).keep hk (fun k h1=>notE (.ends j) k ⟨d,hd,h1⟩ (by simp))
  · intro a k h1
    cases a with
    | node=>exact (hm k h1).imp (fun x=>⟨.node,x⟩) id
    | side=>exact Or.inl ⟨.side,h1⟩
    | ends j=>exact Or.inl ⟨.ends j,h1⟩
  · have one:∀ a k,a≠.node→s.own a k→NMine s.b p' k→False:=fun a k hne h1 h2=>by
      rcases hm k h2 with h4 | h4
      · exact hne (own0 _ _ _ h1 (nn k h4))
      · have:=lt0 a k h1; omega
    intro a b k h1 h2
    cases a with
    | node =>
      cases b with
      | node=>rfl
      | side=>exact (one .side k (by simp) h2 h1).elim
      | ends j=>exact (one (.ends j) k (by simp) h2 h1).elim
    | side =>
      cases b with
      | node=>exact (one .side k (by simp) h1 h2).elim
      | side=>rfl
      | ends j=>exact own0 .side (.ends j) k h1 h2
    | ends j =>
      cases b with
      | node=>exact (one (.ends j) k (by simp) h1 h2).elim
      | side=>exact own0 (.ends j) .side k h1 h2
      | ends j'=>exact own0 (.ends j) (.ends j') k h1 h2
  · intro k h1
    obtain ⟨h2,h3⟩:=hR k h1
    refine ⟨⟨.node,h2⟩,fun a h4=>?_⟩
    cases a with
    | node=>exact h3 h4
    | side=>exact notE .side k h4 (by simp) h2
    | ends j=>exact notE (.ends j) k h4 (by simp) h2
theorem NtR.bag {w:World} {N:Nt} (h:NtR w N):Bag w N.nb 2 N.L N.ba N.bc :=
  ⟨h.blk.lt,by rw [h.blk.cell]; rfl,h.blk.frozen _,h.brow,fun e=>by have:=h.apart .bag .net N.nb e rfl; cases this⟩
theorem NtR.wayTo {w w':World} {N:Nt} (h:NtR w N) (k:Keep nil w w') (W:Nat→Prop) (hW:∀ i,W i→N.way i∨(w.heap.size≤i∧i < w'.heap.size)):NtR w' { N with way:=W }:=by
  have h1:=h.keep k (fun _ _ e=>e)
  refine ⟨h1.blk,h1.erow,h1.prow,h1.brow,h1.pks,h1.pkn,h1.nods,h1.sides,h1.ends,?_,?_⟩
  · intro i hi
    rcases hW i hi with e | e
    · exact Nat.lt_of_lt_of_le (h.wayl i e) k.size
    · exact e.2
  · refine apart_step (N:=N) (z:=w.heap.size) (fun q=>q=.way) h.apart h.lt ?_ ?_ ?_
    · intro q hq i hi
      cases q with
      | way=>exact (hq rfl).elim
      | spot i' a=>exact hi
      | _=>exact hi
    · rintro q rfl i hi
      rcases hW i hi with e | e
      · exact Or.inl ⟨.way,rfl,e⟩
      · exact Or.inr e.1
    · rintro q r i rfl rfl _ _; rfl
theorem own_way {N:Nt} {W:Nat→Prop} {k:Nat}:({ N with way:=W }:Nt).Own k ↔ N.Own k:=by
  constructor
  · rintro ⟨q,hq,hk⟩
    cases q with
    | way=>exact (hq rfl).elim
    | net=>exact ⟨.net,by simp,hk⟩
    | edges=>exact ⟨.edges,by simp,hk⟩
    | spots=>exact ⟨.spots,by simp,hk⟩
    | bag=>exact ⟨.bag,by simp,hk⟩
    | pks=>exact ⟨.pks,by simp,hk⟩
    | spot i a=>exact ⟨.spot i a,by simp,hk⟩
  · rintro ⟨q,hq,hk⟩
    cases q with
    | way=>exact (hq rfl).elim
    | net=>exact ⟨.net,by simp,hk⟩
    | edges=>exact ⟨.edges,by simp,hk⟩
    | spots=>exact ⟨.spots,by simp,hk⟩
    | bag=>exact ⟨.bag,by simp,hk⟩
    | pks=>exact ⟨.pks,by simp,hk⟩
    | spot i a=>exact ⟨.spot i a,by simp,hk⟩
theorem NtTo.way {w w':World} {N N':Nt} (h:NtTo w w' N N') (W W':Nat→Prop):NtTo w w' { N with way:=W } { N' with way:=W' } :=
  ⟨h.keep.mono (fun k _ e=>own_way.2 e),fun k hk=>(h.mine k (own_way.1 hk)).imp own_way.2 id,h.nb,h.ty,h.es,h.ea,h.ec,h.pa,h.pc,h.fix⟩
def Nt.setB (N:Nt) (L:List Pk) (ba:Option Addr) (bc:Nat) (W:Nat→Prop):Nt:={ N with L:=L,ba:=ba,bc:=bc,way:=W }
theorem NtR.setB {w w' : World} {N : Nt} (h : NtR w N) (L' : List Pk) (ba' : Option Addr) (bc' : Nat) (W : Nat → Prop) (hb : Bag w' N.nb 2 L' ba' bc') (hto : BagTo w w' N.nb 2 N.ba ba' (.slice ba' L'.length bc'))
    (hp:∀ x ∈ L',x ∈ N.L∨(N.way x.g∧PRow w x.g x.l x.c)) (hn:L'.Pairwise (fun x y=>x.g≠y.g)) (hW:∀ k,W k→N.way k∧∀ x ∈ L',x.g≠k) :
    NtR w' (N.setB L' ba' bc' W)∧∀ w0 N0,NtTo w0 w N0 N→(∀ x ∈ L',x ∈ N.L∨N0.Own x.g∨w0.heap.size≤x.g)→NtTo w0 w' N0 (N.setB L' ba' bc' W):=by
  have hk:=hto.keep
  have notE:∀ (q:Pt) (k:Nat),N.own q k→q≠.net→q≠.bag→¬ (k=N.nb∨inB N.ba k):=fun q k hq h1 h2 e=>by
    rcases e with e | e
    · exact h1 (h.apart _ _ k hq e)
    · exact h2 (h.apart _ _ k hq e)
  refine ⟨⟨?_,?_,?_,hb.row,?_,hn,?_,?_,?_,?_,?_⟩,?_⟩
  · exact hto.blk N.cells N.ty h.blk
  · exact h.erow.keep hk (fun g hg=>notE .edges g hg (by simp) (by simp))
  · exact h.prow.keep hk (fun g hg=>notE .spots g hg (by simp) (by simp))
  · intro x hx
    rcases hp x hx with e | ⟨e,e2⟩
    · exact (h.pks x e).keep hk (fun g hg=>notE .pks g ⟨x,e,(inB_some.1 hg).symm⟩ (by simp) (by simp))
    · exact e2.keep hk (fun g hg=>by rw [inB_some.1 hg]; exact notE .way x.g e (by simp) (by simp))
  · exact fun i s hs=>(h.nods i s hs).keep hk (fun g hg=>notE (.spot i .node) g ⟨s,hs,hg⟩ (by simp) (by simp))
  · exact fun i s hs=>(h.sides i s hs).keep hk (fun g hg=>notE (.spot i .side) g ⟨s,hs,hg⟩ (by simp) (by simp))
  · exact fun i s hs j d hd=>(h.ends i s hs j d hd).keep hk (fun g hg=>notE (.spot i (.ends j)) g ⟨s,hs,d,hd,hg⟩ (by simp) (by simp))
  · exact fun k hk1=>Nat.lt_of_lt_of_le (h.wayl k (hW k hk1).1) hk.size
  · refine apart_step (N:=N) (z:=w.heap.size) (fun q=>q=.way∨q=.bag∨q=.pks) h.apart h.lt ?_ ?_ ?_
    · intro q hq k hk1
      cases q with
      | way=>exact (hq (Or.inl rfl)).elim
      | bag=>exact (hq (Or.inr (Or.inl rfl))).elim
      | pks=>exact (hq (Or.inr (Or.inr rfl))).elim
      | _=>exact hk1
    · rintro q (rfl | rfl | rfl) k hk1
      · exact Or.inl ⟨.way,Or.inl rfl,(hW k hk1).1⟩
      · rcases hto.mine k hk1 with e | e
        · exact Or.inl ⟨.bag,Or.inr (Or.inl rfl),e⟩
        · exact Or.inr e
      · obtain ⟨x,hx,rfl⟩:=hk1
        rcases hp x hx with e | ⟨e,_⟩
        · exact Or.inl ⟨.pks,Or.inr (Or.inr rfl),x,e,rfl⟩
        · exact Or.inl ⟨.way,Or.inl rfl,e⟩
    · have wp:∀ k,W k→(∃ x ∈ L',x.g=k)→False:=fun k h1 ⟨x,hx,e⟩=>(hW k h1).2 x hx e
      have bw:∀ k,inB ba' k→N.way k→False:=fun k h1 h2=>by
        rcases hto.mine k h1 with e | e
        · have:=h.apart .bag .way k e h2; cases this
        · have:=h.wayl k h2; omega
      have bp:∀ k,inB ba' k→(∃ x ∈ L',x.g=k)→False:=fun k h1 ⟨x,hx,e2⟩=>by
        subst e2
        rcases hp x hx with e | ⟨e,_⟩
        · rcases hto.mine _ h1 with e3 | e3
          · have:=h.apart .bag .pks _ e3 ⟨x,e,rfl⟩; cases this
          · have:=(h.pks x e).lt x.g (inB_self _ _); omega
        · exact bw _ h1 e
      rintro q r k (rfl | rfl | rfl) (rfl | rfl | rfl) h1 h2
      · rfl
      · exact (bw k h2 (hW k h1).1).elim
      · exact (wp k h1 h2).elim
      · exact (bw k h1 (hW k h2).1).elim
      · rfl
      · exact (bp k h1 h2).elim
      · exact (wp k h2 h1).elim
      · exact (bp k h2 h1).elim
      · rfl
  · intro w0 N0 t hx
    have hown:∀ k,(k=N.nb∨inB N.ba k)→N.Own k:=fun k e=>by
      rcases e with e | e
      · exact ⟨.net,by simp,e⟩
      · exact ⟨.bag,by simp,e⟩
    refine ⟨t.keep.trans' hk (fun i hi e=>?_),?_,t.nb,t.ty,t.es,t.ea,t.ec,t.pa,t.pc,t.fix⟩
    · rcases t.mine i (hown i e) with h1 | h1
      · exact h1
      · omega
    · rintro k ⟨q,hq,hk1⟩
      cases q with
      | way=>exact (hq rfl).elim
      | net=>exact t.mine k ⟨.net,by simp,hk1⟩
      | edges=>exact t.mine k ⟨.edges,by simp,hk1⟩
      | spots=>exact t.mine k ⟨.spots,by simp,hk1⟩
      | bag =>
        rcases hto.mine k hk1 with e | e
        · exact t.mine k ⟨.bag,by simp,e⟩
        · exact Or.inr (Nat.le_trans t.keep.size e)
      | pks =>
        obtain ⟨x,hx1,rfl⟩:=hk1
        rcases hx x hx1 with e | e
        · exact t.mine _ ⟨.pks,by simp,x,e,rfl⟩
        · exact e
      | spot i a=>exact t.mine k ⟨.spot i a,by simp,hk1⟩
end Go.Proofs.YtlfijfodklhplaaGreat
