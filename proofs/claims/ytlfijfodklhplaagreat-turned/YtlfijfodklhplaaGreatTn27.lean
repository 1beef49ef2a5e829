import Derived.Test.YtlfijfodklhplaaGreatTn26
import Derived.Test.YtlfijfodklhplaaGreatTn23
import Derived.Test.YtlfijfodklhplaaGreatTn09
import Derived.Test.YtlfijfodklhplaaGreatTn24
set_option maxRecDepth 100000
set_option maxHeartbeats 2000000
set_option linter.unusedVariables false
set_option linter.unusedSimpArgs false
namespace Go.Proofs.YtlfijfodklhplaaGreat
open Go.RowKit
def gcs(esv:Value)(R:Nat→Bool)(cnt:Nat)(sl:Value):Array Value:=
 #[esv,.bool (R 0),.bool (R 1),.bool (R 2),.bool (R 3),.bool (R 4),.bool (R 5),.bool (R 6),.bool (R 7),.bool (R 8),.bool (R 9),.int .i64 (cnt:Int),sl]
def mark(R:Nat→Bool)(k:Nat)(i:Nat):Bool:=if i=k then true else R i
theorem gcs_get(esv:Value)(R:Nat→Bool)(cnt:Nat)(sl:Value)(k:Nat)(hk:k<10):(gcs esv R cnt sl)[1+k]?=some (.bool (R k)):=by
 match k,hk with
 |0,_=>rfl
 |1,_=>rfl
 |2,_=>rfl
 |3,_=>rfl
 |4,_=>rfl
 |5,_=>rfl
 |6,_=>rfl
 |7,_=>rfl
 |8,_=>rfl
 |9,_=>rfl
theorem gcs_mark(esv:Value)(R:Nat→Bool)(cnt:Nat)(sl:Value)(k:Nat)(hk:k<10):(gcs esv R cnt sl).setIfInBounds (1+k) (.bool true)=gcs esv (mark R k) cnt sl:=by
 match k,hk with
 |0,_=>rfl
 |1,_=>rfl
 |2,_=>rfl
 |3,_=>rfl
 |4,_=>rfl
 |5,_=>rfl
 |6,_=>rfl
 |7,_=>rfl
 |8,_=>rfl
 |9,_=>rfl
structure Gw(ex:Nat→Prop)(W0 w:World)(gb:Nat)(esv:Value)(R:Nat→Bool)(cnt:Nat)(a:Option Addr)(n c:Nat)(L:List Th):Prop where
 keep:Keep ex W0 w
 g0:ex gb∨W0.heap.size≤gb
 heap:HeapAt w gb 12 (gcs esv R cnt (.slice a n c)) 174 a n c L
 pile:∀b,a=some ⟨b,0,none⟩→ex b∨W0.heap.size≤b
theorem Gw.same{ex:Nat→Prop}{W0 w w1:World}{gb:Nat}{esv:Value}{R:Nat→Bool}{cnt:Nat}{a:Option Addr}{n c:Nat}{L:List Th}(h:Gw ex W0 w gb esv R cnt a n c L)(k:Keep nil w w1):Gw ex W0 w1 gb esv R cnt a n c L:=
 ⟨h.keep.trans' k (fun _ _ e=>e.elim),h.g0,⟨h.heap.blk.keep k (fun e=>e),h.heap.at_,h.heap.len,h.heap.cap,h.heap.row.imp id (fun⟨pb,h1,h2,h3⟩=>⟨pb,h1,h2,h3.keep k (fun e=>e)⟩)⟩,h.pile⟩
theorem Gw.to{ex:Nat→Prop}{W0 w w':World}{gb:Nat}{esv:Value}{R:Nat→Bool}{cnt:Nat}{a:Option Addr}{n c:Nat}{L:List Th}{P:List Th→Prop}(h:Gw ex W0 w gb esv R cnt a n c L)(ht:HeapTo w w' gb 12 (gcs esv R cnt (.slice a n c)) 174 a P):
 ∃a' n' c' L',Gw ex W0 w' gb esv R cnt a' n' c' L'∧P L':=by
 obtain⟨a',n',c',L',g1,g2,g3,g4⟩:=ht
 have hs:=h.keep.size
 refine⟨a',n',c',L',⟨h.keep.trans' g4 (fun i hi e=>?_),h.g0,g1,fun b hb=>?_⟩,g2⟩
 ·rcases e with e|e
  ·rcases h.g0 with e2|e2
   ·rw[e];exact e2
   ·omega
  ·rcases h.pile i e with e2|e2
   ·exact e2
   ·omega
 ·rcases g3 b hb with e|e
  ·exact h.pile b e
  ·exact Or.inr (by omega)
theorem Gw.here{ex:Nat→Prop}{W0 w:World}{gb:Nat}{esv:Value}{R:Nat→Bool}{cnt:Nat}{a:Option Addr}{n c:Nat}{L:List Th}(h:Gw ex W0 w gb esv R cnt a n c L):Gw (fun b=>b=gb∨a=some ⟨b,0,none⟩) w w gb esv R cnt a n c L:=
 ⟨Keep.refl _ _,Or.inl (Or.inl rfl),h.heap,fun b e=>Or.inl (Or.inr e)⟩
theorem Gw.back{ex:Nat→Prop}{W0 w w':World}{gb:Nat}{esv:Value}{R:Nat→Bool}{cnt:Nat}{a:Option Addr}{n c:Nat}{L:List Th}{esv':Value}{R':Nat→Bool}{cnt':Nat}{a':Option Addr}{n' c':Nat}{L':List Th}
 (h:Gw ex W0 w gb esv R cnt a n c L) (h':Gw (fun b=>b=gb∨a=some ⟨b,0,none⟩) w w' gb esv' R' cnt' a' n' c' L'):Gw ex W0 w' gb esv' R' cnt' a' n' c' L':=by
 have hs:=h.keep.size
 refine⟨h.keep.trans' h'.keep (fun i hi e=>?_),h.g0,h'.heap,fun b hb=>?_⟩
 ·rcases e with e|e
  ·rcases h.g0 with e2|e2
   ·rw[e];exact e2
   ·omega
  ·rcases h.pile i e with e2|e2
   ·exact e2
   ·omega
 ·rcases h'.pile b hb with (e|e)|e
  ·rw[e];exact h.g0
  ·exact h.pile b e
  ·exact Or.inr (by omega)
def touch(es:List Ed)(k:Int)(x:Th):Prop:=∃e∈es,(e.a=k∨e.b=k)∧x=⟨e,e.wt⟩
theorem reach_old(ex:Nat→Prop)(W0 w:World)(gb:Nat)(esv:Value)(R:Nat→Bool)(cnt:Nat)(a:Option Addr)(n c:Nat)(L:List Th)(k:Nat)(h:Gw ex W0 w gb esv R cnt a n c L)(hk:k<10)(hR:R k=true):
 Calls Tryz.prog 102 #[.pointer (some ⟨gb,0,none⟩),.int .i64 (k:Int)] w fun r w'=>r=.returned (.tuple #[])∧w=w':=by
 have hc:=h.heap.blk.cell (1+k)
 rw[gcs_get _ _ _ _ _ hk,hR]at hc
 have hkI:(k:Int)<10:=by omega
 clear h hR
 go_enter Tryz.func102,Tryz.ntmps102
 go_wp2
 refine bodyPost_ret (results_none rfl _ _ _) rfl ?_
 exact⟨rfl,rfl⟩
theorem touch_succ{es:List Ed}{i:Nat}{e:Ed}(he:es[i]?=some e)(k:Int)(x:Th):touch (es.take (i+1)) k x↔touch (es.take i) k x∨((e.a=k∨e.b=k)∧x=⟨e,e.wt⟩):=by
 have hl:=(List.getElem?_eq_some_iff.1 he).1
 have hx:=(List.getElem?_eq_some_iff.1 he).2
 have e1:es.take (i+1)=es.take i++[e]:=by rw[List.take_add_one,he];rfl
 unfold touch
 rw[e1]
 constructor
 ·rintro⟨u,hu,h1,h2⟩
  rcases List.mem_append.1 hu with h|h
  ·exact Or.inl ⟨u,h,h1,h2⟩
  ·simp at h;subst h;exact Or.inr ⟨h1,h2⟩
 ·rintro (⟨u,hu,h1,h2⟩|⟨h1,h2⟩)
  ·exact⟨u,List.mem_append_left _ hu,h1,h2⟩
  ·exact⟨e,by simp,h1,h2⟩
theorem Gw.mark{ex:Nat→Prop}{W0 w:World}{gb:Nat}{esv:Value}{R:Nat→Bool}{cnt:Nat}{a:Option Addr}{n c:Nat}{L:List Th}(h:Gw ex W0 w gb esv R cnt a n c L)(k:Nat)(hk:k<10):
 Gw ex W0 ((w.setCell ⟨gb,1+k,none⟩ (.bool true)).setCell ⟨gb,11,none⟩ (.int .i64 ((cnt:Int)+1))) gb esv (Go.Proofs.YtlfijfodklhplaaGreat.mark R k) (cnt+1) a n c L:=by
 have ks:Keep (only gb) w ((w.setCell ⟨gb,1+k,none⟩ (.bool true)).setCell ⟨gb,11,none⟩ (.int .i64 ((cnt:Int)+1))):=((Keep.refl (only gb) w).setCell (p:=⟨gb,1+k,none⟩) (fun _=>rfl) _).setCell (p:=⟨gb,11,none⟩) (fun _=>rfl) _
 have hb:=(h.heap.blk.set (1+k) (.bool true)).set 11 (.int .i64 ((cnt:Int)+1))
 rw[gcs_mark _ _ _ _ _ hk]at hb
 refine⟨h.keep.trans' ks (fun i hi e=>by
  simp only[only]at e
  rcases h.g0 with e2|e2
  ·rw[e];exact e2
  ·omega),h.g0,⟨?_,rfl,h.heap.len,h.heap.cap,h.heap.row.imp id (fun⟨pb,h1,h2,h3⟩=>⟨pb,h1,h2,h3.keep ks (fun e=>h2 e.symm)⟩)⟩,h.pile⟩
 have e:((gcs esv (Go.Proofs.YtlfijfodklhplaaGreat.mark R k) cnt (.slice a n c)).setIfInBounds 11 (.int .i64 ((cnt:Int)+1)))=gcs esv (Go.Proofs.YtlfijfodklhplaaGreat.mark R k) (cnt+1) (.slice a n c):=by
  unfold gcs
  simp
 rw[e]at hb
 exact hb
def card(R:Nat→Bool):Nat→Nat
 |0=>0
 |n+1=>card R n+(if R n=true then 1 else 0)
theorem card_le(R:Nat→Bool)(n:Nat):card R n≤n:=by
 induction n with
 |zero=>exact Nat.le_refl _
 |succ n ih=>simp only[card];split<;>omega
theorem card_full(R:Nat→Bool)(n:Nat)(h:card R n=n):∀k,k<n→R k=true:=by
 induction n with
 |zero=>intro k hk;omega
 |succ n ih=>
  simp only[card]at h
  have:=card_le R n
  intro k hk
  by_cases e:R n=true
  ·rw[if_pos e]at h
   by_cases hkn:k=n
   ·rw[hkn];exact e
   ·exact ih (by omega) k (by omega)
  ·rw[if_neg e]at h;omega
theorem card_all(R:Nat→Bool)(n:Nat)(h:∀k,k<n→R k=true):card R n=n:=by
 induction n with
 |zero=>rfl
 |succ n ih=>simp only[card];rw[ih (fun k hk=>h k (by omega)),if_pos (h n (by omega))]
theorem card_far(R:Nat→Bool)(n d:Nat)(h:∀k,n≤k→R k=false):card R (n+d)=card R n:=by
 induction d with
 |zero=>rfl
 |succ d ih=>rw[←Nat.add_assoc];simp only[card];rw[ih,h (n+d) (by omega)];simp
theorem card_eq(R S:Nat→Bool)(n:Nat)(h:∀k,k<n→R k=S k):card R n=card S n:=by
 induction n with
 |zero=>rfl
 |succ n ih=>simp only[card];rw[ih (fun k hk=>h k (by omega)),h n (by omega)]
theorem card_mark(R:Nat→Bool)(n k:Nat)(hk:k<n)(h:R k=false):card (mark R k) n=card R n+1:=by
 induction n with
 |zero=>omega
 |succ n ih=>
  simp only[card]
  by_cases e:k=n
  ·subst e
   rw[card_eq (mark R k) R k (fun j hj=>by simp[mark];omega),h]
   simp[mark]
  ·rw[ih (by omega)]
   have:mark R k n=R n:=by simp[mark];omega
   rw[this];omega
def Joined(n:Nat)(es:List Ed):Prop:=∀S:Nat→Prop,S 0→(∀e∈es,S e.a.toNat↔S e.b.toNat)→∀k,k<n→S k
def Sound(es:List Ed)(R:Nat→Bool):Prop:=∀S:Nat→Prop,S 0→(∀e∈es,S e.a.toNat↔S e.b.toNat)→∀k,R k=true→S k
def Closed(es:List Ed)(R:Nat→Bool):Prop:=∀e∈es,R e.a.toNat=R e.b.toNat
theorem Sound.mark{es:List Ed}{R:Nat→Bool}(h:Sound es R){e:Ed}(he:e∈es)(ht:R e.a.toNat=true∨R e.b.toNat=true)(k:Nat)(hk:k=e.a.toNat∨k=e.b.toNat):Sound es (mark R k):=by
 intro S h0 hS j hj
 have hb:S e.a.toNat∧S e.b.toNat:=by
  rcases ht with ht|ht
  ·exact⟨h S h0 hS _ ht,(hS e he).1 (h S h0 hS _ ht)⟩
  ·exact⟨(hS e he).2 (h S h0 hS _ ht),h S h0 hS _ ht⟩
 unfold Go.Proofs.YtlfijfodklhplaaGreat.mark at hj
 split at hj
 ·rename_i e1;rcases hk with rfl|rfl
  ·rw[e1];exact hb.1
  ·rw[e1];exact hb.2
 ·exact h S h0 hS j hj
theorem joined_iff{n:Nat}{es:List Ed}{R:Nat→Bool}(h0:R 0=true)(hs:Sound es R)(hc:Closed es R):Joined n es↔∀k,k<n→R k=true:=
 ⟨fun h k hk=>h (fun j=>R j=true) h0 (fun e he=>by rw[hc e he]) k hk,fun h S s0 sS k hk=>hs S s0 sS k (h k hk)⟩
theorem mark_le(M:Nat→Bool)(k j:Nat)(h:M j=true):mark M k j=true:=by unfold mark;split<;>simp[*]
def zero0:Nat→Bool:=mark (fun _=>false) 0
theorem zero0_sound(es:List Ed):Sound es zero0:=by
 intro S h0 _ k hk
 unfold zero0 mark at hk
 split at hk
 ·rename_i e;rw[e];exact h0
 ·cases hk
def Stray(n:Int)(e:Ed):Prop:=e.a<0∨n≤e.a∨e.b<0∨n≤e.b∨e.a=e.b
def Heavy(e:Ed):Prop:=e.wt<1∨1000<e.wt
def Two(p:Ed→Ed→Prop)(es:List Ed):Prop:=∃(i j:Nat) (e f:Ed),j<i∧es[i]?=some e∧es[j]?=some f∧p e f
def SameW(e f:Ed):Prop:=e.wt=f.wt
def SameE(e f:Ed):Prop:=(e.a=f.a∧e.b=f.b)∨(e.a=f.b∧e.b=f.a)
def BadSize(n:Int)(es:List Ed):Prop:=n<1∨10<n∨30<es.length
def BadEdge(n:Int)(es:List Ed):Prop:=∃e∈es,Stray n e
def BadW(es:List Ed):Prop:=(∃e∈es,Heavy e)∨Two SameW es
def Chk(n:Int)(es:List Ed)(r:Int):Prop:=
 (BadSize n es→r=1)∧(¬BadSize n es→(BadEdge n es→r=2)∧(¬BadEdge n es→(BadW es→r=3)∧(¬BadW es→(Two SameE es→r=4)∧(¬Two SameE es→(¬Joined n.toNat es→r=5)∧(Joined n.toNat es→r=0)))))
theorem Chk.uniq{n:Int}{es:List Ed}{r r':Int}(h:Chk n es r)(h':Chk n es r'):r=r':=by
 by_cases h1:BadSize n es
 ·rw[h.1 h1,h'.1 h1]
 have g:=h.2 h1
 have g':=h'.2 h1
 by_cases h2:BadEdge n es
 ·rw[g.1 h2,g'.1 h2]
 have g:=g.2 h2
 have g':=g'.2 h2
 by_cases h3:BadW es
 ·rw[g.1 h3,g'.1 h3]
 have g:=g.2 h3
 have g':=g'.2 h3
 by_cases h4:Two SameE es
 ·rw[g.1 h4,g'.1 h4]
 have g:=g.2 h4
 have g':=g'.2 h4
 by_cases h5:Joined n.toNat es
 ·rw[g.2 h5,g'.2 h5]
 ·rw[g.1 h5,g'.1 h5]
theorem Chk.mk1{n:Int}{es:List Ed}(h:BadSize n es):Chk n es 1:=⟨fun _=>rfl,fun h'=>(h' h).elim⟩
theorem Chk.mk2{n:Int}{es:List Ed}(h1:¬BadSize n es)(h:BadEdge n es):Chk n es 2:=⟨fun h'=>(h1 h').elim,fun _=>⟨fun _=>rfl,fun h'=>(h' h).elim⟩⟩
theorem Chk.mk3{n:Int}{es:List Ed}(h1:¬BadSize n es)(h2:¬BadEdge n es)(h:BadW es):Chk n es 3:=⟨fun h'=>(h1 h').elim,fun _=>⟨fun h'=>(h2 h').elim,fun _=>⟨fun _=>rfl,fun h'=>(h' h).elim⟩⟩⟩
theorem Chk.mk4{n:Int}{es:List Ed}(h1:¬BadSize n es)(h2:¬BadEdge n es)(h3:¬BadW es)(h:Two SameE es):Chk n es 4:=⟨fun h'=>(h1 h').elim,fun _=>⟨fun h'=>(h2 h').elim,fun _=>⟨fun h'=>(h3 h').elim,fun _=>⟨fun _=>rfl,fun h'=>(h' h).elim⟩⟩⟩⟩
theorem Chk.mk5{n:Int}{es:List Ed}(h1:¬BadSize n es)(h2:¬BadEdge n es)(h3:¬BadW es)(h4:¬Two SameE es)(h:¬Joined n.toNat es):Chk n es 5:=⟨fun h'=>(h1 h').elim,fun _=>⟨fun h'=>(h2 h').elim,fun _=>⟨fun h'=>(h3 h').elim,fun _=>⟨fun h'=>(h4 h').elim,fun _=>⟨fun _=>rfl,fun h'=>(h h').elim⟩⟩⟩⟩⟩
theorem Chk.mk0{n:Int}{es:List Ed}(h1:¬BadSize n es)(h2:¬BadEdge n es)(h3:¬BadW es)(h4:¬Two SameE es)(h:Joined n.toNat es):Chk n es 0:=⟨fun h'=>(h1 h').elim,fun _=>⟨fun h'=>(h2 h').elim,fun _=>⟨fun h'=>(h3 h').elim,fun _=>⟨fun h'=>(h4 h').elim,fun _=>⟨fun h'=>(h' h).elim,fun _=>rfl⟩⟩⟩⟩⟩
structure Te where
 a:Nat
 b:Nat
 w:Nat
def Te.ed(t:Te):Ed:=⟨(t.a:Int),(t.b:Int),(t.w:Int)⟩
def Te.same(t u:Te):Prop:=(u.a=t.a∧u.b=t.b)∨(u.a=t.b∧u.b=t.a)
instance (t u:Te):Decidable (t.same u):=by unfold Te.same;infer_instance
def gok(l:List Te)(t:Te):Prop:=t.a≠t.b∧∀u∈l,¬t.same u
instance (l:List Te) (t:Te):Decidable (gok l t):=by unfold gok;infer_instance
def taken(l:List Te)(w:Nat):Prop:=∃u∈l,u.w=w
instance (l:List Te) (w:Nat):Decidable (taken l w):=by unfold taken;infer_instance
def cnd(w j:Nat):Nat:=1+(w - 1+j) % 1000
theorem cnd_zero{w:Nat}(h0:1≤w)(h1:w≤1000):cnd w 0=w:=by unfold cnd;omega
theorem cnd_succ(w j:Nat):cnd w (j+1)=1+cnd w j % 1000:=by unfold cnd;omega
theorem cnd_in(w j:Nat):1≤cnd w j∧cnd w j≤1000:=by unfold cnd;omega
theorem cnd_inj{w i j:Nat}(hi:i<1000)(hj:j<1000)(h:cnd w i=cnd w j):i=j:=by unfold cnd at h;omega
theorem sub_len:∀(c w:List Nat),c.Nodup→(∀x∈c,x∈w)→c.length≤w.length:=by
 intro c
 induction c with
 |nil=>intro w _ _;exact Nat.zero_le _
 |cons x t ih=>
  intro w hn hs
  have hx:=hs x (by simp)
  rw[List.nodup_cons]at hn
  have h1:=ih (w.erase x) hn.2 (fun y hy=>(List.mem_erase_of_ne (fun e:y=x=>hn.1 (e▸hy))).2 (hs y (by simp[hy])))
  rw[List.length_erase_of_mem hx]at h1
  have:=List.length_pos_of_mem hx
  simp only[List.length_cons]
  omega
theorem range_map_nodup(f:Nat→Nat)(n:Nat)(h:∀i j,i<n→j<n→f i=f j→i=j):((List.range n).map f).Nodup:=by
 induction n with
 |zero=>simp
 |succ n ih=>
  rw[List.range_succ,List.map_append,List.nodup_append]
  refine⟨ih (fun i j hi hj=>h i j (by omega) (by omega)),by simp,?_⟩
  intro a ha b hb e
  simp only[List.map_cons,List.map_nil,List.mem_singleton]at hb
  obtain⟨i,hi,rfl⟩:=List.mem_map.1 ha
  rw[List.mem_range]at hi
  have:=h i n (by omega) (by omega) (by rw[e,hb])
  omega
theorem free_ex(l:List Te)(w:Nat)(hl:l.length<900):∃j,j≤l.length∧¬taken l (cnd w j):=by
 apply Classical.byContradiction
 intro h
 have h1:∀j,j≤l.length→taken l (cnd w j):=fun j hj=>Classical.byContradiction (fun e=>h ⟨j,hj,e⟩)
 have h2:=sub_len ((List.range (l.length+1)).map (cnd w)) (l.map Te.w) (range_map_nodup _ _ (fun i j hi hj e=>cnd_inj (by omega) (by omega) e)) (fun x hx=>by
  obtain⟨j,hj,rfl⟩:=List.mem_map.1 hx
  rw[List.mem_range]at hj
  obtain⟨u,hu,e⟩:=h1 j (by omega)
  exact List.mem_map.2 ⟨u,hu,e⟩)
 simp at h2
 omega
def frw(l:List Te)(w:Nat):Nat→Nat
 |0=>w
 |f+1=>if taken l w then frw l (1+w % 1000) f else w
theorem frw_at(l:List Te)(f:Nat):∀(w:Nat),1≤w→w≤1000→∀j,j≤f→(∀i,i<j→taken l (cnd w i))→¬taken l (cnd w j)→frw l w f=cnd w j:=by
 induction f with
 |zero=>
  intro w h0 h1 j hj _ _
  rw[show j=0 by omega,cnd_zero h0 h1];rfl
 |succ f ih=>
  intro w h0 h1 j hj ht hn
  unfold frw
  cases j with
  |zero=>rw[cnd_zero h0 h1]at hn⊢;rw[if_neg hn]
  |succ j=>
   have t0:=ht 0 (by omega)
   rw[cnd_zero h0 h1]at t0
   rw[if_pos t0]
   have e:∀i,cnd (1+w % 1000) i=cnd w (i+1):=fun i=>by unfold cnd;omega
   rw[ih (1+w % 1000) (by omega) (by omega) j (by omega) (fun i hi=>by rw[e];exact ht (i+1) (by omega)) (by rw[e];exact hn),e]
theorem least(p:Nat→Prop)[DecidablePred p](n:Nat)(h:p n):∃j,j≤n∧p j∧∀i,i<j→¬p i:=by
 induction n using Nat.strongRecOn with
 |ind n ih=>
  by_cases e:∃i,i<n∧p i
  ·obtain⟨i,hi,hp⟩:=e
   obtain⟨j,a,b,c⟩:=ih i hi hp
   exact⟨j,by omega,b,c⟩
  ·exact⟨n,Nat.le_refl _,h,fun i hi hp=>e ⟨i,hi,hp⟩⟩
theorem frw_free(l:List Te)(w:Nat)(h0:1≤w)(h1:w≤1000)(hl:l.length≤24):¬taken l (frw l w 24)∧1≤frw l w 24∧frw l w 24≤1000:=by
 obtain⟨j,hj,hn⟩:=free_ex l w (by omega)
 obtain⟨i,hi,hp,hq⟩:=least (fun j=>¬taken l (cnd w j)) j hn
 have e:=frw_at l 24 w h0 h1 i (by omega) (fun k hk=>Classical.byContradiction (hq k hk)) hp
 rw[e]
 exact⟨hp,cnd_in w i⟩
def gcode(raw:List Int)(i:Nat):Nat:=match raw[i]? with
 |some c=>pk c 1099511627776
 |none=>7 * i+3
def gte(n i c:Nat):Te:=if i+1<n then ⟨i+1,c % (i+1),1+c / 64 % 1000⟩else ⟨c % n,c / 8 % n,1+c / 64 % 1000⟩
def gadd(l:List Te)(t:Te):List Te:=if gok l t then l++[⟨t.a,t.b,frw l t.w 24⟩]else l
def gls(n:Nat)(raw:List Int):Nat→List Te
 |0=>[]
 |i+1=>if (gls n raw i).length<24 then gadd (gls n raw i) (gte n i (gcode raw i))else gls n raw i
def gn(nodes:Int):Nat:=1+pk nodes 8
def gl(nodes:Int)(raw:List Int):List Te:=gls (gn nodes) raw (raw.length+gn nodes - 1)
def ges(nodes:Int)(raw:List Int):List Ed:=(gl nodes raw).map Te.ed
theorem gn_in(nodes:Int):1≤gn nodes∧gn nodes≤8:=by
 have:=pk_lt nodes 8 (by omega)
 unfold gn;omega
structure GOk(n:Nat)(l:List Te):Prop where
 few:l.length≤24
 ends:∀t∈l,t.a<n∧t.b<n∧t.a≠t.b
 wt:∀t∈l,1≤t.w∧t.w≤1000
 ws:l.Pairwise (fun t u=>t.w≠u.w)
 es:l.Pairwise (fun t u=>¬u.same t)
theorem GOk.add{n:Nat}{l:List Te}(h:GOk n l)(t:Te)(hl:l.length<24)(ha:t.a<n)(hb:t.b<n)(h0:1≤t.w)(h1:t.w≤1000):GOk n (gadd l t):=by
 unfold gadd
 by_cases hk:gok l t
 ·rw[if_pos hk]
  obtain⟨f1,f2,f3⟩:=frw_free l t.w h0 h1 (by omega)
  refine⟨by simp;omega,?_,?_,?_,?_⟩
  ·intro u hu
   rcases List.mem_append.1 hu with hu|hu
   ·exact h.ends u hu
   ·rw[List.mem_singleton.1 hu];exact⟨ha,hb,hk.1⟩
  ·intro u hu
   rcases List.mem_append.1 hu with hu|hu
   ·exact h.wt u hu
   ·rw[List.mem_singleton.1 hu];exact⟨f2,f3⟩
  ·rw[List.pairwise_append]
   refine⟨h.ws,by simp,fun x hx y hy=>?_⟩
   rw[List.mem_singleton.1 hy]
   exact fun e=>f1 ⟨x,hx,e⟩
  ·rw[List.pairwise_append]
   refine⟨h.es,by simp,fun x hx y hy=>?_⟩
   rw[List.mem_singleton.1 hy]
   exact fun e=>hk.2 x hx e
 ·rw[if_neg hk];exact h
theorem gte_in{n:Nat}(hn:1≤n)(i c:Nat):(gte n i c).a<n∧(gte n i c).b<n∧1≤(gte n i c).w∧(gte n i c).w≤1000:=by
 unfold gte
 split
 ·have:=Nat.mod_lt c (show 0<i+1 by omega)
  simp only
  omega
 ·have h1:=Nat.mod_lt c (show 0<n by omega)
  have h2:=Nat.mod_lt (c / 8) (show 0<n by omega)
  simp only
  omega
theorem gls_ok{n:Nat}(hn:1≤n)(raw:List Int)(i:Nat):GOk n (gls n raw i):=by
 induction i with
 |zero=>exact⟨by simp[gls],by simp[gls],by simp[gls],by simp[gls],by simp[gls]⟩
 |succ i ih=>
  unfold gls
  split
  ·rename_i h
   obtain⟨a,b,c,d⟩:=gte_in hn i (gcode raw i)
   exact ih.add _ h a b c d
  ·exact ih
theorem gadd_mono(l:List Te)(t:Te):∀u∈l,u∈gadd l t:=by
 intro u hu;unfold gadd;split
 ·simp[hu]
 ·exact hu
theorem gls_step(n:Nat)(raw:List Int)(i:Nat):∀u∈gls n raw i,u∈gls n raw (i+1):=by
 intro u hu
 rw[gls]
 split
 ·exact gadd_mono _ _ u hu
 ·exact hu
theorem gls_mono(n:Nat)(raw:List Int)(i j:Nat)(h:i≤j):∀u∈gls n raw i,u∈gls n raw j:=by
 induction j with
 |zero=>rw[show i=0 by omega];exact fun u hu=>hu
 |succ j ih=>
  intro u hu
  by_cases e:i=j+1
  ·rw[←e];exact hu
  ·exact gls_step n raw j u (ih (by omega) u hu)
theorem gls_tree{n:Nat}(h8:n≤8)(raw:List Int)(i:Nat)(hi:i+1≤n):(gls n raw i).length≤i∧(∀u∈gls n raw i,u.a≤i∧u.b≤i)∧∀k,k<i→∃u∈gls n raw i,u.a=k+1∧u.b<k+1:=by
 induction i with
 |zero=>exact⟨by simp[gls],by simp[gls],fun k hk=>by omega⟩
 |succ i ih=>
  obtain⟨h1,h2,h3⟩:=ih (by omega)
  have hm:=Nat.mod_lt (gcode raw i) (show 0<i+1 by omega)
  have e:gte n i (gcode raw i)=⟨i+1,gcode raw i % (i+1),1+gcode raw i / 64 % 1000⟩:=by unfold gte;rw[if_pos (by omega)]
  have hk:gok (gls n raw i) (gte n i (gcode raw i)):=by
   rw[e]
   refine⟨by simp only;omega,fun u hu hs=>?_⟩
   have:=h2 u hu
   unfold Te.same at hs
   simp only at hs
   omega
  have hE:gls n raw (i+1)=gls n raw i++[⟨i+1,gcode raw i % (i+1),frw (gls n raw i) (1+gcode raw i / 64 % 1000) 24⟩]:=by
   rw[gls,if_pos (by omega),gadd,if_pos hk,e]
  rw[hE]
  refine⟨by simp;omega,?_,?_⟩
  ·intro u hu
   rcases List.mem_append.1 hu with hu|hu
   ·have:=h2 u hu;omega
   ·rw[List.mem_singleton.1 hu];simp only;omega
  ·intro k hk
   by_cases ek:k=i
   ·subst ek
    exact⟨⟨k+1,gcode raw k % (k+1),frw (gls n raw k) (1+gcode raw k / 64 % 1000) 24⟩,by simp,rfl,hm⟩
   ·obtain⟨u,hu,x⟩:=h3 k (by omega)
    exact⟨u,by simp[hu],x⟩
theorem get_pair{α:Type}{p:α→α→Prop}{l:List α}(h:l.Pairwise p){i j:Nat}{x y:α}(hj:j<i)(hx:l[i]?=some x)(hy:l[j]?=some y):p y x:=by
 rw[List.pairwise_iff_getElem]at h
 obtain⟨h1,e1⟩:=List.getElem?_eq_some_iff.1 hx
 obtain⟨h2,e2⟩:=List.getElem?_eq_some_iff.1 hy
 have:=h j i h2 h1 hj
 rw[e1,e2]at this
 exact this
theorem ed_at{l:List Te}{i:Nat}{e:Ed}(h:(l.map Te.ed)[i]?=some e):∃t,l[i]?=some t∧t.ed=e:=by
 rw[List.getElem?_map]at h
 exact Option.map_eq_some_iff.1 h
theorem chk_ok{n:Nat}{l:List Te}(h:GOk n l)(h1:1≤n)(h8:n≤8)(hj:Joined n (l.map Te.ed)):Chk (n:Int) (l.map Te.ed) 0:=by
 have hf:=h.few
 refine Chk.mk0 ?_ ?_ ?_ ?_ (by rw[Int.toNat_natCast];exact hj)
 ·unfold BadSize;rw[List.length_map];omega
 ·rintro⟨e,he,hs⟩
  obtain⟨t,ht,rfl⟩:=List.mem_map.1 he
  have:=h.ends t ht
  unfold Stray Te.ed at hs
  simp only at hs
  omega
 ·rintro (⟨e,he,hs⟩|⟨i,j,e,f,hji,he,hf,hs⟩)
  ·obtain⟨t,ht,rfl⟩:=List.mem_map.1 he
   have:=h.wt t ht
   unfold Heavy Te.ed at hs
   simp only at hs
   omega
  ·obtain⟨t,ht,rfl⟩:=ed_at he
   obtain⟨u,hu,rfl⟩:=ed_at hf
   have:=get_pair h.ws hji ht hu
   unfold SameW Te.ed at hs
   simp only at hs
   omega
 ·rintro⟨i,j,e,f,hji,he,hf,hs⟩
  obtain⟨t,ht,rfl⟩:=ed_at he
  obtain⟨u,hu,rfl⟩:=ed_at hf
  have:=get_pair h.es hji ht hu
  unfold SameE Te.ed at hs
  unfold Te.same at this
  simp only at hs
  omega
theorem gl_ok(nodes:Int)(raw:List Int):GOk (gn nodes) (gl nodes raw):=gls_ok (gn_in nodes).1 raw _
theorem ges_chk(nodes:Int)(raw:List Int):Chk (gn nodes:Int) (ges nodes raw) 0:=by
 obtain⟨h1,h8⟩:=gn_in nodes
 refine chk_ok (gl_ok nodes raw) h1 h8 ?_
 intro S s0 sS k
 induction k using Nat.strongRecOn with
 |ind k ih=>
  intro hk
  cases k with
  |zero=>exact s0
  |succ k=>
   obtain⟨u,hu,ha,hb⟩:=(gls_tree h8 raw (gn nodes - 1) (by omega)).2.2 k (by omega)
   have hm:=gls_mono (gn nodes) raw (gn nodes - 1) (raw.length+gn nodes - 1) (by omega) u hu
   have h1:=sS u.ed (List.mem_map_of_mem hm)
   have h2:u.ed.a.toNat=k+1:=by simp[Te.ed,ha]
   have h3:u.ed.b.toNat=u.b:=by simp[Te.ed]
   rw[h2,h3]at h1
   exact h1.2 (ih u.b hb (by omega))
end Go.Proofs.YtlfijfodklhplaaGreat
