import Derived.Test.YtlfijfodklhplaaGreatTn49
import Derived.Test.YtlfijfodklhplaaGreatTn33
set_option maxRecDepth 100000
set_option maxHeartbeats 4000000
set_option linter.unusedVariables false
set_option linter.unusedSimpArgs false
namespace Go.Proofs.YtlfijfodklhplaaGreat
open Go.RowKit
def flp(e:Ed):Ed:=⟨e.b,e.a,e.wt⟩
def nrm(e:Ed):Ed:=if e.a≤e.b then e else flp e
theorem nrm_or(e:Ed):nrm e=e∨nrm e=flp e:=by unfold nrm;split<;>simp
theorem nrm_flp(e:Ed):nrm (flp e)=nrm e:=by
 obtain⟨a,b,w⟩:=e
 unfold nrm flp
 dsimp only
 by_cases h:a≤b<;>by_cases h2:b≤a
 ·rw[if_pos h2,if_pos h]
  have:a=b:=by omega
  rw[this]
 ·rw[if_neg h2,if_pos h]
 ·rw[if_pos h2,if_neg h]
 ·omega
def Alk(es fs:List Ed):Prop:=(es.map nrm).Perm (fs.map nrm)
theorem Alk.symm{es fs:List Ed}(h:Alk es fs):Alk fs es:=List.Perm.symm h
theorem Alk.len{es fs:List Ed}(h:Alk es fs):es.length=fs.length:=by have:=h.length_eq;simpa using this
theorem Alk.all{es fs:List Ed}(h:Alk es fs){P:Ed→Prop}(hP:∀e,P (nrm e)↔P e)(ha:∀e∈es,P e):∀e∈fs,P e:=fun e he=>by
 have h1:nrm e∈es.map nrm:=h.mem_iff.2 (List.mem_map_of_mem he)
 obtain⟨f,hf,e1⟩:=List.mem_map.1 h1
 exact(hP e).1 (e1▸(hP f).2 (ha f hf))
theorem Alk.ex{es fs:List Ed}(h:Alk es fs){P:Ed→Prop}(hP:∀e,P (nrm e)↔P e)(ha:∃e∈es,P e):∃e∈fs,P e:=by
 obtain⟨f,hf,hp⟩:=ha
 have h1:nrm f∈fs.map nrm:=h.mem_iff.1 (List.mem_map_of_mem hf)
 obtain⟨e,he,e1⟩:=List.mem_map.1 h1
 exact⟨e,he,(hP e).1 (e1▸(hP f).2 hp)⟩
theorem two_iff{p:Ed→Ed→Prop}(hs:∀x y,p x y→p y x)(es:List Ed):Two p es↔¬es.Pairwise (fun x y=>¬p x y):=by
 constructor
 ·rintro⟨i,j,e,f,hji,he,hf,hp⟩ hw
  exact get_pair hw hji he hf (hs _ _ hp)
 ·intro h
  apply Classical.byContradiction
  intro hn
  apply h
  rw[List.pairwise_iff_getElem]
  intro i j hi hj hij hp
  exact hn ⟨j,i,es[j],es[i],hij,List.getElem?_eq_getElem hj,List.getElem?_eq_getElem hi,hs _ _ hp⟩
theorem Alk.two{es fs:List Ed}(h:Alk es fs){p:Ed→Ed→Prop}(hs:∀x y,p x y→p y x)(hn:∀x y,p (nrm x) (nrm y)↔p x y):Two p es↔Two p fs:=by
 have key:∀l:List Ed,(l.map nrm).Pairwise (fun x y=>¬p x y)↔l.Pairwise (fun x y=>¬p x y):=fun l=>by
  rw[List.pairwise_map]
  simp only[hn]
 rw[two_iff hs,two_iff hs,←key es,←key fs]
 rw[List.Perm.pairwise_iff (fun {x y} h e=>h (hs _ _ e)) h]
theorem stray_nrm(n:Int)(e:Ed):Stray n (nrm e)↔Stray n e:=by
 rcases nrm_or e with h|h
 ·rw[h]
 ·rw[h];unfold Stray flp;dsimp only;omega
theorem heavy_nrm(e:Ed):Heavy (nrm e)↔Heavy e:=by
 rcases nrm_or e with h|h
 ·rw[h]
 ·rw[h];unfold Heavy flp;dsimp only;omega
theorem wt_nrm(e:Ed):(nrm e).wt=e.wt:=by
 rcases nrm_or e with h|h
 ·rw[h]
 ·rw[h];rfl
theorem sameE_nrm(x y:Ed):SameE (nrm x) (nrm y)↔SameE x y:=by
 rcases nrm_or x with h|h<;>rcases nrm_or y with h'|h'<;>rw[h,h']<;>unfold SameE flp<;>dsimp only<;>omega
theorem Alk.joined{es fs:List Ed}(h:Alk es fs){n:Nat}(hj:Joined n es):Joined n fs:=fun S s0 hS k hk=>
 hj S s0 (h.symm.all (P:=fun e=>S e.a.toNat↔S e.b.toNat) (fun e=>by
  rcases nrm_or e with x|x
  ·rw[x]
  ·rw[x];unfold flp;dsimp only;exact⟨fun q=>q.symm,fun q=>q.symm⟩) hS) k hk
theorem chk_alk{es fs:List Ed}(h:Alk es fs){n z:Int}(hc:Chk n es z):Chk n fs z:=by
 have h1:BadSize n fs↔BadSize n es:=by unfold BadSize;rw[h.len]
 have h2:BadEdge n fs↔BadEdge n es:=⟨h.symm.ex (stray_nrm n),h.ex (stray_nrm n)⟩
 have h3:BadW fs↔BadW es:=by
  unfold BadW
  have a:(∃e∈fs,Heavy e)↔∃e∈es,Heavy e:=⟨h.symm.ex heavy_nrm,h.ex heavy_nrm⟩
  have b:Two SameW fs↔Two SameW es:=h.symm.two (fun x y e=>Eq.symm e) (fun x y=>by unfold SameW;rw[wt_nrm,wt_nrm])
  rw[a,b]
 have h4:Two SameE fs↔Two SameE es:=h.symm.two (fun x y e=>by unfold SameE at e⊢;omega) sameE_nrm
 have h5:Joined n.toNat fs↔Joined n.toNat es:=⟨h.symm.joined,h.joined⟩
 unfold Chk at hc⊢
 rw[h1,h2,h3,h4,h5]
 exact hc
def tne(f:Nat→Bool)(p:Nat)(es:List Ed)(i:Nat):Ed:=if f i then flp (es.getD ((i+p) % es.length) ⟨0,0,0⟩)else es.getD ((i+p) % es.length) ⟨0,0,0⟩
def tnl(f:Nat→Bool)(p:Nat)(es:List Ed)(k:Nat):List Ed:=(List.range k).map (tne f p es)
theorem tnl_len(f:Nat→Bool)(p:Nat)(es:List Ed)(k:Nat):(tnl f p es k).length=k:=by unfold tnl;simp
theorem tnl_succ(f:Nat→Bool)(p:Nat)(es:List Ed)(k:Nat):tnl f p es (k+1)=tnl f p es k++[tne f p es k]:=by unfold tnl;rw[List.range_succ,List.map_append];rfl
theorem tnl_alk(f:Nat→Bool)(p:Nat)(es:List Ed)(hp:es.length≠0→p<es.length):Alk es (tnl f p es es.length):=by
 by_cases h0:es.length=0
 ·have:es=[]:=List.eq_nil_of_length_eq_zero h0
  subst this
  exact List.Perm.refl _
 have hp:=hp h0
 have e:(tnl f p es es.length).map nrm=(es.drop p++es.take p).map nrm:=by
  apply List.ext_getElem?
  intro i
  unfold tnl
  rw[List.getElem?_map,List.getElem?_map,List.getElem?_map]
  by_cases hi:i<es.length
  ·rw[List.getElem?_range hi]
   have key:(es.drop p++es.take p)[i]?=some (es.getD ((i+p) % es.length) ⟨0,0,0⟩):=by
    by_cases hs:i+p<es.length
    ·rw[List.getElem?_append_left (by rw[List.length_drop];omega),List.getElem?_drop,Nat.mod_eq_of_lt hs,List.getD_eq_getElem?_getD,Nat.add_comm p i,List.getElem?_eq_getElem hs]
     rfl
    ·have hm:(i+p) % es.length=i+p - es.length:=by
      rw[Nat.mod_eq_sub_mod (by omega),Nat.mod_eq_of_lt (by omega)]
     rw[List.getElem?_append_right (by rw[List.length_drop];omega),List.length_drop,hm,List.getElem?_take]
     have e2:i - (es.length - p)=i+p - es.length:=by omega
     rw[e2,if_pos (by omega),List.getD_eq_getElem?_getD,List.getElem?_eq_getElem (by omega)]
     rfl
   rw[key]
   simp only[Option.map_some,Option.some.injEq]
   unfold tne
   split
   ·exact nrm_flp _
   ·rfl
  ·rw[List.getElem?_eq_none (by simp;omega),List.getElem?_eq_none (by simp;omega)]
   rfl
 unfold Alk
 rw[e]
 refine List.Perm.map nrm ?_
 have h1:(es.take p++es.drop p).Perm (es.drop p++es.take p):=List.perm_append_comm
 rw[List.take_append_drop]at h1
 exact h1
theorem chk0_all{n:Nat}{es:List Ed}(h:Chk (n:Int) es 0):¬BadSize n es∧¬BadEdge n es∧¬BadW es∧¬Two SameE es∧Joined n es:=by
 obtain⟨h1,h2,h3⟩:=chk0_parts h
 have h4:¬Two SameE es:=fun e=>by have:=(((h.2 h1).2 h2).2 h3).1 e;omega
 refine⟨h1,h2,h3,h4,?_⟩
 apply Classical.byContradiction
 intro e
 have:=((((h.2 h1).2 h2).2 h3).2 h4).1 (by rw[Int.toNat_natCast];exact e)
 omega
def eL(es:List Ed):List Ghs.E3:=(srt es).map Ghs.e3
theorem ed_ok{n:Nat}{es:List Ed}(h:Chk (n:Int) es 0){e:Ed}(he:e∈es):(Ghs.e3 e).a<n∧(Ghs.e3 e).b<n∧(Ghs.e3 e).a≠(Ghs.e3 e).b∧1≤(Ghs.e3 e).w∧(Ghs.e3 e).w≤1000∧Ghs.ed3 (Ghs.e3 e)=e:=by
 obtain⟨h1,h2,h3,h4,h5⟩:=chk0_all h
 have a:¬Stray n e:=fun x=>h2 ⟨e,he,x⟩
 have b:¬Heavy e:=fun x=>h3 (Or.inl ⟨e,he,x⟩)
 obtain⟨ea,eb,ew⟩:=e
 unfold Stray at a
 unfold Heavy at b
 dsimp only at a b
 unfold Ghs.ed3 Ghs.e3
 dsimp only
 refine⟨by omega,by omega,by omega,by omega,by omega,?_⟩
 rw[Int.toNat_of_nonneg (by omega),Int.toNat_of_nonneg (by omega),Int.toNat_of_nonneg (by omega)]
theorem eM_ed{n:Nat}{es:List Ed}(h:Chk (n:Int) es 0):(es.map Ghs.e3).map Ghs.ed3=es:=by
 rw[List.map_map]
 conv=>rhs;rw[←List.map_id es]
 exact List.map_congr_left (fun e he=>(ed_ok h he).2.2.2.2.2)
theorem eL_ed{n:Nat}{es:List Ed}(h:Chk (n:Int) es 0):(eL es).map Ghs.ed3=srt es:=by
 unfold eL
 rw[List.map_map]
 conv=>rhs;rw[←List.map_id (srt es)]
 exact List.map_congr_left (fun e he=>(ed_ok h ((srt_perm es).mem_iff.1 he)).2.2.2.2.2)
theorem eL_perm(es:List Ed):(eL es).Perm (es.map Ghs.e3):=(srt_perm es).map Ghs.e3
theorem eM_ws{n:Nat}{es:List Ed}(h:Chk (n:Int) es 0):(es.map Ghs.e3).Pairwise (fun x y=>x.w≠y.w):=by
 obtain⟨h1,h2,h3,h4,h5⟩:=chk0_all h
 rw[List.pairwise_map,List.pairwise_iff_getElem]
 intro i j hi hj hij e
 refine h3 (Or.inr ⟨j,i,es[j],es[i],hij,List.getElem?_eq_getElem hj,List.getElem?_eq_getElem hi,?_⟩)
 have a:=(ed_ok h (List.getElem_mem hi)).2.2.2.2.2
 have b:=(ed_ok h (List.getElem_mem hj)).2.2.2.2.2
 unfold SameW
 rw[←a,←b]
 show ((Ghs.e3 es[j]).w:Int)=((Ghs.e3 es[i]).w:Int)
 rw[e]
theorem eL_simple{n:Nat}{es:List Ed}(h:Chk (n:Int) es 0):Ghs.Simple n (eL es):=by
 have hp:=eL_perm es
 refine⟨fun e he=>?_,?_,?_⟩
 ·obtain⟨f,hf,rfl⟩:=List.mem_map.1 (hp.mem_iff.1 he)
  have:=ed_ok h hf
  exact⟨this.1,this.2.1,this.2.2.1,this.2.2.2.1,this.2.2.2.2.1⟩
 ·have h1:(eL es).Pairwise (fun x y=>x.w≠y.w):=(hp.pairwise_iff (fun h e=>h e.symm)).2 (eM_ws h)
  have h2:(eL es).Pairwise (fun x y=>x.w≤y.w):=by
   unfold eL
   rw[List.pairwise_map]
   refine(srt_rise es).imp ?_
   intro a b hab
   show a.wt.toNat≤b.wt.toNat
   omega
  exact(List.Pairwise.and h1 h2).imp (fun h=>by omega)
 ·refine(hp.pairwise_iff (fun h e=>h (Ghs.twin_symm _ _ e))).2 ?_
  rw[List.pairwise_map,List.pairwise_iff_getElem]
  intro i j hi hj hij e
  obtain⟨h1,h2,h3,h4,h5⟩:=chk0_all h
  refine h4 ⟨j,i,es[j],es[i],hij,List.getElem?_eq_getElem hj,List.getElem?_eq_getElem hi,?_⟩
  have a:=(ed_ok h (List.getElem_mem hi)).2.2.2.2.2
  have b:=(ed_ok h (List.getElem_mem hj)).2.2.2.2.2
  rw[←a,←b]
  unfold Ghs.twin at e
  unfold SameE
  show (((Ghs.e3 es[j]).a:Int)=((Ghs.e3 es[i]).a:Int)∧((Ghs.e3 es[j]).b:Int)=((Ghs.e3 es[i]).b:Int))∨(((Ghs.e3 es[j]).a:Int)=((Ghs.e3 es[i]).b:Int)∧((Ghs.e3 es[j]).b:Int)=((Ghs.e3 es[i]).a:Int))
  omega
theorem eL_joined{n:Nat}{es:List Ed}(h:Chk (n:Int) es 0):∀S:Nat→Prop,S 0→(∀e∈eL es,S e.a↔S e.b)→∀k,k<n→S k:=fun S s0 hS k hk=>
 (chk0_all h).2.2.2.2 S s0 (fun e he=>hS (Ghs.e3 e) ((eL_perm es).mem_iff.2 (List.mem_map_of_mem he))) k hk
theorem eL_dg{n:Nat}{es:List Ed}(h:Chk (n:Int) es 0)(hl:es.length≤25)(u:Nat):(Ghs.topL (eL_simple h)).dg u≤30:=by
 show (Ghs.own u (eL es)).length≤30
 have h1:(Ghs.own u (eL es)).length≤(eL es).length:=List.length_filter_le _ _
 have h2:=(eL_perm es).length_eq
 rw[List.length_map]at h2
 omega
theorem eL_small{n:Nat}{es:List Ed}(h:Chk (n:Int) es 0)(h8:n≤8)(hl:es.length≤25):Ghs.V.Small (Ghs.grL (eL_simple h)):=by
 have h1:=(srt_ses h).2.1
 have h2:=(eL_perm es).length_eq
 rw[List.length_map]at h2
 exact Ghs.V.small_L (eL_simple h) h8 h1 (by omega)
theorem new_ai{n:Nat}{es:List Ed}(h:Chk (n:Int) es 0):Ghs.V.AI (Ghs.topL (eL_simple h)) (AN.fresh n (srt es))∧(AN.fresh n (srt es)).sps.length=n:=by
 have hse:=srt_ses h
 refine⟨?_,by simp[AN.fresh]⟩
 have h1:=hse.1
 rw[←eL_ed h]at h1⊢
 exact Ghs.V.fresh_all (eL_simple h) (fun u s hs=>((aok_fresh h1 (by omega)).well u s hs).1)
theorem new_tree{n:Nat}{es:List Ed}(h:Chk (n:Int) es 0)(h8:n≤8)(hl:es.length≤25):Ghs.V.AI (Ghs.topL (eL_simple h)) ((AN.fresh n (srt es)).wake 0)∧(Ghs.V.stl n 400 ((AN.fresh n (srt es)).wake 0)).tree=((Ghs.krs (eL es)).2).map Ghs.ed3:=by
 have h1:=(srt_ses h).2.1
 obtain⟨a,b⟩:=new_ai h
 have hG:=eL_small h h8 hl
 have hdg:=eL_dg h hl
 obtain⟨a1,a2,a3⟩:=a.wake hG hdg (u:=0) h1 (List.getElem?_eq_getElem (by omega))
 have hb:((AN.fresh n (srt es)).wake 0).bag.length≤300:=Ghs.V.b3_post (A:=(AN.fresh n (srt es)).modN 0 Nod.wake) (by simp[AN.fresh,AN.modN]) 0
 have hes:((AN.fresh n (srt es)).wake 0).es=(eL es).map Ghs.ed3:=by rw[a2,eL_ed h];rfl
 refine⟨a1,?_⟩
 have hw:((Ghs.lsOf (Ghs.V.stl n 400 ((AN.fresh n (srt es)).wake 0))).nodes 0).state≠0:=awk_node (awk_stl n 400 (awk_woken 0 _)) (by rw[len_stl];unfold AN.wake;rw[Ghs.len_post,Ghs.len_modN,b];exact h1)
 by_cases h2:2≤n
 ·have h3:=(eL_perm es).length_eq
  rw[List.length_map]at h3
  exact(Ghs.V.found_all (eL_simple h) h8 h2 (by omega) (eL_joined h) a1 hb hes (z:=0) h1 hw).1
 ·have he:eL es=[]:=by
   apply List.eq_nil_iff_forall_not_mem.2
   intro x hx
   have:=(eL_simple h).ok x hx
   omega
  have c2:=(Ghs.V.settled hG hdg a1 hb).2
  have c3:(Ghs.V.stl n 400 ((AN.fresh n (srt es)).wake 0)).es=[]:=by
   have:(Ghs.V.stl n 400 ((AN.fresh n (srt es)).wake 0)).es=((AN.fresh n (srt es)).wake 0).es:=c2
   rw[this,hes,he];rfl
  unfold AN.tree
  rw[c3,he]
  rfl
theorem eT_loops{n:Nat}{es:List Ed}(h:Chk (n:Int) es 0):Ghs.krs (Ghs.inOrder (es.map Ghs.e3))=Ghs.krs (eL es):=Ghs.lightest_eq (eL_simple h) (fun e=>((eL_perm es).mem_iff).symm) (eM_ws h)
theorem meshNew_no(n:Int)(es:List Ed)(sa:Option Addr)(cp:Nat)(w:World)(hsl:ESl w sa es)(hcp:es.length≤cp)(z:Int)(hck:Chk n es z)(hz:z≠0):
 Calls Tryz.prog 30 #[.int .i64 n,.slice sa es.length cp] w fun r w'=>r=.returned (.tuple #[.agg #[.slice none 0 0,.slice none 0 0,.slice none 0 0],.int .i64 z])∧Keep nil w w':=by
 have HC:Unit→∀w1,Keep nil w w1→Calls Tryz.prog 29 #[.int .i64 n,.slice sa es.length cp] w1 fun r w'=>r=.returned (.int .i64 z)∧Keep nil w1 w':=fun _ w1 k1=>by
  refine(graphCheck_any n sa es cp w1 (hsl.keep k1) hcp).mono ?_
  rintro r w' ⟨y,rfl,hy,hk⟩
  rw[Chk.uniq hy hck]
  exact⟨rfl,hk⟩
 clear hsl hcp hck
 go_enter Tryz.func30,Tryz.ntmps30
 go_wp2_with fail
 obtain⟨W1,hW1⟩:∃W1,W1=w.alloc (.cells #[.slice none 0 0,.slice none 0 0,.slice none 0 0] 87):=⟨_,rfl⟩
 obtain⟨rb,hrb⟩:∃rb,rb=w.heap.size:=⟨_,rfl⟩
 have K1:Unit→Keep nil w W1∧rb=w.heap.size∧Blk W1 rb #[.slice none 0 0,.slice none 0 0,.slice none 0 0] 87:=fun _=>⟨by rw[hW1];exact(Keep.refl nil w).alloc _,hrb,by rw[hW1,hrb];exact Blk.new _ _ _⟩
 rw[←hW1,←hrb]
 clear hW1 hrb
 refine Calls.mono (HC () W1 (K1 ()).1) ?_
 rintro r w2 ⟨rfl,k2⟩
 have K2:Unit→Keep nil w w2∧w.heap.size≤rb∧Blk w2 rb #[.slice none 0 0,.slice none 0 0,.slice none 0 0] 87:=fun _=>by
  obtain⟨a,b,c⟩:=K1 ()
  exact⟨a.trans k2,by omega,c.keep k2 id⟩
 have hbl:=(K2 ()).2.2
 have c0:=hbl.cell 0
 have c1:=hbl.cell 1
 have c2:=hbl.cell 2
 have f0:=hbl.frozen 0
 have f1:=hbl.frozen 1
 have f2:=hbl.frozen 2
 have hlt:=hbl.lt
 simp at c0 c1 c2
 clear k2 HC K1 hbl
 go_wp2
 obtain⟨W9,hW9⟩:∃W9,W9=((w2.setCell ⟨rb,0,none⟩ (.slice none 0 0)).setCell ⟨rb,1,none⟩ (.slice none 0 0)).setCell ⟨rb,2,none⟩ (.slice none 0 0):=⟨_,rfl⟩
 have B9:Blk W9 rb #[.slice none 0 0,.slice none 0 0,.slice none 0 0] 87:=by
  have:=(((K2 ()).2.2.set 0 (.slice none 0 0)).set 1 (.slice none 0 0)).set 2 (.slice none 0 0)
  rw[hW9]
  exact this
 have k9:Keep (only rb) w2 W9:=by
  rw[hW9]
  exact(((Keep.refl (only rb) w2).setCell (p:=⟨rb,0,none⟩) (fun _=>rfl) _).setCell (p:=⟨rb,1,none⟩) (fun _=>rfl) _).setCell (p:=⟨rb,2,none⟩) (fun _=>rfl) _
 rw[←hW9]
 have z0:W9.cell? ⟨rb,0,none⟩=some (.slice none 0 0):=by rw[B9.cell];rfl
 have z1:W9.cell? ⟨rb,1,none⟩=some (.slice none 0 0):=by rw[B9.cell];rfl
 have z2:W9.cell? ⟨rb,2,none⟩=some (.slice none 0 0):=by rw[B9.cell];rfl
 refine bodyPost_ret (v:=.tuple #[.agg #[.slice none 0 0,.slice none 0 0,.slice none 0 0],.int .i64 z]) (by simp[results,Tryz.results30,go_sem,z0,z1,z2]) rfl ?_
 exact⟨rfl,(K2 ()).1.trans' k9 (fun i hi e=>by have:=(K2 ()).2.1;have e:i=rb:=e;omega)⟩
theorem arborNew_no(n:Int)(es:List Ed)(sa:Option Addr)(cp:Nat)(w:World)(hsl:ESl w sa es)(hcp:es.length≤cp)(z:Int)(hck:Chk n es z)(hz:z≠0):
 Calls Tryz.prog 14 #[.int .i64 n,.slice sa es.length cp] w fun r w'=>r=.returned (.tuple #[.pointer none,.int .i64 z])∧Keep nil w w':=by
 have HM:Unit→∀w1,Keep nil w w1→_:=fun _ w1 k1=>meshNew_no n es sa cp w1 (hsl.keep k1) hcp z hck hz
 clear hsl hcp hck
 go_enter Tryz.func14,Tryz.ntmps14
 go_wp2_with fail
 refine Calls.mono (HM () w (Keep.refl nil w)) ?_
 rintro r w2 ⟨rfl,k2⟩
 have K2:Unit→Keep nil w w2:=fun _=>k2
 clear k2 HM
 go_wp2
 refine bodyPost_ret (v:=.tuple #[.pointer none,.int .i64 z]) (by simp[results,Tryz.results14,go_sem]) rfl ?_
 exact⟨rfl,by first|exact K2 ()|exact(K2 ()).alloc _⟩
end Go.Proofs.YtlfijfodklhplaaGreat
