import Derived.Test.YtlfijfodklhplaaGreatTn10
set_option maxRecDepth 100000
set_option maxHeartbeats 2000000
set_option linter.unusedVariables false
set_option linter.unusedSimpArgs false
namespace Go.Proofs.YtlfijfodklhplaaGreat
open Go.RowKit
structure NRise(n:Nod):Prop where
 rise:∀(i k:Nat) (e f:Nat×Nat),i<k→n.edges[i]?=some e→n.edges[k]?=some f→e.1≤f.1
 few:(n.edges.length:Int)<1000
def bas:List (Nat×Nat)→Nat→List HI.Th
 |[],_=>[]
 |e::r,k=>if e.2=0 then ⟨(k:Int),(e.1:Int)⟩::bas r (k+1)else bas r (k+1)
theorem bas_append(l m:List (Nat×Nat))(k:Nat):bas (l++m) k=bas l k++bas m (k+l.length):=by
 induction l generalizing k with
 |nil=>simp[bas]
 |cons e r ih=>
  rw[List.cons_append,bas,bas]
  split
  ·rw[ih,List.cons_append,List.length_cons,show k+1+r.length=k+(r.length+1)by omega]
  ·rw[ih,List.length_cons,show k+1+r.length=k+(r.length+1)by omega]
theorem bas_len(l:List (Nat×Nat))(k:Nat):(bas l k).length≤l.length:=by
 induction l generalizing k with
 |nil=>simp[bas]
 |cons e r ih=>
  rw[bas]
  have:=ih (k+1)
  split<;>simp<;>omega
theorem bas_mem(l:List (Nat×Nat))(k:Nat)(t:HI.Th)(h:t∈bas l k):∃(i:Nat) (e:Nat×Nat),l[i]?=some e∧t.w=(e.1:Int):=by
 induction l generalizing k with
 |nil=>simp[bas]at h
 |cons e r ih=>
  rw[bas]at h
  split at h
  ·rcases List.mem_cons.1 h with h|h
   ·exact⟨0,e,rfl,by rw[h]⟩
   ·obtain⟨i,f,h1,h2⟩:=ih _ h
    exact⟨i+1,f,by rw[List.getElem?_cons_succ];exact h1,h2⟩
  ·obtain⟨i,f,h1,h2⟩:=ih _ h
   exact⟨i+1,f,by rw[List.getElem?_cons_succ];exact h1,h2⟩
theorem bas_light(l:List (Nat×Nat))(k:Nat):(bas l k=[]∧Nod.lightFrom l k=none)∨∃t r j,bas l k=t::r∧Nod.lightFrom l k=some j∧t.e=(j:Int):=by
 induction l generalizing k with
 |nil=>exact Or.inl ⟨rfl,rfl⟩
 |cons e r ih=>
  rw[bas,Nod.lightFrom]
  by_cases h:e.2=0
  ·rw[if_pos h,if_pos h]
   exact Or.inr ⟨_,_,k,rfl,rfl,rfl⟩
  ·rw[if_neg h,if_neg h]
   exact ih (k+1)
theorem take_add{α:Type}(l:List α)(k:Nat)(e:α)(h:l[k]?=some e):l.take (k+1)=l.take k++[e]:=by
 rw[List.take_add_one,h];rfl
theorem lightest_any(b:Nat)(n:Nod)(p:Np)(w:World)(h:NRep w b n p)(hr:NRise n):
 Calls Tryz.prog 108 #[.pointer (some ⟨b,0,none⟩)] w fun r w'=>r=.returned (.int .i64 (oi n.light))∧Keep nil w w':=by
 have c3:=h.blk.cell 3
 simp[ncells]at c3
 have hbl:=h.blk.lt
 have H:Unit→NRep w b n p∧NRise n:=fun _=>⟨h,hr⟩
 clear h hr
 go_enter Tryz.func108,Tryz.ntmps108
 go_wp2_with fail
 obtain⟨W1,hW1⟩:∃W1,W1=w.alloc (.cells #[.slice none 0 0] 255):=⟨_,rfl⟩
 have hb1:Blk W1 w.heap.size #[.slice none 0 0] 255:=by rw[hW1];exact Blk.new _ _ _
 have hk1:Keep nil w W1:=by rw[hW1];exact(Keep.refl nil w).alloc _
 rw[←hW1]
 obtain⟨hb,hhb⟩:∃hb,hb=w.heap.size:=⟨_,rfl⟩
 rw[←hhb]at hb1⊢
 have H1:Unit→HI.HeapAt W1 hb 0 #[.slice none 0 0] 255 none 0 0 []∧Keep nil w W1∧hb=w.heap.size:=fun _=>⟨⟨hb1,rfl,rfl,Nat.le_refl _,Or.inl ⟨rfl,rfl,rfl⟩⟩,hk1,hhb⟩
 have HF:Unit→(n.edges.length:Int)<1000:=fun _=>(H ()).2.few
 clear hW1 hb1 hk1 hhb c3
 go_loopw [13] (fun v wr=>∃(k:Nat) (a:Option Addr) (nn c:Nat),k≤n.edges.length∧v=.int .i64 (k:Int)∧HI.HeapAt wr hb 0 #[.slice a nn c] 255 a nn c (bas (n.edges.take k) 0)∧Keep nil w wr∧(∀g,a=some ⟨g,0,none⟩→w.heap.size≤g)) (fun v _=>n.edges.length - (intOf v).toNat)
 case atStart=>exact⟨0,none,0,0,by omega,rfl,(H1 ()).1,(H1 ()).2.1,fun g e=>by cases e⟩
 case round=>
  obtain⟨k,a,nn,c,hk,rfl,hheap,hkw,hnew⟩:=hrel
  have HR:Unit→HI.HeapAt wr hb 0 #[.slice a nn c] 255 a nn c (bas (n.edges.take k) 0)∧Keep nil w wr∧(∀g,a=some ⟨g,0,none⟩→w.heap.size≤g)∧k≤n.edges.length:=fun _=>⟨hheap,hkw,hnew,hk⟩
  clear hheap hkw hnew
  by_cases hkl:k<n.edges.length
  ·obtain⟨e,he⟩:∃e,n.edges[k]?=some e:=⟨_,List.getElem?_eq_getElem hkl⟩
   obtain⟨g,o,hga,hgl,e0,e1,_⟩:=((H ()).1.keep (HR ()).2.1 (fun _ _ e=>e)).edge_at k e he
   rw[hga]
   have hkI:(k:Int)<(n.edges.length:Int):=by omega
   have HE:Unit→n.edges[k]?=some e:=fun _=>he
   have HKL:Unit→k<n.edges.length:=fun _=>hkl
   obtain⟨ew,es⟩:=e
   simp only at e0 e1
   clear he hkl hk
   by_cases hes:es=0
   ·subst hes
    have HADD:Unit→Calls Tryz.prog 159 #[.pointer (some ⟨hb,0,none⟩),.int .i64 (k:Int),.int .i64 (ew:Int)] (wr.alloc (.cells #[.int .i64 (ew:Int),.int .i64 0] 190)) fun r w'=>r=.returned (.tuple #[])∧∃(a':Option Addr) (nn' c':Nat),HI.HeapAt w' hb 0 #[.slice a' nn' c'] 255 a' nn' c' (bas (n.edges.take (k+1)) 0)∧Keep nil w w'∧(∀g,a'=some ⟨g,0,none⟩→w.heap.size≤g):=fun _=>by
     obtain⟨hh,hkw,hnew,hk⟩:=HR ()
     have ka:Keep nil wr (wr.alloc (.cells #[.int .i64 (ew:Int),.int .i64 0] 190)):=(Keep.refl nil wr).alloc _
     have hb2:=bas_len (n.edges.take k) 0
     have hl2:(n.edges.take k).length≤k:=by rw[List.length_take];omega
     have hnn:=hh.len
     refine(HI.add_any hb 0 _ 255 a nn c _ (k:Int) (ew:Int) _ ⟨hh.blk.keep ka (fun e=>e),hh.at_,hh.len,hh.cap,hh.row.imp id (fun⟨pb,h1,h2,h3⟩=>⟨pb,h1,h2,h3.keep ka (fun e=>e)⟩)⟩ (by have:=HF ();omega) (fun x hx=>?_)).mono ?_
     ·obtain⟨i,f,h1,h2⟩:=bas_mem _ _ x hx
      have hi:=(List.getElem?_eq_some_iff.1 h1).1
      rw[List.length_take]at hi
      rw[List.getElem?_take_of_lt (by omega)]at h1
      have:=(H ()).2.rise i k f (ew,0) (by omega) h1 (HE ())
      rw[h2]
      simp only at this
      omega
     ·rintro r w' ⟨rfl,a',n',c',L',g1,rfl,g3,g4⟩
      refine⟨rfl,a',n',c',?_,(hkw.alloc _).trans' g4 (fun i hi e=>?_),fun g hg=>?_⟩
      ·have:bas (n.edges.take (k+1)) 0=bas (n.edges.take k) 0++[⟨(k:Int),(ew:Int)⟩]:=by
        rw[take_add _ _ _ (HE ()),bas_append]
        have hlk:(n.edges.take k).length=k:=by rw[List.length_take];omega
        rw[hlk,Nat.zero_add]
        rfl
       rw[this]
       exact g1
      ·have:=(H1 ()).2.2
       rcases e with e|e
       ·omega
       ·have:=hnew i e;omega
      ·rcases g3 g hg with h|h
       ·exact hnew g h
       ·have:=hkw.size;simp only[World.size_alloc]at h;omega
    go_wp2_with fail
    refine Calls.mono (HADD ()) ?_
    rintro r w2 ⟨rfl,a',nn',c',hpost⟩
    have HP:Unit→_:=fun _=>hpost
    clear hpost HADD e0 e1
    have hk9:(k:Int)<1000:=by have:=HF ();omega
    clear hkI
    go_wp2
    exact⟨⟨k+1,a',nn',c',by have:=HKL ();omega,by go_num,HP ()⟩,by have:=HKL ();simp[intOf];omega⟩
   ·have hes2:((es:Int)==0)=false:=by rw[beq_eq_false_iff_ne];omega
    have hes3:¬(es:Int)=0:=by omega
    have HP:Unit→HI.HeapAt (wr.alloc (.cells #[.int .i64 (ew:Int),.int .i64 (es:Int)] 190)) hb 0 #[.slice a nn c] 255 a nn c (bas (n.edges.take (k+1)) 0)∧Keep nil w (wr.alloc (.cells #[.int .i64 (ew:Int),.int .i64 (es:Int)] 190))∧(∀g,a=some ⟨g,0,none⟩→w.heap.size≤g):=fun _=>by
     obtain⟨hh,hkw,hnew,hk⟩:=HR ()
     have ka:Keep nil wr (wr.alloc (.cells #[.int .i64 (ew:Int),.int .i64 (es:Int)] 190)):=(Keep.refl nil wr).alloc _
     refine⟨?_,hkw.trans ka,hnew⟩
     have:bas (n.edges.take (k+1)) 0=bas (n.edges.take k) 0:=by
      rw[take_add _ _ _ (HE ()),bas_append]
      simp[bas,hes]
     rw[this]
     exact⟨hh.blk.keep ka (fun e=>e),hh.at_,hh.len,hh.cap,hh.row.imp id (fun⟨pb,h1,h2,h3⟩=>⟨pb,h1,h2,h3.keep ka (fun e=>e)⟩)⟩
    have hk9:(k:Int)<1000:=by have:=HF ();omega
    clear hes
    go_wp2
    exact⟨⟨k+1,a,nn,c,by have:=HKL ();omega,by go_num,HP ()⟩,by have:=HKL ();simp[intOf];omega⟩
  ·have ek:k=n.edges.length:=by omega
   subst ek
   have HTK:Unit→bas (n.edges.take n.edges.length) 0=bas n.edges 0:=fun _=>by rw[List.take_length]
   rcases bas_light n.edges 0 with⟨h1,h2⟩|⟨t,r,j,h1,h2,h3⟩
   ·have hn0:nn=0:=by have:=(HR ()).1.len;rw[HTK (),h1]at this;simpa using this.symm
    subst hn0
    have hcell:=((HR ()).1.blk.cell 0)
    simp at hcell
    have hlt:n.light=none:=h2
    have HLT:Unit→oi n.light=-1:=fun _=>by rw[hlt];rfl
    have HKW:Unit→Keep nil w wr:=fun _=>(HR ()).2.1
    clear HR H H1 h1 h2 hlt HTK
    go_wp2_with fail
    refine(HI.take_none hb 0 a c _ hcell).mono ?_
    rintro r w2 ⟨rfl,hk2⟩
    have HP:Unit→Keep nil w w2:=fun _=>(HKW ()).trans hk2
    clear hk2 hcell
    go_wp2
    go_ret
    exact⟨by rw[HLT ()];rfl,HP ()⟩
   ·obtain⟨n',hn'⟩:∃n',nn=n'+1:=by
     have:=(HR ()).1.len
     rw[HTK (),h1]at this
     exact⟨r.length,by simpa using this.symm⟩
    subst hn'
    have hlt:n.light=some j:=h2
    have HLT:Unit→oi n.light=t.e:=fun _=>by rw[hlt,oi_some,h3]
    have HT:Unit→Calls Tryz.prog 160 #[.pointer (some ⟨hb,0,none⟩)] wr fun r w'=>r=.returned (.tuple #[.int .i64 t.e,.bool true])∧Keep nil w w':=fun _=>by
     obtain⟨hh,hkw,hnew,hk⟩:=HR ()
     have hb2:=bas_len n.edges 0
     have hl:=hh.len
     rw[HTK (),h1]at hl
     rw[h1]at hb2
     refine(HI.take_some hb 0 _ 255 a n' c _ wr hh (by have:=HF ();simp at hl hb2;omega) t (by rw[HTK (),h1];rfl)).mono ?_
     rintro r w' ⟨rfl,a',n'',c',L',g1,_,g3,g4⟩
     refine⟨rfl,hkw.trans' g4 (fun i hi e=>?_)⟩
     have:=(H1 ()).2.2
     rcases e with e|e
     ·omega
     ·have:=hnew i e;omega
    clear HR H H1 h1 h2 h3 hlt HTK
    go_wp2_with fail
    refine Calls.mono (HT ()) ?_
    rintro r w2 ⟨rfl,hk2⟩
    have HP:Unit→Keep nil w w2:=fun _=>hk2
    clear hk2 HT
    go_wp2
    go_ret
    exact⟨by rw[HLT ()];rfl,HP ()⟩
theorem NRep.cells{w:World}{b:Nat}{n:Nod}{p:Np}(h:NRep w b n p):w.cell? ⟨b,0,none⟩=some (.int .i64 (n.state:Int))∧w.cell? ⟨b,1,none⟩=some (.int .i64 (n.level:Int))∧w.cell? ⟨b,2,none⟩=some (.int .i64 (n.name:Int))∧w.cell? ⟨b,3,none⟩=some (.slice p.ea n.edges.length p.ec)∧w.cell? ⟨b,4,none⟩=some (.int .i64 (oi n.inn))∧w.cell? ⟨b,5,none⟩=some (.int .i64 (oi n.best))∧w.cell? ⟨b,6,none⟩=some (.int .i64 (n.bw:Int))∧w.cell? ⟨b,7,none⟩=some (.int .i64 (oi n.tested))∧w.cell? ⟨b,8,none⟩=some (.int .i64 n.count)∧w.cell? ⟨b,9,none⟩=some (.bool n.over)∧w.cell? ⟨b,10,none⟩=some (.slice p.fa n.off.length p.fc)∧w.cell? ⟨b,11,none⟩=some (.slice p.sa n.sent.length p.sc):=
 ⟨h.blk.cell 0,h.blk.cell 1,h.blk.cell 2,h.blk.cell 3,h.blk.cell 4,h.blk.cell 5,h.blk.cell 6,h.blk.cell 7,h.blk.cell 8,h.blk.cell 9,h.blk.cell 10,h.blk.cell 11⟩
theorem hear_any(b:Nat)(n:Nod)(p:Np)(j x:Nat)(w:World)(h:NRep w b n p):
 Calls Tryz.prog 223 #[.pointer (some ⟨b,0,none⟩),.int .i64 (j:Int),.int .i64 (x:Int)] w fun r w'=>r=.returned (.tuple #[])∧NRep w' b (n.hear j x) p∧NStep w w' b p p:=by
 obtain⟨c0,c1,c2,c3,c4,c5,c6,c7,c8,c9,c10,c11⟩:=h.cells
 have hbl:=h.blk.lt
 have f5:=h.blk.frozen 5
 have f6:=h.blk.frozen 6
 by_cases hx:x<n.bw
 ·have HP:Unit→NRep ((w.setCell ⟨b,5,none⟩ (.int .i64 (j:Int))).setCell ⟨b,6,none⟩ (.int .i64 (x:Int))) b (n.hear j x) p∧NStep w ((w.setCell ⟨b,5,none⟩ (.int .i64 (j:Int))).setCell ⟨b,6,none⟩ (.int .i64 (x:Int))) b p p:=fun _=>by
   have h1:=h.set (n':={ n with best:=some j}) 5 (.int .i64 (j:Int)) (by simp[ncells,oi]) rfl rfl rfl
   have h2:=h1.1.set (n':={ n with best:=some j,bw:=x}) 6 (.int .i64 (x:Int)) (by simp[ncells]) rfl rfl rfl
   have e:n.hear j x={ n with best:=some j,bw:=x}:=by unfold Nod.hear;rw[if_pos hx]
   rw[e]
   exact⟨h2.1,h1.2.trans h2.2⟩
  have hxI:(x:Int)<(n.bw:Int):=by omega
  clear h c0 c1 c2 c3 c4 c7 c8 c9 c10 c11 hx
  generalize oi n.best=nb at *
  generalize n.bw=bw at *
  go_enter Tryz.func223,Tryz.ntmps223
  go_wp2
  go_end0
  exact⟨rfl,HP ()⟩
 ·have HP:Unit→NRep w b (n.hear j x) p:=fun _=>by
   have e:n.hear j x=n:=by unfold Nod.hear;rw[if_neg hx]
   rw[e];exact h
  have hxI:(n.bw:Int)≤(x:Int):=by omega
  clear h c0 c1 c2 c3 c4 c5 c7 c8 c9 c10 c11 hx
  go_enter Tryz.func223,Tryz.ntmps223
  go_wp2
  go_end0
  exact⟨rfl,HP (),NStep.refl _ _ _⟩
theorem NRep.setEdge{w:World}{b:Nat}{n:Nod}{p:Np}(h:NRep w b n p)(j s:Nat)(e:Nat×Nat)(he:n.edges[j]?=some e)(g o:Nat)(hga:p.ea=some ⟨g,o,none⟩):
 NRep (w.setCell ⟨g,o+j * 2+1,none⟩ (.int .i64 (s:Int))) b (n.setSt j s) p∧NStep w (w.setCell ⟨g,o+j * 2+1,none⟩ (.int .i64 (s:Int))) b p p:=by
 have ks:Keep (only g) w (w.setCell ⟨g,o+j * 2+1,none⟩ (.int .i64 (s:Int))):=(Keep.refl (only g) w).setCell (p:=⟨g,o+j * 2+1,none⟩) (fun _=>rfl) _
 have hg:inB p.ea g:=by rw[hga];exact inB_self g o
 have hgb:b≠g:=fun e=>h.eb (e▸hg)
 have hl:(n.setSt j s).edges.length=n.edges.length:=by simp[Nod.setSt]
 have hw:n.wt j=e.1:=by unfold Nod.wt;rw[he]
 refine⟨⟨?_,?_,h.frow.keep ks (fun k hk e=>h.ef g hg (by rw[←show k=g from e];exact hk)),h.srow.keep ks (fun k hk e=>h.es g hg (by rw[←show k=g from e];exact hk)),h.eb,h.fb,h.sb,h.ef,h.es,h.fs⟩,⟨fun _ h=>Or.inl h,ks.mono (fun k _ e=>Or.inr (Or.inl (by rw[show k=g from e];exact hg))),rfl,rfl⟩⟩
 ·have hb:=h.blk.keep ks (fun e=>hgb e)
  have e1:ncells (n.setSt j s) p=ncells n p:=by simp[ncells,Nod.setSt]
  rw[e1];exact hb
 ·rw[hl]
  obtain⟨h1,h2,h3⟩:=h.erow
  rcases h3 with⟨h3,_⟩|⟨g',o',h3,pre,sp,hblk,hpre,hcap⟩
  ·rw[h3]at hga;cases hga
  ·rw[h3]at hga
   cases hga
   have hj:=(List.getElem?_eq_some_iff.1 he).1
   have hset:∀(l:List (Nat×Nat)) (k:Nat) (f:Nat×Nat),l[k]?=some f→(necells l).set (k * 2+1) (.int .i64 (s:Int))=necells (l.set k (f.1,s)):=by
    intro l
    induction l with
    |nil=>intro k f h;simp at h
    |cons x t ih=>
     intro k f h
     have hc:∀y:Nat×Nat,∀t:List (Nat×Nat),necells (y::t)=necell y++necells t:=fun y t=>by simp[necells]
     cases k with
     |zero=>simp at h;subst h;simp[hc,necell]
     |succ k=>
      rw[List.getElem?_cons_succ]at h
      rw[hc,List.set_cons_succ,hc,←ih k f h,List.set_append_right _ _ (by simp[necell];omega)]
      have:(necell x).length=2:=rfl
      rw[this,show (k+1) * 2+1 - 2=k * 2+1 by omega]
   have hset1:=hset n.edges j e he
   have hlen:(necells n.edges).length=n.edges.length * 2:=h1
   refine⟨?_,h2,Or.inr ⟨g,o,h3,pre,sp,?_,hpre,?_⟩⟩
   ·show (necells (n.edges.set j (n.wt j,s))).length=_
    rw[hw,←hset1,List.length_set];exact h1
   ·have:=hblk.set (o+j * 2+1) (.int .i64 (s:Int))
    show Blk _ _ (pre++necells (n.edges.set j (n.wt j,s))++sp).toArray _
    rw[hw,←hset1]
    rw[List.setIfInBounds_toArray,List.append_assoc,List.set_append_right _ _ (by omega),List.set_append_left _ _ (by omega),show o+j * 2+1 - pre.length=j * 2+1 by omega,←List.append_assoc]at this
    exact this
   ·show _≤(necells (n.edges.set j (n.wt j,s))).length+_
    rw[hw,←hset1,List.length_set];exact hcap
theorem nreject_any(b:Nat)(n:Nod)(p:Np)(j:Nat)(w:World)(h:NRep w b n p)(hj:j<n.edges.length)(hf:(n.edges.length:Int)<1000):
 Calls Tryz.prog 203 #[.pointer (some ⟨b,0,none⟩),.int .i64 (j:Int)] w fun r w'=>r=.returned (.tuple #[])∧NRep w' b (n.reject j) p∧NStep w w' b p p:=by
 obtain⟨c0,c1,c2,c3,c4,c5,c6,c7,c8,c9,c10,c11⟩:=h.cells
 have hbl:=h.blk.lt
 obtain⟨e,he⟩:∃e,n.edges[j]?=some e:=⟨_,List.getElem?_eq_getElem hj⟩
 obtain⟨g,o,hga,hgl,e0,e1,fz⟩:=h.edge_at j e he
 have hjI:(j:Int)<(n.edges.length:Int):=by omega
 have hst:n.st j=e.2:=by unfold Nod.st;rw[he]
 by_cases hs:e.2=0
 ·have HP:Unit→_:=fun _=>h.setEdge j 2 e he g o hga
  have HE:Unit→n.reject j=n.setSt j 2:=fun _=>by unfold Nod.reject;rw[hst,if_pos hs]
  rw[hs]at e1
  rw[hga]at c3
  clear h c0 c1 c2 c4 c5 c6 c7 c8 c9 c10 c11 hj hf hst hs he
  generalize n.edges.length=nl at *
  go_enter Tryz.func203,Tryz.ntmps203
  go_wp2
  go_end0
  exact⟨rfl,by rw[HE ()];exact HP ()⟩
 ·have HE:Unit→NRep w b (n.reject j) p:=fun _=>by
   have:n.reject j=n:=by unfold Nod.reject;rw[hst,if_neg hs]
   rw[this];exact h
  rw[hga]at c3
  obtain⟨ew,es⟩:=e
  simp only at e0 e1 hs
  have hs2:((es:Int)==0)=false:=by rw[beq_eq_false_iff_ne];omega
  have hs3:¬(es:Int)=0:=by omega
  clear h c0 c1 c2 c4 c5 c6 c7 c8 c9 c10 c11 hj hf hst hs he
  generalize n.edges.length=nl at *
  go_enter Tryz.func203,Tryz.ntmps203
  go_wp2
  go_end0
  exact⟨rfl,HE (),NStep.refl _ _ _⟩
theorem oi_ne(t:Option Nat)(h:t≠none):(oi t== -1)=false∧¬oi t=-1:=by
 cases t with
 |none=>exact(h rfl).elim
 |some j=>simp only[oi];exact⟨by rw[beq_eq_false_iff_ne];omega,by omega⟩
theorem nreports_any(b:Nat)(n:Nod)(p:Np)(w:World)(h:NRep w b n p)(hl:(n.sent.length:Int)<1000000000000):
 Calls Tryz.prog 224 #[.pointer (some ⟨b,0,none⟩)] w fun r w'=>r=.returned (.tuple #[])∧∃p',NRep w' b n.reports p'∧NStep w w' b p p':=by
 obtain⟨c0,c1,c2,c3,c4,c5,c6,c7,c8,c9,c10,c11⟩:=h.cells
 have hbl:=h.blk.lt
 have f0:=h.blk.frozen 0
 by_cases hc:n.count=0
 ·by_cases ht:n.tested=none
  ·have h1:=h.set (n':={ n with state:=2}) 0 (.int .i64 2) (by simp[ncells]) rfl rfl rfl
   rw[ht]at c7
   rw[hc]at c8
   simp only[oi]at c7
   cases hi:n.inn with
   |none=>
    have HE:Unit→n.reports={ n with state:=2}:=fun _=>by unfold Nod.reports;rw[if_pos ⟨hc,ht⟩,hi]
    rw[hi]at c4
    simp only[oi]at c4
    have H1:Unit→_:=fun _=>h1
    clear h h1 c1 c2 c3 c5 c6 c9 c10 c11 hl
    go_enter Tryz.func224,Tryz.ntmps224
    go_wp2
    go_end0
    exact⟨rfl,p,by rw[HE ()];exact(H1 ()).1,(H1 ()).2⟩
   |some i=>
    have HE:Unit→n.reports=({ n with state:=2}:Nod).send i (.report n.bw):=fun _=>by unfold Nod.reports;rw[if_pos ⟨hc,ht⟩,hi]
    rw[hi]at c4
    simp only[oi]at c4
    have H1:Unit→_:=fun _=>h1
    have hi2:((i:Int)== -1)=false:=by rw[beq_eq_false_iff_ne];omega
    have hi3:¬(i:Int)=-1:=by omega
    have HS:Unit→∀w1,Keep nil (w.setCell ⟨b,0,none⟩ (.int .i64 2)) w1→_:=fun _ w1 k1=>nsend_any b { n with state:=2} p i (.report n.bw) w1 (h1.1.keep k1 (fun _ _ e=>e)) hl
    simp only[NMsg.val]at HS
    clear h h1 c1 c2 c3 c5 c9 c10 c11 hl
    go_enter Tryz.func224,Tryz.ntmps224
    go_wp2_with fail
    obtain⟨WS,hWS⟩:∃WS,WS=w.setCell ⟨b,0,none⟩ (.int .i64 2):=⟨_,rfl⟩
    obtain⟨_,_,_,_,d4,_,d6,_⟩:=(H1 ()).1.cells
    simp only[hi,oi]at d4
    simp only at d6
    rw[←hWS]at d4 d6 HS⊢
    have HW:Unit→WS=w.setCell ⟨b,0,none⟩ (.int .i64 2):=fun _=>hWS
    clear hWS c0 c4 c6 c7 c8
    go_still_tail 11,(by kernel_rfl)
    go_wp2_with fail
    refine Calls.mono (HS () _ ((Keep.refl nil WS).drew)) ?_
    rintro r w2 ⟨rfl,p2,hr2,hs2⟩
    have HP:Unit→∃p',NRep w2 b n.reports p'∧NStep w w2 b p p':=fun _=>⟨p2,by rw[HE ()];exact hr2,by
     have h2:=(H1 ()).2
     rw[←HW ()]at h2
     exact(h2.trans (NStep.of_keep b p ((Keep.refl nil WS).drew))).trans hs2⟩
    clear hr2 hs2 HS d4 d6
    go_wp2
    go_end0
    exact⟨rfl,HP ()⟩
  ·have HE:Unit→n.reports=n:=fun _=>by unfold Nod.reports;rw[if_neg (fun e=>ht e.2)]
   obtain⟨t1,t2⟩:=oi_ne n.tested ht
   rw[hc]at c8
   have H:Unit→_:=fun _=>h
   clear h c0 c1 c2 c3 c4 c5 c6 c9 c10 c11 hl
   go_enter Tryz.func224,Tryz.ntmps224
   go_wp2
   (try simp only[Exit.inBlock,Exit.then])
   refine bodyPost_ret (results_none rfl _ _ _) rfl ?_
   exact⟨rfl,p,by rw[HE ()];exact H (),NStep.refl _ _ _⟩
 ·have HE:Unit→n.reports=n:=fun _=>by unfold Nod.reports;rw[if_neg (fun e=>hc e.1)]
  have hc2:(n.count==0)=false:=by rw[beq_eq_false_iff_ne];exact hc
  have H:Unit→_:=fun _=>h
  clear h c0 c1 c2 c3 c4 c5 c6 c9 c10 c11 hl
  go_enter Tryz.func224,Tryz.ntmps224
  go_wp2
  (try simp only[Exit.inBlock,Exit.then])
  refine bodyPost_ret (results_none rfl _ _ _) rfl ?_
  exact⟨rfl,p,by rw[HE ()];exact H (),NStep.refl _ _ _⟩
theorem NRise.of{n n':Nod}(h:NRise n)(he:n'.edges=n.edges):NRise n':=⟨by rw[he];exact h.rise,by rw[he];exact h.few⟩
theorem setSt_len(n:Nod)(j s:Nat):(n.setSt j s).edges.length=n.edges.length:=by simp[Nod.setSt]
theorem setSt_at(n:Nod)(j s k:Nat)(e:Nat×Nat)(h:(n.setSt j s).edges[k]?=some e):∃f,n.edges[k]?=some f∧f.1=e.1:=by
 simp only[Nod.setSt]at h
 by_cases hk:k=j
 ·subst hk
  have hl:k<n.edges.length:=by have:=(List.getElem?_eq_some_iff.1 h).1;simpa using this
  rw[List.getElem?_set_self hl]at h
  cases h
  exact⟨n.edges[k],List.getElem?_eq_getElem hl,by unfold Nod.wt;rw[List.getElem?_eq_getElem hl]⟩
 ·rw[List.getElem?_set_ne (Ne.symm hk)]at h
  exact⟨e,h,rfl⟩
theorem NRise.set{n:Nod}(h:NRise n)(j s:Nat):NRise (n.setSt j s):=by
 refine⟨fun i k e f hik he hf=>?_,by rw[setSt_len];exact h.few⟩
 obtain⟨e',he',e1⟩:=setSt_at n j s i e he
 obtain⟨f',hf',f1⟩:=setSt_at n j s k f hf
 have:=h.rise i k e' f' hik he' hf'
 omega
theorem spread_any(b:Nat)(n:Nod)(p:Np)(j l nm:Nat)(f:Bool)(w:World)(h:NRep w b n p)(hl:(n.sent.length:Int)<1000000000000):
 Calls Tryz.prog 222 #[.pointer (some ⟨b,0,none⟩),.int .i64 (j:Int),.agg #[.int .i64 (l:Int),.int .i64 (nm:Int),.bool f]] w fun r w'=>r=.returned (.tuple #[])∧∃p',NRep w' b (n.spread j l nm f) p'∧NStep w w' b p p':=by
 have HS:Unit→∀w1,Keep nil w w1→_:=fun _ w1 k1=>nsend_any b n p j (.initiate l nm f) w1 (h.keep k1 (fun _ _ e=>e)) hl
 simp only[NMsg.val]at HS
 have HB:Unit→∀k,NMine b p k→k<w.heap.size:=fun _=>h.lt
 clear h hl
 go_enter Tryz.func222,Tryz.ntmps222
 go_wp2_with fail
 obtain⟨W1,hW1⟩:∃W1,W1=w.alloc (.cells #[.int .i64 (l:Int),.int .i64 (nm:Int),.bool f] 313):=⟨_,rfl⟩
 have hb1:Blk W1 w.heap.size #[.int .i64 (l:Int),.int .i64 (nm:Int),.bool f] 313:=by rw[hW1];exact Blk.new _ _ _
 have hk1:Keep nil w W1:=by rw[hW1];exact(Keep.refl nil w).alloc _
 rw[←hW1]
 have H1:Unit→Blk W1 w.heap.size #[.int .i64 (l:Int),.int .i64 (nm:Int),.bool f] 313∧Keep nil w W1:=fun _=>⟨hb1,hk1⟩
 clear hW1 hb1 hk1
 refine Calls.mono (HS () W1 (H1 ()).2) ?_
 rintro r w2 ⟨rfl,p2,hr2,hs2⟩
 have c2:=((H1 ()).1.keep hs2.keep (fun e=>by have:=HB () _ e;omega)).cell 2
 simp at c2
 have HR:Unit→NRep w2 b (n.send j (.initiate l nm f)) p2∧NStep w w2 b p p2:=fun _=>⟨hr2,(NStep.of_keep b p (H1 ()).2).trans hs2⟩
 obtain⟨_,_,_,_,_,_,_,_,d8,_⟩:=hr2.cells
 have f8:=hr2.blk.frozen 8
 have hbl:=hr2.blk.lt
 have d8':w2.cell? ⟨b,8,none⟩=some (.int .i64 n.count):=d8
 clear hr2 hs2 HS d8
 cases f with
 |true=>
  have HP:Unit→NRep (w2.setCell ⟨b,8,none⟩ (.int .i64 (wrap64 (n.count+1)))) b (n.spread j l nm true) p2∧NStep w (w2.setCell ⟨b,8,none⟩ (.int .i64 (wrap64 (n.count+1)))) b p p2:=fun _=>by
   have h1:=(HR ()).1.set (n':=n.spread j l nm true) 8 (.int .i64 (wrap64 (n.count+1))) (by simp[ncells,Nod.spread,Nod.send]) rfl rfl rfl
   exact⟨h1.1,(HR ()).2.trans h1.2⟩
  generalize n.count=ct at *
  go_wp2
  go_end0
  exact⟨rfl,p2,HP ()⟩
 |false=>
  go_wp2
  go_end0
  exact⟨rfl,p2,HR ()⟩
theorem tests_any(b:Nat)(n:Nod)(p:Np)(w:World)(h:NRep w b n p)(hr:NRise n)(hl:(n.sent.length:Int)<1000000000000):
 Calls Tryz.prog 204 #[.pointer (some ⟨b,0,none⟩)] w fun r w'=>r=.returned (.tuple #[])∧∃p',NRep w' b n.tests p'∧NStep w w' b p p':=by
 have HLB:Unit→∀w1,Keep nil w w1→_:=fun _ w1 k1=>lightest_any b n p w1 (h.keep k1 (fun _ _ e=>e)) hr
 have hbl:=h.blk.lt
 have H:Unit→NRep w b n p∧(n.sent.length:Int)<1000000000000:=fun _=>⟨h,hl⟩
 clear h hr hl
 go_enter Tryz.func204,Tryz.ntmps204
 go_wp2_with fail
 refine Calls.mono (HLB () w (Keep.refl _ _)) ?_
 rintro r w1 ⟨rfl,hk1⟩
 have h1:=(H ()).1.keep hk1 (fun _ _ e=>e)
 have f7:=h1.blk.frozen 7
 obtain⟨_,_,_,_,_,_,_,d7,_⟩:=h1.cells
 have hbl1:=h1.blk.lt
 have h2:=h1.set (n':={ n with tested:=n.light}) 7 (.int .i64 (oi n.light)) (by simp[ncells]) rfl rfl rfl
 have H2:Unit→NRep (w1.setCell ⟨b,7,none⟩ (.int .i64 (oi n.light))) b { n with tested:=n.light} p∧NStep w (w1.setCell ⟨b,7,none⟩ (.int .i64 (oi n.light))) b p p:=fun _=>⟨h2.1,(NStep.of_keep b p hk1).trans h2.2⟩
 clear h1 h2 hk1 HLB
 cases hlt:n.light with
 |none=>
  rw[hlt]at H2
  have HE:Unit→n.tests=({ n with tested:=none}:Nod).reports:=fun _=>by unfold Nod.tests;rw[hlt]
  simp only[oi]at H2⊢
  have HRP:Unit→_:=fun _=>nreports_any b { n with tested:=none} p _ (H2 ()).1 (H ()).2
  go_wp2_with fail
  refine Calls.mono (HRP ()) ?_
  rintro r w3 ⟨rfl,p3,hr3,hs3⟩
  have HP:Unit→∃p',NRep w3 b n.tests p'∧NStep w w3 b p p':=fun _=>⟨p3,by rw[HE ()];exact hr3,(H2 ()).2.trans hs3⟩
  clear hr3 hs3 HRP
  go_wp2
  (try simp only[Exit.inBlock,Exit.then])
  refine bodyPost_ret (results_none rfl _ _ _) rfl ?_
  exact⟨rfl,HP ()⟩
 |some j=>
  rw[hlt]at H2
  have HE:Unit→n.tests=({ n with tested:=some j}:Nod).send j (.test n.level n.name):=fun _=>by unfold Nod.tests;rw[hlt]
  simp only[oi]at H2⊢
  have hj2:((j:Int)== -1)=false:=by rw[beq_eq_false_iff_ne];omega
  have hj3:¬(j:Int)=-1:=by omega
  have HS:Unit→∀w3,Keep nil (w1.setCell ⟨b,7,none⟩ (.int .i64 (j:Int))) w3→_:=fun _ w3 k3=>nsend_any b { n with tested:=some j} p j (.test n.level n.name) w3 ((H2 ()).1.keep k3 (fun _ _ e=>e)) (H ()).2
  simp only[NMsg.val]at HS
  go_wp2_with fail
  obtain⟨WS,hWS⟩:∃WS,WS=w1.setCell ⟨b,7,none⟩ (.int .i64 (j:Int)):=⟨_,rfl⟩
  rw[←hWS]at H2 HS⊢
  obtain⟨_,e1,e2,_,_,_,_,e7,_⟩:=(H2 ()).1.cells
  simp only[oi]at e1 e2 e7
  clear hWS d7 f7
  generalize n.level=lv at *
  generalize n.name=nm at *
  go_still_tail 15,(by kernel_rfl)
  go_wp2_with fail
  refine Calls.mono (HS () _ ((Keep.refl nil WS).drew)) ?_
  rintro r w3 ⟨rfl,p3,hr3,hs3⟩
  have HP:Unit→∃p',NRep w3 b n.tests p'∧NStep w w3 b p p':=fun _=>⟨p3,by rw[HE ()];exact hr3,((H2 ()).2.trans (NStep.of_keep b p ((Keep.refl nil WS).drew))).trans hs3⟩
  clear hr3 hs3 HS e1 e2 e7
  go_wp2
  go_end0
  exact⟨rfl,HP ()⟩
theorem lightFrom_at(l:List (Nat×Nat))(k j:Nat)(h:Nod.lightFrom l k=some j):k≤j∧∃e,l[j - k]?=some e∧e.2=0:=by
 induction l generalizing k with
 |nil=>simp[Nod.lightFrom]at h
 |cons x t ih=>
  rw[Nod.lightFrom]at h
  split at h
  ·rename_i hx
   cases h
   exact⟨Nat.le_refl _,x,by simp,hx⟩
  ·obtain⟨h1,e,h2,h3⟩:=ih (k+1) h
   refine⟨by omega,e,?_,h3⟩
   rw[show j - k=(j - (k+1))+1 by omega,List.getElem?_cons_succ]
   exact h2
theorem light_at{n:Nod}{j:Nat}(h:n.light=some j):∃e,n.edges[j]?=some e:=by
 obtain⟨_,e,h1,_⟩:=lightFrom_at n.edges 0 j h
 exact⟨e,by simpa using h1⟩
theorem wake_any(b:Nat)(n:Nod)(p:Np)(w:World)(h:NRep w b n p)(hr:NRise n)(hl:(n.sent.length:Int)<1000000000000):
 Calls Tryz.prog 63 #[.pointer (some ⟨b,0,none⟩)] w fun r w'=>r=.returned (.tuple #[])∧∃p',NRep w' b n.wake p'∧NStep w w' b p p':=by
 obtain⟨c0,c1,c2,c3,c4,c5,c6,c7,c8,c9,c10,c11⟩:=h.cells
 have hbl:=h.blk.lt
 have f0:=h.blk.frozen 0
 have f1:=h.blk.frozen 1
 have f8:=h.blk.frozen 8
 by_cases hs:n.state=0
 ·rw[hs]at c0
  go_enter Tryz.func63,Tryz.ntmps63
  go_wp2_with fail
  have h1:=h.set (n':={ n with level:=0}) 1 (.int .i64 0) (by simp[ncells]) rfl rfl rfl
  have h2:=h1.1.set (n':={ n with level:=0,state:=2}) 0 (.int .i64 2) (by simp[ncells]) rfl rfl rfl
  have h3:=h2.1.set (n':={ n with level:=0,state:=2,count:=0}) 8 (.int .i64 0) (by simp[ncells]) rfl rfl rfl
  obtain⟨WS,hWS⟩:∃WS,WS=((w.setCell ⟨b,1,none⟩ (.int .i64 0)).setCell ⟨b,0,none⟩ (.int .i64 2)).setCell ⟨b,8,none⟩ (.int .i64 0):=⟨_,rfl⟩
  have h4:=(h1.2.trans h2.2).trans h3.2
  rw[←hWS]at h3 h4⊢
  obtain⟨m,hm⟩:∃m:Nod,m={ n with level:=0,state:=2,count:=0}:=⟨_,rfl⟩
  have H1:Unit→NRep WS b m p∧NStep w WS b p p∧NRise m∧(m.sent.length:Int)<1000000000000∧m.level=0:=fun _=>⟨by rw[hm];exact h3.1,h4,hr.of (by rw[hm]),by rw[hm];exact hl,by rw[hm]⟩
  have HW:Unit→n.wake=match m.light with|none=>{ m with over:=true}|some j=>(m.setSt j 1).send j (.connect 0):=fun _=>by unfold Nod.wake;rw[if_pos hs,hm];rfl
  clear h1 h2 h3 h4 hWS hm c0 c1 c2 c3 c4 c5 c6 c7 c8 c9 c10 c11 hbl f0 f1 f8 hs hr hl h
  refine(lightest_any b m p WS (H1 ()).1 (H1 ()).2.2.1).mono ?_
  rintro r w1 ⟨rfl,hk1⟩
  have H2:Unit→NRep w1 b m p∧NStep w w1 b p p:=fun _=>⟨(H1 ()).1.keep hk1 (fun _ _ e=>e),(H1 ()).2.1.trans (NStep.of_keep b p hk1)⟩
  clear hk1
  have hbl:=(H2 ()).1.blk.lt
  have f9:=(H2 ()).1.blk.frozen 9
  obtain⟨c0,c1,c2,c3,c4,c5,c6,c7,c8,c9,c10,c11⟩:=(H2 ()).1.cells
  rw[(H1 ()).2.2.2.2]at c1
  cases hlt:m.light with
  |none=>
   rw[hlt]at HW
   simp only[oi]
   have h5:=(H2 ()).1.set (n':={ m with over:=true}) 9 (.bool true) (by simp[ncells]) rfl rfl rfl
   have HP:Unit→∃p',NRep (w1.setCell ⟨b,9,none⟩ (.bool true)) b n.wake p'∧NStep w (w1.setCell ⟨b,9,none⟩ (.bool true)) b p p':=fun _=>⟨p,by rw[HW ()];exact h5.1,(H2 ()).2.trans h5.2⟩
   clear h5 c0 c1 c2 c3 c4 c5 c6 c7 c8 c10 c11
   go_wp2
   (try simp only[Exit.inBlock,Exit.then])
   refine bodyPost_ret (results_none rfl _ _ _) rfl ?_
   exact⟨rfl,HP ()⟩
  |some j=>
   rw[hlt]at HW
   simp only[oi]
   have hj2:((j:Int)== -1)=false:=by rw[beq_eq_false_iff_ne];omega
   have hj3:¬(j:Int)=-1:=by omega
   obtain⟨e,he⟩:∃e,m.edges[j]?=some e:=light_at hlt
   obtain⟨g,o,hga,hgl,e0,e1,fz⟩:=(H2 ()).1.edge_at j e he
   have h5:=(H2 ()).1.setEdge j 1 e he g o hga
   have hjI:(j:Int)<(m.edges.length:Int):=by have:=(List.getElem?_eq_some_iff.1 he).1;omega
   have H5:Unit→NRep (w1.setCell ⟨g,o+j * 2+1,none⟩ (.int .i64 1)) b (m.setSt j 1) p∧NStep w (w1.setCell ⟨g,o+j * 2+1,none⟩ (.int .i64 1)) b p p:=fun _=>⟨h5.1,(H2 ()).2.trans h5.2⟩
   have HS:Unit→∀w3,Keep nil (w1.setCell ⟨g,o+j * 2+1,none⟩ (.int .i64 1)) w3→_:=fun _ w3 k3=>nsend_any b (m.setSt j 1) p j (.connect 0) w3 ((H5 ()).1.keep k3 (fun _ _ e=>e)) (H1 ()).2.2.2.1
   simp only[NMsg.val]at HS
   rw[hga]at c3
   have hgb:¬b=g:=fun e=>(H2 ()).1.eb (by rw[hga,e];exact inB_self g o)
   have hgb2:¬g=b:=fun e=>hgb e.symm
   clear h5 c0 c2 c4 c5 c6 c7 c8 c9 c10 c11 he
   generalize m.edges.length=ml at *
   go_wp2_with fail
   refine Calls.mono (HS () _ (Keep.refl nil _)) ?_
   rintro r w3 ⟨rfl,p3,hr3,hs3⟩
   have HP:Unit→∃p',NRep w3 b n.wake p'∧NStep w w3 b p p':=fun _=>⟨p3,by rw[HW ()];exact hr3,(H5 ()).2.trans hs3⟩
   clear hr3 hs3 HS c1 c3
   go_wp2
   go_end0
   exact⟨rfl,HP ()⟩
 ·have HE:Unit→n.wake=n:=fun _=>by unfold Nod.wake;rw[if_neg hs]
  have hs2:((n.state:Int)==0)=false:=by rw[beq_eq_false_iff_ne];omega
  have hs3:¬(n.state:Int)=0:=by omega
  have H:Unit→_:=fun _=>h
  clear h c1 c2 c3 c4 c5 c6 c7 c8 c9 c10 c11 hl hr
  go_enter Tryz.func63,Tryz.ntmps63
  go_wp2
  (try simp only[Exit.inBlock,Exit.then])
  refine bodyPost_ret (results_none rfl _ _ _) rfl ?_
  exact⟨rfl,p,by rw[HE ()];exact H (),NStep.refl _ _ _⟩
theorem changeRoot_any(b:Nat)(n:Nod)(p:Np)(w:World)(h:NRep w b n p)(hf:(n.edges.length:Int)<1000)(hb:∀i,n.best=some i→i<n.edges.length)(hl:(n.sent.length:Int)<1000000000000):
 Calls Tryz.prog 206 #[.pointer (some ⟨b,0,none⟩)] w fun r w'=>r=.returned (.tuple #[])∧∃p',NRep w' b n.changeRoot p'∧NStep w w' b p p':=by
 obtain⟨c0,c1,c2,c3,c4,c5,c6,c7,c8,c9,c10,c11⟩:=h.cells
 have hbl:=h.blk.lt
 cases hbs:n.best with
 |none=>
  have HE:Unit→n.changeRoot=n:=fun _=>by unfold Nod.changeRoot;rw[hbs]
  rw[hbs]at c5
  simp only[oi]at c5
  have H:Unit→_:=fun _=>h
  clear h c0 c1 c2 c3 c4 c6 c7 c8 c9 c10 c11 hl hf hb
  go_enter Tryz.func206,Tryz.ntmps206
  go_wp2
  (try simp only[Exit.inBlock,Exit.then])
  refine bodyPost_ret (results_none rfl _ _ _) rfl ?_
  exact⟨rfl,p,by rw[HE ()];exact H (),NStep.refl _ _ _⟩
 |some j=>
  have hj:=hb j hbs
  obtain⟨e,he⟩:∃e,n.edges[j]?=some e:=⟨_,List.getElem?_eq_getElem hj⟩
  have hst:n.st j=e.2:=by unfold Nod.st;rw[he]
  rw[hbs]at c5
  simp only[oi]at c5
  have H:Unit→_:=fun _=>h
  have HL:Unit→(n.sent.length:Int)<1000000000000:=fun _=>hl
  have HJ:Unit→(j:Int)<(n.edges.length:Int):=fun _=>by omega
  have hj2:((j:Int)== -1)=false:=by rw[beq_eq_false_iff_ne];omega
  have hj3:¬(j:Int)=-1:=by omega
  have HB:Unit→∀w1,Keep nil w w1→_:=fun _ w1 k1=>isBranch_any b n p j e w1 (h.keep k1 (fun _ _ e=>e)) he (by omega)
  have HE1:Unit→e.2=1→n.changeRoot=n.send j .root:=fun _ h1=>by unfold Nod.changeRoot;rw[hbs];simp only;rw[hst,if_pos h1]
  have HE2:Unit→¬e.2=1→n.changeRoot=(n.send j (.connect n.level)).setSt j 1:=fun _ h1=>by unfold Nod.changeRoot;rw[hbs];simp only;rw[hst,if_neg h1]
  clear h c0 c1 c2 c3 c4 c6 c7 c8 c9 c10 c11 hl hf hb hst hj
  go_enter Tryz.func206,Tryz.ntmps206
  go_wp2_with fail
  refine Calls.mono (HB () w (Keep.refl _ _)) ?_
  rintro r w1 ⟨rfl,hk1⟩
  have hr1:=(H ()).keep hk1 (fun _ _ e=>e)
  have H1:Unit→NRep w1 b n p∧NStep w w1 b p p:=fun _=>⟨hr1,NStep.of_keep b p hk1⟩
  obtain⟨_,d1,_,d3,_,d5,_⟩:=hr1.cells
  rw[hbs]at d5
  simp only[oi]at d5
  have hbl1:=hr1.blk.lt
  clear hr1 hk1 c5 hbl HB
  by_cases h1:e.2=1
  ·have HS:Unit→∀w3,Keep nil w1 w3→_:=fun _ w3 k3=>nsend_any b n p j .root w3 ((H1 ()).1.keep k3 (fun _ _ e=>e)) (HL ())
   simp only[NMsg.val]at HS
   have hd:decide (e.2=1)=true:=decide_eq_true h1
   rw[hd]
   clear d1 d3
   go_wp2_with fail
   refine Calls.mono (HS () _ (Keep.refl nil _)) ?_
   rintro r w3 ⟨rfl,p3,hr3,hs3⟩
   have HP:Unit→∃p',NRep w3 b n.changeRoot p'∧NStep w w3 b p p':=fun _=>⟨p3,by rw[HE1 () h1];exact hr3,(H1 ()).2.trans hs3⟩
   clear hr3 hs3 HS d5
   go_wp2
   (try simp only[Exit.inBlock,Exit.then])
   refine bodyPost_ret (results_none rfl _ _ _) rfl ?_
   exact⟨rfl,HP ()⟩
  ·have HS:Unit→∀w3,Keep nil w1 w3→_:=fun _ w3 k3=>nsend_any b n p j (.connect n.level) w3 ((H1 ()).1.keep k3 (fun _ _ e=>e)) (HL ())
   simp only[NMsg.val]at HS
   have hd:decide (e.2=1)=false:=decide_eq_false h1
   rw[hd]
   clear d3
   go_wp2_with fail
   go_still_tail 11,(by kernel_rfl)
   go_wp2_with fail
   refine Calls.mono (HS () _ ((Keep.refl nil w1).drew)) ?_
   rintro r w3 ⟨rfl,p3,hr3,hs3⟩
   have H3:Unit→NRep w3 b (n.send j (.connect n.level)) p3∧NStep w w3 b p p3:=fun _=>⟨hr3,((H1 ()).2.trans (NStep.of_keep b p ((Keep.refl nil w1).drew))).trans hs3⟩
   obtain⟨_,_,_,d3,_,d5',_⟩:=hr3.cells
   have d5:w3.cell? ⟨b,5,none⟩=some (.int .i64 (j:Int)):=by rw[d5'];show some (Value.int .i64 (oi n.best))=_;rw[hbs];rfl
   have d3':w3.cell? ⟨b,3,none⟩=some (.slice p3.ea n.edges.length p3.ec):=d3
   have he':(n.send j (.connect n.level)).edges[j]?=some e:=he
   obtain⟨g,o,hga,hgl,e0,e1,fz⟩:=hr3.edge_at j e he'
   have hkd:Keep nil w3 w3.drew:=(Keep.refl nil w3).drew
   have h5:=(hr3.keep hkd (fun _ _ e=>e)).setEdge j 1 e he' g o hga
   have HP:Unit→∃p',NRep (w3.drew.setCell ⟨g,o+j * 2+1,none⟩ (.int .i64 1)) b n.changeRoot p'∧NStep w (w3.drew.setCell ⟨g,o+j * 2+1,none⟩ (.int .i64 1)) b p p':=fun _=>⟨p3,by rw[HE2 () h1];exact h5.1,((H3 ()).2.trans (NStep.of_keep b p3 hkd)).trans h5.2⟩
   have hbl3:=hr3.blk.lt
   have hjI:=HJ ()
   rw[hga]at d3'
   clear hr3 hs3 HS d3 d5' h5 he he' d1 hkd
   generalize n.edges.length=nl at *
   go_wp2_with fail
   go_still_tail 8,(by kernel_rfl)
   go_wp2
   go_end0
   exact⟨rfl,HP ()⟩
theorem accept_any(b:Nat)(n:Nod)(p:Np)(j:Nat)(w:World)(h:NRep w b n p)(hf:(n.edges.length:Int)<1000)(hj:j<n.edges.length)(hl:(n.sent.length:Int)<1000000000000):
 Calls Tryz.prog 202 #[.pointer (some ⟨b,0,none⟩),.int .i64 (j:Int)] w fun r w'=>r=.returned (.tuple #[])∧∃p',NRep w' b (n.accept j) p'∧NStep w w' b p p':=by
 obtain⟨c0,c1,c2,c3,c4,c5,c6,c7,c8,c9,c10,c11⟩:=h.cells
 have hbl:=h.blk.lt
 have f7:=h.blk.frozen 7
 obtain⟨e,he⟩:∃e,n.edges[j]?=some e:=⟨_,List.getElem?_eq_getElem hj⟩
 have hwt:n.wt j=e.1:=by unfold Nod.wt;rw[he]
 have hs:=h.set (n':={ n with tested:=none}) 7 (.int .i64 (-1)) (by simp[ncells,oi]) rfl rfl rfl
 obtain⟨g,o,hga,hgl,e0,e1,fz⟩:=h.edge_at j e he
 rw[hga]at c3
 have hgb:¬b=g:=fun e=>h.eb (by rw[hga,e];exact inB_self g o)
 have hgb2:¬g=b:=fun e=>hgb e.symm
 have hjI:(j:Int)<(n.edges.length:Int):=by omega
 have HH:Unit→∀w1,Keep nil (w.setCell ⟨b,7,none⟩ (.int .i64 (-1))) w1→_:=fun _ w1 k1=>hear_any b { n with tested:=none} p j e.1 w1 (hs.1.keep k1 (fun _ _ e=>e))
 have H1:Unit→NStep w (w.setCell ⟨b,7,none⟩ (.int .i64 (-1))) b p p:=fun _=>hs.2
 have HRP:Unit→∀w2 p2,NRep w2 b (({ n with tested:=none}:Nod).hear j e.1) p2→_:=fun _ w2 p2 h2=>nreports_any b _ p2 w2 h2 (by unfold Nod.hear;split<;>exact hl)
 have HE:Unit→n.accept j=(({ n with tested:=none}:Nod).hear j e.1).reports:=fun _=>by unfold Nod.accept;rw[hwt]
 clear h hs hf hj hl hwt he c0 c1 c2 c4 c5 c6 c8 c9 c10 c11
 generalize n.edges.length=nl at *
 generalize e.1=ew at *
 go_enter Tryz.func202,Tryz.ntmps202
 go_wp2_with fail
 obtain⟨WS,hWS⟩:∃WS,WS=w.setCell ⟨b,7,none⟩ (.int .i64 (-1)):=⟨_,rfl⟩
 rw[←hWS]at HH H1⊢
 clear hWS c7 f7 c3 e0 e1 fz
 refine Calls.mono (HH () _ (Keep.refl nil _)) ?_
 rintro r w2 ⟨rfl,hr2,hs2⟩
 have H2:Unit→NRep w2 b (({ n with tested:=none}:Nod).hear j ew) p∧NStep w w2 b p p:=fun _=>⟨hr2,(H1 ()).trans hs2⟩
 clear hr2 hs2 HH
 go_wp2_with fail
 refine Calls.mono (HRP () _ _ (H2 ()).1) ?_
 rintro r w3 ⟨rfl,p3,hr3,hs3⟩
 have HP:Unit→∃p',NRep w3 b (n.accept j) p'∧NStep w w3 b p p':=fun _=>⟨p3,by rw[HE ()];exact hr3,(H2 ()).2.trans hs3⟩
 clear hr3 hs3 HRP
 go_wp2
 go_end0
 exact⟨rfl,HP ()⟩
theorem report_any(b:Nat)(n:Nod)(p:Np)(j x:Nat)(w:World)(h:NRep w b n p)(hf:(n.edges.length:Int)<1000)(hb:∀i,n.best=some i→i<n.edges.length)(hl:(n.sent.length:Int)<1000000000000):
 Calls Tryz.prog 205 #[.pointer (some ⟨b,0,none⟩),.int .i64 (j:Int),.agg #[.int .i64 (x:Int)]] w fun r w'=>r=.returned (.bool (n.report j x).2)∧∃p',NRep w' b (n.report j x).1 p'∧NStep w w' b p p':=by
 have H:Unit→NRep w b n p∧(n.sent.length:Int)<1000000000000:=fun _=>⟨h,hl⟩
 have HC:Unit→∀w1,Keep nil w w1→_:=fun _ w1 k1=>changeRoot_any b n p w1 (h.keep k1 (fun _ _ e=>e)) hf hb hl
 have HBL:Unit→∀k,NMine b p k→k<w.heap.size:=fun _=>h.lt
 have hblw:=h.blk.lt
 obtain⟨c0,c1,c2,c3,c4,c5,c6,c7,c8,c9,c10,c11⟩:=h.cells
 clear h hl hf hb c1 c2 c3 c5 c7 c10 c11
 by_cases hi:n.inn=some j
 ·rw[hi]at c4
  simp only[oi]at c4
  by_cases hs:n.state=1
  ·have HE:Unit→n.report j x=(n,false):=fun _=>by unfold Nod.report;rw[if_pos hi,if_pos hs]
   rw[hs]at c0
   clear HC c6 c8 c9
   go_enter Tryz.func205,Tryz.ntmps205
   go_wp2
   go_ret
   exact⟨by rw[HE ()];rfl,p,by rw[HE ()];exact(H ()).1.keep ((Keep.refl nil w).alloc _) (fun _ _ e=>e),NStep.of_keep b p ((Keep.refl nil w).alloc _)⟩
  ·have hs2:((n.state:Int)==1)=false:=by rw[beq_eq_false_iff_ne];omega
   have hs3:¬(n.state:Int)=1:=by omega
   have HS0:Unit→¬n.state=1:=fun _=>hs
   clear hs c6 c8 c9
   generalize n.state=ns at c0 hs2 hs3
   go_enter Tryz.func205,Tryz.ntmps205
   go_wp2_with fail
   obtain⟨W1,hW1⟩:∃W1,W1=w.alloc (.cells #[.int .i64 (x:Int)] 319):=⟨_,rfl⟩
   have hb1:Blk W1 w.heap.size #[.int .i64 (x:Int)] 319:=by rw[hW1];exact Blk.new _ _ _
   have hk1:Keep nil w W1:=by rw[hW1];exact(Keep.refl nil w).alloc _
   rw[←hW1]
   have x0:=hb1.cell 0
   have hbx:=hb1.lt
   simp at x0
   have H1:Unit→Keep nil w W1:=fun _=>hk1
   have hr1:=(H ()).1.keep hk1 (fun _ _ e=>e)
   have f9:=hr1.blk.frozen 9
   have hbl1:=hr1.blk.lt
   obtain⟨_,_,_,_,_,_,d6,_,_,d9,_⟩:=hr1.cells
   clear hW1 hb1 hk1 hr1 c0 c4
   by_cases hx:n.bw<x
   ·have HE:Unit→n.report j x=(n.changeRoot,true):=fun _=>by unfold Nod.report;rw[if_pos hi,if_neg (HS0 ()),if_pos hx]
    have hxI:(n.bw:Int)<(x:Int):=by omega
    clear hx d9 f9
    generalize n.bw=nb at *
    go_still_tail 7,(by kernel_rfl)
    go_wp2_with fail
    refine Calls.mono (HC () _ ((H1 ()).drew)) ?_
    rintro r w3 ⟨rfl,p3,hr3,hs3'⟩
    have HP:Unit→∃p',NRep w3 b n.changeRoot p'∧NStep w w3 b p p':=fun _=>⟨p3,hr3,(NStep.of_keep b p ((H1 ()).drew)).trans hs3'⟩
    clear hr3 hs3' HC
    go_wp2
    go_ret
    exact⟨by rw[HE ()];rfl,by rw[HE ()];exact HP ()⟩
   ·have hxI:(x:Int)≤(n.bw:Int):=by omega
    by_cases hx1:x=1001
    ·by_cases hb1:n.bw=1001
     ·have HE:Unit→n.report j x=({ n with over:=true},true):=fun _=>by unfold Nod.report;rw[if_pos hi,if_neg (HS0 ()),if_neg hx,if_pos ⟨hx1,hb1⟩]
      subst hx1
      rw[hb1]at d6
      clear hx hxI hb1 HC
      go_still_tail 7,(by kernel_rfl)
      go_wp2
      go_ret
      have hO:=((H ()).1.keep (H1 ()) (fun _ _ e=>e)).set (n':={ n with over:=true}) 9 (.bool true) (by simp[ncells]) rfl rfl rfl
      have hkd:Keep nil (W1.setCell ⟨b,9,none⟩ (.bool true)) (W1.setCell ⟨b,9,none⟩ (.bool true)).drew:=(Keep.refl nil _).drew
      exact⟨by rw[HE ()];rfl,p,by rw[HE ()];exact hO.1.keep hkd (fun _ _ e=>e),((NStep.of_keep b p (H1 ())).trans hO.2).trans (NStep.of_keep b p hkd)⟩
     ·have HE:Unit→n.report j x=(n,true):=fun _=>by unfold Nod.report;rw[if_pos hi,if_neg (HS0 ()),if_neg hx,if_neg (fun e=>hb1 e.2)]
      subst hx1
      have hb2:((n.bw:Int)==1001)=false:=by rw[beq_eq_false_iff_ne];omega
      have hb3:¬(n.bw:Int)=1001:=by omega
      clear hx HC d9 f9 hb1
      generalize n.bw=nb at *
      go_still_tail 7,(by kernel_rfl)
      go_wp2
      go_ret
      exact⟨by rw[HE ()];rfl,p,by rw[HE ()];exact(H ()).1.keep (H1 ()).drew (fun _ _ e=>e),NStep.of_keep b p (H1 ()).drew⟩
    ·have HE:Unit→n.report j x=(n,true):=fun _=>by unfold Nod.report;rw[if_pos hi,if_neg (HS0 ()),if_neg hx,if_neg (fun e=>hx1 e.1)]
     have hb2:((x:Int)==1001)=false:=by rw[beq_eq_false_iff_ne];omega
     have hb3:¬(x:Int)=1001:=by omega
     clear hx HC d9 f9 hx1
     generalize n.bw=nb at *
     go_still_tail 7,(by kernel_rfl)
     go_wp2
     go_ret
     exact⟨by rw[HE ()];rfl,p,by rw[HE ()];exact(H ()).1.keep (H1 ()).drew (fun _ _ e=>e),NStep.of_keep b p (H1 ()).drew⟩
 ·have HE:Unit→n.report j x=((({ n with count:=wrap64 (n.count - 1)}:Nod).hear j x).reports,true):=fun _=>by unfold Nod.report;rw[if_neg hi]
  have hi2:((j:Int)==oi n.inn)=false:=by
   rw[beq_eq_false_iff_ne];intro e;exact hi (oi_inj (e.symm.trans (oi_some j).symm))
  have hi3:¬(j:Int)=oi n.inn:=by rw[beq_eq_false_iff_ne]at hi2;exact hi2
  have f8:=(H ()).1.blk.frozen 8
  have HO:Unit→_:=fun _=>(H ()).1.set (n':={ n with count:=wrap64 (n.count - 1)}) 8 (.int .i64 (wrap64 (n.count - 1))) (by simp[ncells]) rfl rfl rfl
  have HH:Unit→_:=fun _=>hear_any b { n with count:=wrap64 (n.count - 1)} p j x ((w.setCell ⟨b,8,none⟩ (.int .i64 (wrap64 (n.count - 1)))).alloc (.cells #[.int .i64 (x:Int)] 319)) ((HO ()).1.keep ((Keep.refl nil _).alloc _) (fun _ _ e=>e))
  have HRP:Unit→∀w2 p2,NRep w2 b (({ n with count:=wrap64 (n.count - 1)}:Nod).hear j x) p2→_:=fun _ w2 p2 h2=>nreports_any b _ p2 w2 h2 (by unfold Nod.hear;split<;>exact(H ()).2)
  clear c0 c6 c9 HC hi
  generalize oi n.inn=ni at *
  go_enter Tryz.func205,Tryz.ntmps205
  go_wp2_with fail
  refine Calls.mono (HH ()) ?_
  rintro r w2 ⟨rfl,hr2,hs2⟩
  have H2:Unit→NRep w2 b (({ n with count:=wrap64 (n.count - 1)}:Nod).hear j x) p∧NStep w w2 b p p:=fun _=>⟨hr2,((HO ()).2.trans (NStep.of_keep b p ((Keep.refl nil _).alloc _))).trans hs2⟩
  clear hr2 hs2 HH c4 c8 f8 HO
  go_wp2_with fail
  refine Calls.mono (HRP () _ _ (H2 ()).1) ?_
  rintro r w3 ⟨rfl,p3,hr3,hs3⟩
  have HP:Unit→∃p',NRep w3 b (({ n with count:=wrap64 (n.count - 1)}:Nod).hear j x).reports p'∧NStep w w3 b p p':=fun _=>⟨p3,hr3,(H2 ()).2.trans hs3⟩
  clear hr3 hs3 HRP
  go_wp2
  go_ret
  exact⟨by rw[HE ()];rfl,by rw[HE ()];exact HP ()⟩
theorem wake_edges(n:Nod):n.wake.edges.length=n.edges.length∧(NRise n→NRise n.wake):=by
 unfold Nod.wake
 split
 ·split
  ·exact⟨rfl,fun h=>h.of rfl⟩
  ·refine⟨by simp[Nod.send,Nod.setSt],fun h=>?_⟩
   exact NRise.of (NRise.set (NRise.of h rfl) _ _) rfl
 ·exact⟨rfl,id⟩
theorem wake_sent(n:Nod):n.wake.sent.length≤n.sent.length+1:=by
 unfold Nod.wake
 split
 ·split
  ·simp
  ·simp[Nod.send,Nod.setSt]
 ·omega
theorem wake_level(n:Nod):n.wake.level≤n.level:=by
 unfold Nod.wake
 split
 ·split
  ·simp
  ·simp[Nod.send,Nod.setSt]
 ·omega
theorem reject_same(n:Nod)(j:Nat):(n.reject j).tested=n.tested∧(n.reject j).sent=n.sent∧(n.reject j).edges.length=n.edges.length∧(NRise n→NRise (n.reject j)):=by
 unfold Nod.reject
 split
 ·exact⟨rfl,rfl,by simp[Nod.setSt],fun h=>h.set _ _⟩
 ·exact⟨rfl,rfl,rfl,id⟩
theorem ntest_any(b:Nat)(n:Nod)(p:Np)(j l nm:Nat)(w:World)(h:NRep w b n p)(hr:NRise n)(hj:j<n.edges.length)(hl:(n.sent.length:Int)<999000000000):
 Calls Tryz.prog 201 #[.pointer (some ⟨b,0,none⟩),.int .i64 (j:Int),.agg #[.int .i64 (l:Int),.int .i64 (nm:Int)]] w fun r w'=>r=.returned (.bool (n.test j l nm).2)∧∃p',NRep w' b (n.test j l nm).1 p'∧NStep w w' b p p':=by
 obtain⟨we,wr⟩:=wake_edges n
 have ws:=wake_sent n
 have HW:Unit→∀w1,Keep nil w w1→_:=fun _ w1 k1=>wake_any b n p w1 (h.keep k1 (fun _ _ e=>e)) hr (by omega)
 have HBL:Unit→∀k,NMine b p k→k<w.heap.size:=fun _=>h.lt
 have HI:Unit→(n.wake.sent.length:Int)<1000000000000∧NRise n.wake∧j<n.wake.edges.length∧(n.wake.edges.length:Int)<1000:=fun _=>⟨by omega,wr hr,by omega,(wr hr).few⟩
 have HE:Unit→n.test j l nm=(if n.wake.level<l then (n.wake,false)else if nm≠n.wake.name then (n.wake.send j .accept,true)else if n.wake.tested=some j then ((n.wake.reject j).tests,true)else ((n.wake.reject j).send j .reject,true)):=fun _=>rfl
 have hblw:=h.blk.lt
 clear h hr hj hl we wr ws
 go_enter Tryz.func201,Tryz.ntmps201
 go_wp2_with fail
 obtain⟨W1,hW1⟩:∃W1,W1=w.alloc (.cells #[.int .i64 (l:Int),.int .i64 (nm:Int)] 315):=⟨_,rfl⟩
 have hb1:Blk W1 w.heap.size #[.int .i64 (l:Int),.int .i64 (nm:Int)] 315:=by rw[hW1];exact Blk.new _ _ _
 have hk1:Keep nil w W1:=by rw[hW1];exact(Keep.refl nil w).alloc _
 rw[←hW1]
 clear hW1
 refine Calls.mono (HW () W1 hk1) ?_
 rintro r w2 ⟨rfl,p2,hr2,hs2⟩
 have hb2:=hb1.keep hs2.keep (fun e=>by have:=HBL () _ e;omega)
 have H2:Unit→NRep w2 b n.wake p2∧NStep w w2 b p p2:=fun _=>⟨hr2,(NStep.of_keep b p hk1).trans hs2⟩
 have HX:Unit→Blk w2 w.heap.size #[.int .i64 (l:Int),.int .i64 (nm:Int)] 315:=fun _=>hb2
 have x0:=hb2.cell 0
 simp at x0
 have hbx:=hb2.lt
 have hbl2:=hr2.blk.lt
 obtain⟨-,d1,-⟩:=hr2.cells
 clear hr2 hs2 hb1 hk1 hb2 HW HBL
 generalize n.wake=m at *
 go_wp2_with fail
 by_cases hlv:m.level<l
 ·have hlI:(m.level:Int)<(l:Int):=by omega
  have HE2:Unit→n.test j l nm=(m,false):=fun _=>by rw[HE (),if_pos hlv]
  clear hlv HE
  generalize m.level=ml at *
  go_still_tail 6,(by kernel_rfl)
  go_wp2
  go_ret
  exact⟨by rw[HE2 ()];rfl,p2,by rw[HE2 ()];exact(H2 ()).1.keep ((Keep.refl nil w2).drew) (fun _ _ e=>e),(H2 ()).2.trans (NStep.of_keep b p2 ((Keep.refl nil w2).drew))⟩
 ·have hlI:(l:Int)≤(m.level:Int):=by omega
  have HE2:Unit→n.test j l nm=(if nm≠m.name then (m.send j .accept,true)else if m.tested=some j then ((m.reject j).tests,true)else ((m.reject j).send j .reject,true)):=fun _=>by rw[HE (),if_neg hlv]
  clear hlv HE
  generalize m.level=ml at *
  go_still_tail 6,(by kernel_rfl)
  go_wp2_with fail
  obtain⟨W3,hW3⟩:∃W3,W3=w2.drew:=⟨_,rfl⟩
  rw[←hW3]
  have hk3:Keep nil w2 W3:=by rw[hW3];exact(Keep.refl nil w2).drew
  have H3:Unit→NRep W3 b m p2∧NStep w W3 b p p2:=fun _=>⟨(H2 ()).1.keep hk3 (fun _ _ e=>e),(H2 ()).2.trans (NStep.of_keep b p2 hk3)⟩
  have x1:=((HX ()).keep hk3 id).cell 1
  simp at x1
  have hbx3:=((HX ()).keep hk3 id).lt
  have hbl3:=(H3 ()).1.blk.lt
  obtain⟨_,_,e2,_⟩:=(H3 ()).1.cells
  clear x0 d1 hW3 hk3 H2 HX
  by_cases hn:nm≠m.name
  ·have HE3:Unit→n.test j l nm=(m.send j .accept,true):=fun _=>by rw[HE2 (),if_pos hn]
   have hn2:((nm:Int)==(m.name:Int))=false:=by rw[beq_eq_false_iff_ne];omega
   have hn3:¬(nm:Int)=(m.name:Int):=by omega
   have HS:Unit→∀w3,Keep nil W3 w3→_:=fun _ w3 k3=>nsend_any b m p2 j .accept w3 ((H3 ()).1.keep k3 (fun _ _ e=>e)) (HI ()).1
   simp only[NMsg.val]at HS
   clear hn HE2
   generalize m.name=mn at *
   go_still_tail 6,(by kernel_rfl)
   go_wp2_with fail
   refine Calls.mono (HS () _ ((Keep.refl nil W3).drew)) ?_
   rintro r w4 ⟨rfl,p4,hr4,hs4⟩
   have HP:Unit→∃p',NRep w4 b (m.send j .accept) p'∧NStep w w4 b p p':=fun _=>⟨p4,hr4,((H3 ()).2.trans (NStep.of_keep b p2 ((Keep.refl nil W3).drew))).trans hs4⟩
   clear hr4 hs4 HS x1 e2
   go_wp2
   go_ret
   exact⟨by rw[HE3 ()];rfl,by rw[HE3 ()];exact HP ()⟩
  ·have hn':nm=m.name:=by omega
   have HR:Unit→∀w3,Keep nil W3 w3→_:=fun _ w3 k3=>nreject_any b m p2 j w3 ((H3 ()).1.keep k3 (fun _ _ e=>e)) (HI ()).2.2.1 (HI ()).2.2.2
   have HE3:Unit→n.test j l nm=(if m.tested=some j then ((m.reject j).tests,true)else ((m.reject j).send j .reject,true)):=fun _=>by rw[HE2 (),if_neg hn]
   rw[←hn']at e2
   clear hn HE2 hn'
   go_still_tail 6,(by kernel_rfl)
   go_wp2_with fail
   refine Calls.mono (HR () _ ((Keep.refl nil W3).drew)) ?_
   rintro r w4 ⟨rfl,hr4,hs4⟩
   have H4:Unit→NRep w4 b (m.reject j) p2∧NStep w w4 b p p2:=fun _=>⟨hr4,((H3 ()).2.trans (NStep.of_keep b p2 ((Keep.refl nil W3).drew))).trans hs4⟩
   obtain⟨r1,r2,r3,r4⟩:=reject_same m j
   obtain⟨_,_,_,_,_,_,_,d7,_⟩:=hr4.cells
   rw[r1]at d7
   have hbl4:=hr4.blk.lt
   have HI2:Unit→((m.reject j).sent.length:Int)<1000000000000∧NRise (m.reject j):=fun _=>⟨by rw[r2];exact(HI ()).1,r4 (HI ()).2.1⟩
   clear hr4 hs4 HR x1 e2 r1 r2 r3 r4 H3
   by_cases ht:m.tested=some j
   ·have HE4:Unit→n.test j l nm=((m.reject j).tests,true):=fun _=>by rw[HE3 (),if_pos ht]
    have HT:Unit→_:=fun _=>tests_any b (m.reject j) p2 w4 (H4 ()).1 (HI2 ()).2 (HI2 ()).1
    rw[ht]at d7
    simp only[oi]at d7
    go_wp2_with fail
    refine Calls.mono (HT ()) ?_
    rintro r w5 ⟨rfl,p5,hr5,hs5⟩
    have HP:Unit→∃p',NRep w5 b (m.reject j).tests p'∧NStep w w5 b p p':=fun _=>⟨p5,hr5,(H4 ()).2.trans hs5⟩
    clear hr5 hs5 HT d7
    go_wp2
    go_ret
    exact⟨by rw[HE4 ()];rfl,by rw[HE4 ()];exact HP ()⟩
   ·have HE4:Unit→n.test j l nm=((m.reject j).send j .reject,true):=fun _=>by rw[HE3 (),if_neg ht]
    have HT:Unit→_:=fun _=>nsend_any b (m.reject j) p2 j .reject w4 (H4 ()).1 (HI2 ()).1
    simp only[NMsg.val]at HT
    have t3:¬oi m.tested=(j:Int):=fun e=>ht (oi_inj (e.trans (oi_some j).symm))
    have t2:(oi m.tested==(j:Int))=false:=by rw[beq_eq_false_iff_ne];exact t3
    generalize oi m.tested=mt at *
    go_wp2_with fail
    refine Calls.mono (HT ()) ?_
    rintro r w5 ⟨rfl,p5,hr5,hs5⟩
    have HP:Unit→∃p',NRep w5 b ((m.reject j).send j .reject) p'∧NStep w w5 b p p':=fun _=>⟨p5,hr5,(H4 ()).2.trans hs5⟩
    clear hr5 hs5 HT d7
    go_wp2
    go_ret
    exact⟨by rw[HE4 ()];rfl,by rw[HE4 ()];exact HP ()⟩
theorem nconnect_any(b:Nat)(n:Nod)(p:Np)(j l:Nat)(w:World)(h:NRep w b n p)(hr:NRise n)(hj:j<n.edges.length)(hv:(n.level:Int)<1000)(hl:(n.sent.length:Int)<999000000000):
 Calls Tryz.prog 199 #[.pointer (some ⟨b,0,none⟩),.int .i64 (j:Int),.agg #[.int .i64 (l:Int)]] w fun r w'=>r=.returned (.bool (n.connect j l).2)∧∃p',NRep w' b (n.connect j l).1 p'∧NStep w w' b p p':=by
 obtain⟨we,wr⟩:=wake_edges n
 have ws:=wake_sent n
 have wl:=wake_level n
 have HW:Unit→∀w1,Keep nil w w1→_:=fun _ w1 k1=>wake_any b n p w1 (h.keep k1 (fun _ _ e=>e)) hr (by omega)
 have HBL:Unit→∀k,NMine b p k→k<w.heap.size:=fun _=>h.lt
 have HI:Unit→(n.wake.sent.length:Int)<1000000000000∧j<n.wake.edges.length∧(n.wake.edges.length:Int)<1000∧(n.wake.level:Int)<1000:=fun _=>⟨by omega,by omega,(wr hr).few,by omega⟩
 have HE:Unit→n.connect j l=(if l<n.wake.level then ((n.wake.setSt j 1).spread j n.wake.level n.wake.name (n.wake.state==1),true)else if n.wake.st j=0 then (n.wake,false)else (n.wake.send j (.initiate (n.wake.level+1) (n.wake.wt j) true),true)):=fun _=>rfl
 have hblw:=h.blk.lt
 clear h hr hj hl we wr ws wl hv
 go_enter Tryz.func199,Tryz.ntmps199
 go_wp2_with fail
 obtain⟨W1,hW1⟩:∃W1,W1=w.alloc (.cells #[.int .i64 (l:Int)] 193):=⟨_,rfl⟩
 have hb1:Blk W1 w.heap.size #[.int .i64 (l:Int)] 193:=by rw[hW1];exact Blk.new _ _ _
 have hk1:Keep nil w W1:=by rw[hW1];exact(Keep.refl nil w).alloc _
 rw[←hW1]
 clear hW1
 refine Calls.mono (HW () W1 hk1) ?_
 rintro r w2 ⟨rfl,p2,hr2,hs2⟩
 have hb2:=hb1.keep hs2.keep (fun e=>by have:=HBL () _ e;omega)
 have H2:Unit→NRep w2 b n.wake p2∧NStep w w2 b p p2:=fun _=>⟨hr2,(NStep.of_keep b p hk1).trans hs2⟩
 have x0:=hb2.cell 0
 simp at x0
 have hbx:=hb2.lt
 have hbl2:=hr2.blk.lt
 obtain⟨-,d1,-⟩:=hr2.cells
 clear hr2 hs2 hb1 hk1 hb2 HW HBL
 generalize n.wake=m at *
 obtain⟨e,he⟩:∃e,m.edges[j]?=some e:=⟨_,List.getElem?_eq_getElem (HI ()).2.1⟩
 obtain⟨g,o,hga,hgl,e0,e1,fz⟩:=(H2 ()).1.edge_at j e he
 obtain⟨-,-,-,d3,-⟩:=(H2 ()).1.cells
 rw[hga]at d3
 have hgb:¬b=g:=fun e=>(H2 ()).1.eb (by rw[hga,e];exact inB_self g o)
 have hgb2:¬g=b:=fun e=>hgb e.symm
 have hjI:(j:Int)<(m.edges.length:Int):=by have:=(HI ()).2.1;omega
 have hst:m.st j=e.2:=by unfold Nod.st;rw[he]
 have hwt:m.wt j=e.1:=by unfold Nod.wt;rw[he]
 rw[hst,hwt]at HE
 have h5:=(H2 ()).1.setEdge j 1 e he g o hga
 have H5:Unit→NRep (w2.setCell ⟨g,o+j * 2+1,none⟩ (.int .i64 1)) b (m.setSt j 1) p2∧NStep w (w2.setCell ⟨g,o+j * 2+1,none⟩ (.int .i64 1)) b p p2:=fun _=>⟨h5.1,(H2 ()).2.trans h5.2⟩
 have HLN:Unit→m.edges.length=m.edges.length:=fun _=>rfl
 obtain⟨ew,es⟩:=e
 simp only at e0 e1 HE
 clear h5 he hst hwt hga
 generalize m.edges.length=ml' at d3 hjI
 go_wp2_with fail
 by_cases hlv:l<m.level
 ·have hlI:(l:Int)<(m.level:Int):=by omega
  have HE2:Unit→n.connect j l=((m.setSt j 1).spread j m.level m.name (m.state==1),true):=fun _=>by rw[HE (),if_pos hlv]
  clear hlv HE
  generalize hml:m.level=ml at d1 hlI
  go_still_tail 7,(by kernel_rfl)
  go_wp2_with fail
  obtain⟨W5,hW5⟩:∃W5,W5=(w2.setCell ⟨g,o+j * 2+1,none⟩ (.int .i64 1)).drew:=⟨_,rfl⟩
  have hk5:Keep nil (w2.setCell ⟨g,o+j * 2+1,none⟩ (.int .i64 1)) W5:=by rw[hW5];exact(Keep.refl nil _).drew
  rw[←hW5]
  have H6:Unit→NRep W5 b (m.setSt j 1) p2∧NStep w W5 b p p2:=fun _=>⟨(H5 ()).1.keep hk5 (fun _ _ e=>e),(H5 ()).2.trans (NStep.of_keep b p2 hk5)⟩
  obtain⟨f0,f1,f2,-⟩:=(H6 ()).1.cells
  have hbl5:=(H6 ()).1.blk.lt
  have HS:Unit→∀w3,Keep nil W5 w3→_:=fun _ w3 k3=>spread_any b (m.setSt j 1) p2 j m.level m.name (m.state==1) w3 ((H6 ()).1.keep k3 (fun _ _ e=>e)) (HI ()).1
  simp only[Nod.setSt]at f0 f1 f2
  have hst:(((m.state:Nat):Int)==1)=(m.state==1):=by
   by_cases h:m.state=1
   ·rw[h];rfl
   ·have h1:(m.state==1)=false:=by rw[beq_eq_false_iff_ne];exact h
    rw[h1,beq_eq_false_iff_ne];omega
  clear hW5 hk5 d3 e0 e1 fz hgl hjI x0 d1 hml hlI
  generalize m.level=mlv at *
  generalize m.name=mnm at *
  generalize hsb:(m.state==1)=sb at *
  clear hsb
  generalize m.state=mst at *
  go_still_tail 16,(by kernel_rfl)
  go_wp2_with fail
  (try simp only[hst])
  refine Calls.mono (HS () _ ((Keep.refl nil W5).drew)) ?_
  rintro r w6 ⟨rfl,p6,hr6,hs6⟩
  have HP:Unit→∃p',NRep w6 b (n.connect j l).1 p'∧NStep w w6 b p p':=fun _=>⟨p6,by rw[HE2 ()];exact hr6,((H6 ()).2.trans (NStep.of_keep b p2 ((Keep.refl nil W5).drew))).trans hs6⟩
  clear hr6 hs6 HS f0 f1 f2
  go_wp2
  go_ret
  exact⟨by rw[HE2 ()];rfl,HP ()⟩
 ·have hlI:(m.level:Int)≤(l:Int):=by omega
  have HE2:Unit→n.connect j l=(if es=0 then (m,false)else (m.send j (.initiate (m.level+1) ew true),true)):=fun _=>by rw[HE (),if_neg hlv]
  clear hlv HE
  have HK3:Unit→Keep nil w2 w2.drew:=fun _=>(Keep.refl nil w2).drew
  by_cases hs:es=0
  ·have HE3:Unit→n.connect j l=(m,false):=fun _=>by rw[HE2 (),if_pos hs]
   subst hs
   clear HE2
   generalize m.level=ml at d1 hlI
   go_still_tail 7,(by kernel_rfl)
   go_wp2
   go_ret
   exact⟨by rw[HE3 ()];rfl,p2,by rw[HE3 ()];exact(H2 ()).1.keep (HK3 ()) (fun _ _ e=>e),(H2 ()).2.trans (NStep.of_keep b p2 (HK3 ()))⟩
  ·have HE3:Unit→n.connect j l=(m.send j (.initiate (m.level+1) ew true),true):=fun _=>by rw[HE2 (),if_neg hs]
   have hs2:((es:Int)==0)=false:=by rw[beq_eq_false_iff_ne];omega
   have hs3:¬(es:Int)=0:=by omega
   have HS:Unit→∀w3,Keep nil w2 w3→_:=fun _ w3 k3=>nsend_any b m p2 j (.initiate (m.level+1) ew true) w3 ((H2 ()).1.keep k3 (fun _ _ e=>e)) (HI ()).1
   simp only[NMsg.val]at HS
   have hlw:wrap64 ((m.level:Int)+1)=(m.level:Int)+1:=by unfold wrap64;have:=(HI ()).2.2.2;omega
   clear HE2 hs
   go_still_tail 7,(by kernel_rfl)
   go_wp2_with fail
   obtain⟨W5,hW5⟩:∃W5,W5=w2.drew:=⟨_,rfl⟩
   have hk5:Keep nil w2 W5:=by rw[hW5];exact HK3 ()
   rw[←hW5]
   have H6:Unit→NRep W5 b m p2∧NStep w W5 b p p2:=fun _=>⟨(H2 ()).1.keep hk5 (fun _ _ e=>e),(H2 ()).2.trans (NStep.of_keep b p2 hk5)⟩
   have HS5:Unit→_:=fun _=>HS () W5.drew (hk5.trans ((Keep.refl nil W5).drew))
   obtain⟨-,f1,-⟩:=(H6 ()).1.cells
   have f3:W5.cell? ⟨b,3,none⟩=some (.slice (some ⟨g,o,none⟩) ml' p2.ec):=by rw[hW5];exact d3
   have g0:W5.cell? ⟨g,o+j * 2,none⟩=some (.int .i64 (ew:Int)):=by rw[hW5];exact e0
   have hbl5:=(H6 ()).1.blk.lt
   have hgl5:g<W5.heap.size:=by rw[hW5];exact hgl
   clear hW5 hk5 d3 e0 e1 fz hgl x0 d1 hlI HK3 HS
   rw[show ((m.level+1:Nat):Int)=(m.level:Int)+1 from by omega]at HS5
   generalize hml:m.level=mlv at f1 hlw HS5
   go_still_tail 17,(by kernel_rfl)
   go_wp2_with fail
   simp only[hlw]
   refine Calls.mono (HS5 ()) ?_
   rintro r w6 ⟨rfl,p6,hr6,hs6⟩
   have HP:Unit→∃p',NRep w6 b (n.connect j l).1 p'∧NStep w w6 b p p':=fun _=>⟨p6,by rw[HE3 (),hml];exact hr6,((H6 ()).2.trans (NStep.of_keep b p2 ((Keep.refl nil W5).drew))).trans hs6⟩
   clear hr6 hs6 HS5 f1 f3 g0
   go_wp2
   go_ret
   exact⟨by rw[HE3 ()];rfl,HP ()⟩
end Go.Proofs.YtlfijfodklhplaaGreat
