import Derived.Test.YtlfijfodklhplaaGreatTn18
import Derived.Test.YtlfijfodklhplaaGreatTn06
import Derived.Test.YtlfijfodklhplaaGreatTn17
set_option linter.unusedVariables false
set_option linter.unusedSimpArgs false
namespace Go.Proofs.YtlfijfodklhplaaGreat
open Go.RowKit
theorem list5(l:List Nat)(h:l.length=5):∃a b c d e,l=[a,b,c,d,e]:=by
 match l,h with
 |[a,b,c,d,e],_=>exact⟨a,b,c,d,e,rfl⟩
theorem list10(l:List Nat)(h:l.length=10):∃a b c d e f g i j k,l=[a,b,c,d,e,f,g,i,j,k]:=by
 match l,h with
 |[a,b,c,d,e,f,g,i,j,k],_=>exact⟨a,b,c,d,e,f,g,i,j,k,rfl⟩
theorem frame_ten(x1 x2 x3 x4 x5 x6 x7:Nat)(h1:x1<256)(h2:x2<256)(h3:x3<256)(h4:x4<256)(h6:x6<256)(h7:x7<256)
 (hm:may (x3:Int) (x4:Int) ((x6:Int) * 256+(x7:Int)) (x5==1)=true):FrOk ⟨true,x1 * 256+x2,⟨x3,x4,x6 * 256+x7,x5==1⟩⟩:=by
 refine⟨by show x1 * 256+x2<65536;omega,Or.inl ⟨rfl,h3,h4,by show x6 * 256+x7<65536;omega,?_⟩⟩
 have e:((x6 * 256+x7:Nat):Int)=(x6:Int) * 256+(x7:Int):=by omega
 show may (x3:Int) (x4:Int) ((x6 * 256+x7:Nat):Int) (x5==1)=true
 rw[e];exact hm
theorem read_six{l:List Nat}{x y:Six}(h:ReadOk l x)(k:ReadOk l y):x=y:=by
 obtain⟨n,c1,c2,hB,_,_,_,hl⟩:=h
 obtain⟨n',c1',c2',hB',_,_,_,hl'⟩:=k
 have hn:n'=n:=by omega
 subst hn
 obtain⟨s1,s2,e1,e2,⟨e0,f0,rfl⟩|⟨e0,f0,y1,y2,y3,y4,y5,f1,f2,f3,f4,f5,f6,f7,rfl⟩⟩:=hB
 ·obtain⟨t1,t2,e1',e2',⟨e0',_,rfl⟩|⟨e0',f0',_⟩⟩:=hB'
  ·rw[e1]at e1';rw[e2]at e2';cases e1';cases e2';rfl
  ·omega
 ·obtain⟨t1,t2,e1',e2',⟨e0',f0',_⟩|⟨e0',f0',z1,z2,z3,z4,z5,g1,g2,g3,g4,g5,g6,g7,rfl⟩⟩:=hB'
  ·omega
  ·rw[e1]at e1';rw[e2]at e2';rw[f1]at g1;rw[f2]at g2;rw[f3]at g3;rw[f4]at g4;rw[f5]at g5
   cases e1';cases e2';cases g1;cases g2;cases g3;cases g4;cases g5;rfl
def Is(ls:List Nat):Option Fr.Frm→Prop
 |none=>∀x,¬ReadOk ls x
 |some f=>FrOk f∧Fr.enc f=ls
theorem read_frm{l:List Nat}(hb:∀x∈l,x<256){x:Six}(hx:ReadOk l x):∃f,FrOk f∧Fr.enc f=l:=by
 rcases read_len l x hx with h|h
 ·obtain⟨x0,x1,x2,x3,x4,rfl⟩:=list5 l h
  have he:=read5 x0 x1 x2 x3 x4 (hb _ (by simp)) (hb _ (by simp)) (hb _ (by simp)) (hb _ (by simp)) x hx
  have hok:FrOk ⟨false,x1 * 256+x2,Fr.none0⟩:=⟨by have:=hb x1 (by simp);have:=hb x2 (by simp);show x1 * 256+x2<65536;omega,Or.inr ⟨rfl,rfl⟩⟩
  exact⟨_,hok,he⟩
 ·obtain⟨x0,x1,x2,x3,x4,x5,x6,x7,x8,x9,rfl⟩:=list10 l h
  obtain⟨hm,he⟩:=read10 x0 x1 x2 x3 x4 x5 x6 x7 x8 x9 (hb _ (by simp)) (hb _ (by simp)) (hb _ (by simp)) (hb _ (by simp)) (hb _ (by simp)) (hb _ (by simp)) x hx
  have hok:=frame_ten x1 x2 x3 x4 x5 x6 x7 (hb _ (by simp)) (hb _ (by simp)) (hb _ (by simp)) (hb _ (by simp)) (hb _ (by simp)) (hb _ (by simp)) hm
  exact⟨_,hok,he⟩
theorem is_ex{l:List Nat}(hb:∀x∈l,x<256):∃o,Is l o:=by
 by_cases h:∃x,ReadOk l x
 ·obtain⟨x,hx⟩:=h
  obtain⟨f,hf⟩:=read_frm hb hx
  exact⟨some f,hf⟩
 ·exact⟨none,fun x hx=>h ⟨x,hx⟩⟩
def En.inn(e:En):Option Fr.Frm→En
 | .none=>e
 | .some f=>if f.data then e.came f.seq f.m else e.ack f.seq
def En.tld(e:En):Option Fr.Frm→List Fr.Msg
 | .none=>[]
 | .some f=>if f.data then e.told f.seq f.m else []
theorem tld_len(e:En)(o:Option Fr.Frm)(h4:e.kept.length=4):(e.tld o).length≤4:=by
 have hr:∀l:List (Option Fr.Msg),(En.ready l).length≤l.length:=by
  intro l
  induction l with
  |nil=>simp[En.ready]
  |cons x t ih=>cases x<;>simp[En.ready]<;>omega
 have hk:∀n m,(e.keep n m).kept.length=4:=by
  intro n m
  unfold En.keep
  split
  ·split
   ·simp[h4]
   ·exact h4
  ·exact h4
 cases o with
 |none=>simp[En.tld]
 |some f=>
  show (if f.data then e.told f.seq f.m else []).length≤4
  split
  ·unfold En.told
   have:=hr (e.keep f.seq f.m).kept
   rw[hk]at this;exact this
  ·simp
theorem modify_set{α:Type}{l:List α}{i:Nat}{x:α}(h:l[i]?=some x)(f:α→α):l.modify i f=l.set i (f x):=by
 apply List.ext_getElem?
 intro k
 rw[List.getElem?_modify]
 by_cases e:i=k
 ·subst e;rw[h,lset_self h];simp
 ·rw[List.getElem?_set_ne e]
  cases l[k]? <;>simp[e]
noncomputable def frmOf(l:List Nat):Option Fr.Frm:=by
 classical exact if h:∃o,Is l o then h.choose else none
theorem frmOf_is{l:List Nat}(hb:∀x∈l,x<256):Is l (frmOf l):=by
 have h:=is_ex hb
 unfold frmOf
 rw[dif_pos h]
 exact h.choose_spec
structure AS where
 n:Nod
 ss:List (Nat×En)
structure AP where
 f:Nat
 t:Nat
 l:List Nat
 sp:Bool
structure AN where
 es:List Ed
 sps:List AS
 bag:List AP
def Sd.abs(d:Sd):Nat×En:=(d.to_,d.e)
def Sp.abs(s:Sp):AS:=⟨s.n,s.ss.map Sd.abs⟩
def Pk.abs(x:Pk):AP:=⟨x.from_,x.to_,x.l,x.sp⟩
def Nt.abs(N:Nt):AN:=⟨N.es,N.sps.map Sp.abs,N.L.map Pk.abs⟩
namespace AN
def modE(A:AN)(i j:Nat)(f:En→En):AN:={ A with sps:=A.sps.modify i (fun s=>{ s with ss:=s.ss.modify j (fun d=>(d.1,f d.2))})}
def modN(A:AN)(i:Nat)(f:Nod→Nod):AN:={ A with sps:=A.sps.modify i (fun s=>{ s with n:=f s.n})}
def side(A:AN)(i j:Nat):Option (Nat×En):=(A.sps[i]?).bind (fun s=>s.ss[j]?)
def add(A:AN)(x:AP):AN:=if A.bag.length<300 then { A with bag:=A.bag++[x]}else A
def adds(A:AN)(i t:Nat)(l:List Fr.Frm):AN:=l.foldl (fun A f=>A.add ⟨i,t,Fr.enc f,false⟩) A
def carry(A:AN)(i j:Nat):AN:=match A.side i j with
 |none=>A
 |some d=>(A.modE i j En.outs).adds i d.1 d.2.out
end AN
noncomputable def En.try(e:En)(m:Fr.Msg):En:=by
 classical exact if MOk m∧e.first+e.wait.length<65536 then e.send m else e
namespace AN
noncomputable def sendOne(A:AN)(i:Nat)(c:Nat×Fr.Msg):AN:=(A.modE i c.1 (fun e=>e.try c.2)).carry i c.1
def sentOf(A:AN)(i:Nat):List (Nat×Fr.Msg):=match A.sps[i]? with
 |none=>[]
 |some s=>s.n.sent
noncomputable def sends(A:AN)(i:Nat)(l:List (Nat×Fr.Msg)):AN:=l.foldl (fun A c=>A.sendOne i c) A
noncomputable def post(A:AN)(i:Nat):AN:=(A.modN i (fun n=>{ n with sent:=[]})).sends i (A.sentOf i)
noncomputable def wake(A:AN)(i:Nat):AN:=(A.modN i Nod.wake).post i
noncomputable def takeOne(A:AN)(i j:Nat)(m:Fr.Msg):AN:=(A.modN i (fun n=>n.take j m)).post i
noncomputable def takes(A:AN)(i j:Nat)(l:List Fr.Msg):AN:=l.foldl (fun A m=>A.takeOne i j m) A
def toEdge(A:AN)(i k:Nat):Nat:=match A.sps[i]? with
 |none=>0
 |some s=>s.ss.findIdx (fun d=>d.1==k)
def tldOf(A:AN)(i j:Nat)(q:Option Fr.Frm):List Fr.Msg:=match A.side i j with
 |none=>[]
 |some d=>d.2.tld q
noncomputable def comes(A:AN)(x:AP):AN:=
 let j:=A.toEdge x.t x.f
 ((A.modE x.t j (fun e=>e.inn (frmOf x.l))).carry x.t j).takes x.t j (A.tldOf x.t j (frmOf x.l))
def lose(A:AN)(k:Nat):AN:={ A with bag:=A.bag.eraseIdx k}
noncomputable def deliver(A:AN)(k:Nat):AN:=match A.bag[k]? with
 |none=>A
 |some x=>(A.lose k).comes x
def tickOne(A:AN)(i j:Nat):AN:=(A.modE i j En.tick).carry i j
def ticks(A:AN)(i:Nat)(n:Nat):AN:=(List.range n).foldl (fun A j=>A.tickOne i j) A
def tick(A:AN)(i:Nat):AN:=A.ticks i (match A.sps[i]? with|none=>0|some s=>s.ss.length)
def branch(A:AN)(i k:Nat):Bool:=match A.sps[i]? with
 |none=>false
 |some s=>match s.n.edges[A.toEdge i k]? with
  |none=>false
  |some e=>e.2==1
def tree(A:AN):List Ed:=A.es.filter (fun e=>A.branch e.a.toNat e.b.toNat||A.branch e.b.toNat e.a.toNat)
end AN
theorem abs_spot{N:Nt}{i:Nat}{s:Sp}(hs:N.sps[i]?=some s):N.abs.sps[i]?=some s.abs:=by simp[Nt.abs,hs]
theorem abs_side{N:Nt}{i j:Nat}{s:Sp}{d:Sd}(hs:N.sps[i]?=some s)(hd:s.ss[j]?=some d):N.abs.side i j=some (d.to_,d.e):=by
 simp[AN.side,abs_spot hs,Sp.abs,hd,Sd.abs]
theorem abs_setE{N:Nt}{i j:Nat}{s:Sp}{d:Sd}(hs:N.sps[i]?=some s)(hd:s.ss[j]?=some d)(e:En)(p:Pl)(R:Nat→Prop)(f:En→En)(hf:f d.e=e):(N.setE i s j d e p R).abs=N.abs.modE i j f:=by
 have h1:(s.ss.map Sd.abs)[j]?=some (d.to_,d.e):=by simp[hd,Sd.abs]
 simp only[Nt.abs,Nt.setE,Nt.setS,AN.modE]
 rw[modify_set (x:=s.abs) (by simp[hs]),List.map_set]
 simp only[Sp.abs,List.map_set]
 rw[modify_set h1]
 simp only[Sd.abs,hf]
theorem abs_setN{N:Nt}{i:Nat}{s:Sp}(hs:N.sps[i]?=some s)(n:Nod)(p:Np)(R:Nat→Prop)(f:Nod→Nod)(hf:f s.n=n):(N.setN i s n p R).abs=N.abs.modN i f:=by
 simp only[Nt.abs,Nt.setN,Nt.setS,AN.modN]
 rw[modify_set (x:=s.abs) (by simp[hs]),List.map_set]
 simp only[Sp.abs,hf]
theorem abs_way(N:Nt)(W:Nat→Prop):({ N with way:=W}:Nt).abs=N.abs:=rfl
theorem abs_add(N:Nt)(x:Pk)(ba:Option Addr)(bc:Nat)(W:Nat→Prop):(N.setB (badd N.L x) ba bc W).abs=N.abs.add x.abs:=by
 unfold badd AN.add Nt.abs Nt.setB
 simp only[List.length_map]
 split<;>simp
theorem linkSend_all(c:Array Value)(t:TypeId)(b o:Nat)(e:En)(p:Pl)(m:Fr.Msg)(w:World)(h:Rep w c t b o e p)(ho:(e.out.length:Int)<1099511627000):
 Calls Tryz.prog 111 #[.pointer (some ⟨b,o,none⟩),mv m] w fun r w'=>∃z:Int,r=.returned (.int .i64 z)∧∃p',Rep w' c t b o (e.try m) p'∧Step w w' b p p':=by
 by_cases hm:may (m.kind:Int) (m.level:Int) (m.name:Int) m.finding=true
 ·have hok:MOk m:=by
   have h1:=hm
   simp only[may,decide_eq_true_eq]at h1
   obtain⟨⟨h2,h3⟩,h4,h5,h6,h7,_⟩:=h1
   have hk:m.kind=1∨m.kind=2∨m.kind=3∨m.kind=4∨m.kind=5∨m.kind=6∨m.kind=7:=by omega
   refine⟨by omega,?_,?_,hm⟩
   ·have:bL (m.kind:Int)≤9:=by rcases hk with e|e|e|e|e|e|e<;>rw[e]<;>decide
    omega
   ·have:bM (m.kind:Int)≤1000:=by rcases hk with e|e|e|e|e|e|e<;>rw[e]<;>decide
    omega
  by_cases hf:e.first+e.wait.length<65536
  ·refine(linkSend_yes c t b o e p m hok w h hf ho).mono ?_
   rintro r w' ⟨rfl,p',h1,h2⟩
   refine⟨_,rfl,p',?_,h2⟩
   unfold En.try;rw[if_pos ⟨hok,hf⟩];exact h1
  ·have h65:e.first+e.wait.length=65536:=by have:=h.most;omega
   refine(linkSend_full c t b o e p m hok w h h65).mono ?_
   rintro r w' ⟨rfl,k⟩
   refine⟨_,rfl,p,?_,Step.of_keep b p k⟩
   unfold En.try;rw[if_neg (fun x=>hf x.2)];exact h.keep k (fun _ _ x=>x)
 ·have hm':may (m.kind:Int) (m.level:Int) (m.name:Int) m.finding=false:=by simpa using hm
  refine(linkSend_no b o _ _ _ _ hm' w).mono ?_
  rintro r w' ⟨rfl,k⟩
  refine⟨_,rfl,p,?_,Step.of_keep b p k⟩
  unfold En.try;rw[if_neg (fun x=>hm x.1.2.2.2)];exact h.keep k (fun _ _ x=>x)
theorem linkIn_all(c:Array Value)(t:TypeId)(b o:Nat)(e:En)(p:Pl)(bb bo cap:Nat)(ls:List Nat)(q:Option Fr.Frm)(w:World)(h:Rep w c t b o e p)(hl:Lies w bb bo cap ls)(hq:Is ls q)(ho:(e.out.length:Int)<1099511627000):
 Calls Tryz.prog 116 #[.pointer (some ⟨b,o,none⟩),.slice (some ⟨bb,bo,none⟩) ls.length cap] w fun r w'=>∃v p',r=.returned v∧Told w w' b p' v (e.tld q)∧Rep w' c t b o (e.inn q) p'∧Step w w' b p p':=by
 cases q with
 |none=>
  refine(linkIn_no b o bb bo cap ls w hl hq).mono ?_
  rintro r w' ⟨rfl,k⟩
  exact⟨_,p,rfl,⟨none,0,rfl,RV.nil _ _ _,fun g hg=>(inB_none g hg).elim⟩,h.keep k (fun _ _ x=>x),Step.of_keep b p k⟩
 |some f=>
  obtain⟨d,s,m⟩:=f
  obtain⟨hf,he⟩:=hq
  have hr:=enc_read _ hf
  rw[he]at hr
  have hs:(s:Int)<65536:=by have:=hf.1;simp only at this;omega
  cases d with
  |false=>
   have hm:m=Fr.none0:=by
    rcases hf.2 with⟨h,_⟩|⟨_,h⟩
    ·cases h
    ·exact h
   subst hm
   refine(linkIn_ack c t b o e p bb bo cap s ls w h hl hr hs ho).mono ?_
   rintro r w' ⟨rfl,p',h1,h2⟩
   exact⟨_,p',rfl,⟨none,0,rfl,RV.nil _ _ _,fun g hg=>(inB_none g hg).elim⟩,h1,h2⟩
  |true=>exact linkIn_msg c t b o e p bb bo cap s m ls w h hl hr hs ho
theorem spcells_get(l:List Sp):∀(k:Nat) (s:Sp),l[k]?=some s→(spcells l)[k * 2]?=some (.pointer (some ⟨s.b,0,none⟩))∧(spcells l)[k * 2+1]?=some (.slice s.sa s.ss.length s.sc):=by
 induction l with
 |nil=>intro k s h;simp at h
 |cons x t ih=>
  intro k s h
  have hc:spcells (x::t)=spcell x++spcells t:=by simp[spcells]
  have hl:(spcell x).length=2:=rfl
  rw[hc]
  cases k with
  |zero=>
   simp only[List.getElem?_cons_zero,Option.some.injEq]at h
   subst h
   exact⟨rfl,rfl⟩
  |succ k=>
   simp only[List.getElem?_cons_succ]at h
   obtain⟨h1,h2⟩:=ih k s h
   refine⟨?_,?_⟩
   ·rw[List.getElem?_append_right (by omega),hl,show (k+1) * 2 - 2=k * 2 by omega];exact h1
   ·rw[List.getElem?_append_right (by omega),hl,show (k+1) * 2+1 - 2=k * 2+1 by omega];exact h2
theorem NtR.spot_at{w:World}{N:Nt}(h:NtR w N){k:Nat}{s:Sp}(hs:N.sps[k]?=some s):∃pb po,N.pa=some ⟨pb,po,none⟩∧pb<w.heap.size∧w.cell? ⟨pb,po+k * 2,none⟩=some (.pointer (some ⟨s.b,0,none⟩))∧w.cell? ⟨pb,po+k * 2+1,none⟩=some (.slice s.sa s.ss.length s.sc):=by
 have hj:=(List.getElem?_eq_some_iff.1 hs).1
 obtain⟨g,q,h3,hv⟩:=rv_pos h.prow (by omega)
 obtain⟨c0,c1⟩:=spcells_get N.sps k s hs
 exact⟨g,q,h3,hv.lt,hv.cell _ _ c0,by rw[Nat.add_assoc];exact hv.cell _ _ c1⟩
theorem NtR.c0{w:World}{N:Nt}(h:NtR w N):w.cell? ⟨N.nb,0,none⟩=some (.slice N.ea N.es.length N.ec):=by rw[h.blk.cell];rfl
theorem NtR.c1{w:World}{N:Nt}(h:NtR w N):w.cell? ⟨N.nb,1,none⟩=some (.slice N.pa N.sps.length N.pc):=by rw[h.blk.cell];rfl
theorem NtR.c2{w:World}{N:Nt}(h:NtR w N):w.cell? ⟨N.nb,2,none⟩=some (.slice N.ba N.L.length N.bc):=by rw[h.blk.cell];rfl
theorem Buf.prow{w:World}{g c:Nat}{l:List Nat}(h:Buf w g l c):PRow w g l c:=by
 obtain⟨sp,hb,hl⟩:=h
 exact⟨by simp,by omega,Or.inr ⟨g,0,rfl,[],sp,by simpa using hb,rfl,by simp;omega⟩⟩
theorem badd_le(L:List Pk)(x:Pk)(h:L.length≤300):(badd L x).length≤300:=by
 unfold badd;split
 ·simp;omega
 ·exact h
theorem mem_badd{L:List Pk}{x y:Pk}(h:y∈badd L x):y∈L∨y=x:=by
 unfold badd at h
 split at h
 ·rcases List.mem_append.1 h with h|h
  ·exact Or.inl h
  ·exact Or.inr (List.mem_singleton.1 h)
 ·exact Or.inl h
theorem badd_apart{L:List Pk}{x:Pk}(h:L.Pairwise (fun x y=>x.g≠y.g))(hx:∀y∈L,y.g≠x.g):(badd L x).Pairwise (fun x y=>x.g≠y.g):=by
 unfold badd;split
 ·rw[List.pairwise_append]
  exact⟨h,List.pairwise_singleton _ _,fun a ha b hb=>by rw[List.mem_singleton.1 hb];exact hx a ha⟩
 ·exact h
structure Cry(w wr:World)(N:Nt)(k j:Nat)(d:Sd)(i:Nat)(M:Nt):Prop where
 rep:NtR wr M
 abs:M.abs=(N.abs.modE k j En.outs).adds k d.to_ (d.e.out.take i)
 to_:NtTo w wr N M
 way:M.way=fun b=>N.way b∨inB d.p.oa b∨b∈d.p.gs.drop i
 len:M.L.length≤300
 row:RV wr 56 1 d.p.oa d.e.out.length d.p.oc (ovals d.p.gs d.e.out)
 bufs:∀(i' g:Nat) (f:Fr.Frm),i≤i'→d.p.gs[i']?=some g→d.e.out[i']?=some f→Buf wr g (Fr.enc f) 10
theorem Cry.side{w wr:World}{N M:Nt}{k j i:Nat}{d:Sd}{s:Sp}(h:Cry w wr N k j d i M)(hs:N.sps[k]?=some s)(hd:s.ss[j]?=some d):∃s' d',M.sps[k]?=some s'∧s'.ss[j]?=some d'∧s'.sa=s.sa∧d'.to_=d.to_:=by
 obtain⟨s',h1,h2⟩:=h.to_.spot hs
 obtain⟨_,h3,_,h4,h5⟩:=fix_parts h2
 have h6:(s'.ss.map Sd.to_)[j]?=some d.to_:=by rw[h4];simp[hd]
 rw[List.getElem?_map]at h6
 obtain⟨d',h7,h8⟩:=Option.map_eq_some_iff.1 h6
 exact⟨s',d',h1,h7,h3,h8⟩
theorem Cry.keep{w wr w1:World}{N M:Nt}{k j i:Nat}{d:Sd}(h:Cry w wr N k j d i M)(k1:Keep nil wr w1):Cry w w1 N k j d i M:=
 ⟨h.rep.keep k1 (fun _ _ e=>e),h.abs,h.to_.trans (NtTo.of_keep M k1),h.way,h.len,h.row.keep k1 (fun _ _ e=>e),fun i' g f a b c=>(h.bufs i' g f a b c).keep k1 (fun e=>e)⟩
theorem take_succ_get{α:Type}{l:List α}{i:Nat}{x:α}(h:l[i]?=some x):l.take (i+1)=l.take i++[x]:=by rw[List.take_add_one,h];rfl
theorem Cry.next{w wr w2:World}{N M:Nt}{k j i:Nat}{d:Sd}(h:Cry w wr N k j d i M)(hE:RepL w d.e d.p)(hO:∀b,b∈d.p.gs→N.Own b∧¬N.way b){g:Nat}{f:Fr.Frm}(hg:d.p.gs[i]? =some g)(hf:d.e.out[i]? =some f)(ba':Option Addr)(bc':Nat)
 (hb:Bag w2 M.nb 2 (badd M.L ⟨k,d.to_,Fr.enc f,g,10,false⟩) ba' bc') (hto:BagTo wr w2 M.nb 2 M.ba ba' (.slice ba' (badd M.L ⟨k,d.to_,Fr.enc f,g,10,false⟩).length bc')):
 ∃M',Cry w w2 N k j d (i+1) M':=by
 have hgm:g∈d.p.gs:=List.mem_of_getElem? hg
 have hdrop:d.p.gs.drop i=g::d.p.gs.drop (i+1):=by
  obtain⟨hi,e⟩:=List.getElem?_eq_some_iff.1 hg
  rw[List.drop_eq_getElem_cons hi,e]
 have hgd:g∈d.p.gs.drop i:=by rw[hdrop];exact List.mem_cons_self ..
 have hgw:M.way g:=by rw[h.way];exact Or.inr (Or.inr hgd)
 have hnd:g∉d.p.gs.drop (i+1):=by
  have:=hE.gn.sublist (List.drop_sublist i d.p.gs)
  rw[hdrop]at this
  exact(List.nodup_cons.1 this).1
 have hold:∀y∈M.L,¬M.way y.g:=fun y hy e=>by have:=h.rep.apart .pks .way y.g ⟨y,hy,rfl⟩ e;cases this
 have hbuf:=h.bufs i g f (Nat.le_refl _) hg hf
 have hne:∀b,M.way b→¬(b=M.nb∨inB M.ba b):=fun b hb' e=>by
  rcases e with e|e
  ·have:=h.rep.apart .way .net b hb' e;cases this
  ·have:=h.rep.apart .way .bag b hb' e;cases this
 obtain⟨r1,r2⟩:=h.rep.setB (badd M.L ⟨k,d.to_,Fr.enc f,g,10,false⟩) ba' bc' (fun b=>N.way b∨inB d.p.oa b∨b∈d.p.gs.drop (i+1)) hb hto
  (fun x hx=>by
   rcases mem_badd hx with e|rfl
   ·exact Or.inl e
   ·exact Or.inr ⟨hgw,hbuf.prow⟩)
  (badd_apart h.rep.pkn (fun y hy e=>hold y hy (e▸hgw)))
  (fun b hb'=>by
   have hw':M.way b:=by
    rw[h.way]
    rcases hb' with e|e|e
    ·exact Or.inl e
    ·exact Or.inr (Or.inl e)
    ·exact Or.inr (Or.inr (by rw[hdrop];exact List.mem_cons_of_mem _ e))
   refine⟨hw',fun x hx e=>?_⟩
   rcases mem_badd hx with e2|rfl
   ·exact hold x e2 (e▸hw')
   ·subst e
    rcases hb' with e|e|e
    ·exact(hO _ hgm).2 e
    ·exact(hE.gw _ hgm).2 e
    ·exact hnd e)
 refine⟨_,r1,?_,?_,rfl,badd_le _ _ h.len,?_,?_⟩
 ·rw[abs_add,h.abs,take_succ_get hf]
  simp[AN.adds,List.foldl_append,Pk.abs]
 ·exact r2 w N h.to_ (fun x hx=>by
   rcases mem_badd hx with e|rfl
   ·exact Or.inl e
   ·exact Or.inr (Or.inl (hO g hgm).1))
 ·exact h.row.keep hto.keep (fun b hb'=>hne b (by rw[h.way];exact Or.inr (Or.inl hb')))
 ·intro i' g' f' hi' hg' hf'
  refine(h.bufs i' g' f' (by omega) hg' hf').keep hto.keep (hne g' ?_)
  rw[h.way]
  refine Or.inr (Or.inr ?_)
  obtain⟨hl,e⟩:=List.getElem?_eq_some_iff.1 hg'
  exact List.mem_of_getElem? (i:=i' - i) (by rw[List.getElem?_drop,show i+(i' - i)=i' by omega];exact hg')
theorem Cry.done{w wr:World}{N M:Nt}{k j:Nat}{d:Sd}{s:Sp}(h:Cry w wr N k j d d.e.out.length M)(hs:N.sps[k]?=some s)(hd:s.ss[j]?=some d):
 NtR wr { M with way:=N.way}∧({ M with way:=N.way}:Nt).abs=N.abs.carry k j∧NtTo w wr N { M with way:=N.way}:=by
 refine⟨h.rep.wayTo (Keep.refl nil wr) N.way (fun i hi=>Or.inl (by rw[h.way];exact Or.inl hi)),?_,?_⟩
 ·rw[abs_way,h.abs,List.take_length,AN.carry,abs_side hs hd]
 ·have:=h.to_.way N.way N.way;exact this
theorem Cry.start{w w1:World}{N:Nt}{k j:Nat}{d:Sd}{s:Sp}(h:NtR w N)(hs:N.sps[k]? =some s)(hd:s.ss[j]? =some d)(hl:N.L.length≤300){g o:Nat}{c:Array Value}(hsa:s.sa=some ⟨g,o,none⟩)
 (hr:Rep w1 c 181 g (o+j * 25+1) d.e.outs { d.p with oa:=none,oc:=0,gs:=[]}) (hk:Keep (only g) w w1)
 (hset:∀(w':World) (e':En) (p':Pl) (R:Nat→Prop),Rep w' c 181 g (o+j * 25+1) e' p'→Keep (fun k=>k=g∨ELst d.p k) w w'→(∀k,ELst p' k→ELst d.p k∨w.heap.size≤k)→(∀k,R k→ELst d.p k∧¬ELst p' k)→
  NtR w' (N.setE k s j d e' p' R)∧NtTo w w' N (N.setE k s j d e' p' R)):
 ∃M,Cry w w1 N k j d 0 M:=by
 have hE:=h.ends k s hs j d hd
 have hgE:∀b,ELst d.p b→b≠g:=fun b hb e=>by
  subst e
  have:=h.apart (.spot k (.ends j)) (.spot k .side) b ⟨s,hs,d,hd,hb⟩ ⟨s,hs,by show inB s.sa b;rw[hsa];exact inB_self b o⟩
  cases this
 obtain⟨r1,r2⟩:=hset w1 d.e.outs { d.p with oa:=none,oc:=0,gs:=[]} (fun b=>inB d.p.oa b∨b∈d.p.gs) hr (hk.mono (fun _ _ e=>Or.inl e))
  (fun b hb=>by
   rcases hb with e|e|e
   ·exact Or.inl (Or.inl e)
   ·exact(inB_none b e).elim
   ·cases e)
  (fun b hb=>by
   rcases hb with e|e
   ·refine⟨Or.inr (Or.inl e),?_⟩
    rintro (x|x|x)
    ·exact hE.wo b x e
    ·exact inB_none b x
    ·cases x
   ·refine⟨Or.inr (Or.inr e),?_⟩
    rintro (x|x|x)
    ·exact(hE.gw b e).1 x
    ·exact inB_none b x
    ·cases x)
 refine⟨_,r1,?_,r2,rfl,hl,hE.orow.keep hk (fun b hb=>hgE b (Or.inr (Or.inl hb))),fun i' g' f' _ hg' hf'=>(hE.bufs i' g' f' hg' hf').keep hk (hgE g' (Or.inr (Or.inr (List.mem_of_getElem? hg'))))⟩
 rw[abs_setE hs hd _ _ _ En.outs rfl];rfl
theorem Cry.frame{w wr:World}{N M:Nt}{k j i:Nat}{d:Sd}(h:Cry w wr N k j d i M)(hE:RepL w d.e d.p)(hi:i<d.e.out.length):∃g f oa oo,d.p.gs[i]?=some g∧d.e.out[i]?=some f∧d.p.oa=some ⟨oa,oo,none⟩∧oa<wr.heap.size∧wr.cell? ⟨oa,oo+i,none⟩=some (.slice (some ⟨g,0,none⟩) (Fr.enc f).length 10):=by
 have hg:d.p.gs[i]?=some (d.p.gs[i]'(by rw[hE.gl];exact hi)):=List.getElem?_eq_getElem _
 have hf:d.e.out[i]?=some d.e.out[i]:=List.getElem?_eq_getElem _
 obtain⟨oa,oo,h1,h2⟩:=rv_pos h.row (by omega)
 refine⟨_,_,oa,oo,hg,hf,h1,h2.lt,h2.cell i _ ?_⟩
 rw[ovals,List.getElem?_zipWith,hg,hf]
 simp only[fval,enc_len]
end Go.Proofs.YtlfijfodklhplaaGreat
