import Derived.Test.YtlfijfodklhplaaGreatSf23
import Derived.Test.YtlfijfodklhplaaGreatSf07
import Derived.Test.YtlfijfodklhplaaGreatSf22
import Derived.Test.YtlfijfodklhplaaGreatSf21
set_option linter.unusedVariables false
set_option linter.unusedSimpArgs false
namespace Go.Proofs.YtlfijfodklhplaaGreat
open Go.RowKit
theorem list5 (l:List Nat) (h:l.length=5):∃ a b c d e,l=[a,b,c,d,e]:=by
  match l,h with
  | [a,b,c,d,e],_=>exact ⟨a,b,c,d,e,rfl⟩
theorem list10 (l:List Nat) (h:l.length=10):∃ a b c d e f g i j k,l=[a,b,c,d,e,f,g,i,j,k]:=by
  match l,h with
  | [a,b,c,d,e,f,g,i,j,k],_=>exact ⟨a,b,c,d,e,f,g,i,j,k,rfl⟩
theorem frame_ten (x1 x2 x3 x4 x5 x6 x7 : Nat) (h1 : x1 < 256) (h2 : x2 < 256) (h3 : x3 < 256) (h4 : x4 < 256) (h6 : x6 < 256) (h7 : x7 < 256)
    (hm:may (x3:Int) (x4:Int) ((x6:Int) * 256 + (x7:Int)) (x5 == 1)=true):FrOk ⟨true,x1 * 256 + x2,⟨x3,x4,x6 * 256 + x7,x5 == 1⟩⟩:=by
  refine ⟨by show x1 * 256 + x2 < 65536; omega,Or.inl ⟨rfl,h3,h4,by show x6 * 256 + x7 < 65536; omega,?_⟩⟩
  have e:((x6 * 256 + x7:Nat):Int)=(x6:Int) * 256 + (x7:Int):=by omega
  show may (x3:Int) (x4:Int) ((x6 * 256 + x7:Nat):Int) (x5 == 1)=true
  rw [e]; exact hm
theorem read_six {l:List Nat} {x y:Six} (h:ReadOk l x) (k:ReadOk l y):x=y:=by
  obtain ⟨n,c1,c2,hB,_,_,_,hl⟩:=h
  obtain ⟨n',c1',c2',hB',_,_,_,hl'⟩:=k
  have hn:n'=n:=by omega
  subst hn
  obtain ⟨s1,s2,e1,e2,⟨e0,f0,rfl⟩ | ⟨e0,f0,y1,y2,y3,y4,y5,f1,f2,f3,f4,f5,f6,f7,rfl⟩⟩:=hB
  · obtain ⟨t1,t2,e1',e2',⟨e0',_,rfl⟩ | ⟨e0',f0',_⟩⟩:=hB'
    · rw [e1] at e1'; rw [e2] at e2'; cases e1'; cases e2'; rfl
    · omega
  · obtain ⟨t1,t2,e1',e2',⟨e0',f0',_⟩ | ⟨e0',f0',z1,z2,z3,z4,z5,g1,g2,g3,g4,g5,g6,g7,rfl⟩⟩:=hB'
    · omega
    · rw [e1] at e1'; rw [e2] at e2'; rw [f1] at g1; rw [f2] at g2; rw [f3] at g3; rw [f4] at g4; rw [f5] at g5
      cases e1'; cases e2'; cases g1; cases g2; cases g3; cases g4; cases g5; rfl
def fw (f:Fr.Frm):Nat:=if f.data then 6 else 3
def osum (l:List Fr.Frm):Nat:=(l.map fw).sum
def En.wt (e:En):Nat:=osum e.out + 6 * (e.wait.length - min e.wait.length 4)
def Is (ls : List Nat) : Option Fr.Frm → Prop
  | none=>∀ x,¬ ReadOk ls x
  | some f=>FrOk f∧Fr.enc f=ls
theorem read_frm {l:List Nat} (hb:∀ x ∈ l,x < 256) {x:Six} (hx:ReadOk l x):∃ f,FrOk f∧Fr.enc f=l:=by
  rcases read_len l x hx with h | h
  · obtain ⟨x0,x1,x2,x3,x4,rfl⟩:=list5 l h
    have he:=read5 x0 x1 x2 x3 x4 (hb _ (by simp)) (hb _ (by simp)) (hb _ (by simp)) (hb _ (by simp)) x hx
    have hok:FrOk ⟨false,x1 * 256 + x2,Fr.none0⟩:=⟨by have:=hb x1 (by simp); have:=hb x2 (by simp); show x1 * 256 + x2 < 65536; omega,Or.inr ⟨rfl,rfl⟩⟩
    exact ⟨_,hok,he⟩
  · obtain ⟨x0,x1,x2,x3,x4,x5,x6,x7,x8,x9,rfl⟩:=list10 l h
    obtain ⟨hm,he⟩:=read10 x0 x1 x2 x3 x4 x5 x6 x7 x8 x9 (hb _ (by simp)) (hb _ (by simp)) (hb _ (by simp)) (hb _ (by simp)) (hb _ (by simp)) (hb _ (by simp)) x hx
    have hok:=frame_ten x1 x2 x3 x4 x5 x6 x7 (hb _ (by simp)) (hb _ (by simp)) (hb _ (by simp)) (hb _ (by simp)) (hb _ (by simp)) (hb _ (by simp)) hm
    exact ⟨_,hok,he⟩
theorem is_ex {l:List Nat} (hb:∀ x ∈ l,x < 256):∃ o,Is l o:=by
  by_cases h:∃ x,ReadOk l x
  · obtain ⟨x,hx⟩:=h
    obtain ⟨f,hf⟩:=read_frm hb hx
    exact ⟨some f,hf⟩
  · exact ⟨none,fun x hx=>h ⟨x,hx⟩⟩
def En.inn (e : En) : Option Fr.Frm → En
  | .none=>e
  | .some f=>if f.data then e.came f.seq f.m else e.ack f.seq
def En.tld (e : En) : Option Fr.Frm → List Fr.Msg
  | .none=>[]
  | .some f=>if f.data then e.told f.seq f.m else []
theorem tld_len (e:En) (o:Option Fr.Frm) (h4:e.kept.length=4):(e.tld o).length≤4:=by
  have hr:∀ l:List (Option Fr.Msg),(En.ready l).length≤l.length:=by
    intro l
    induction l with
    | nil=>simp [En.ready]
    | cons x t ih=>cases x <;> simp [En.ready] <;> omega
  have hk:∀ n m,(e.keep n m).kept.length=4:=by
    intro n m
    unfold En.keep
    split
    · split
      · simp [h4]
      · exact h4
    · exact h4
  cases o with
  | none=>simp [En.tld]
  | some f =>
    show (if f.data then e.told f.seq f.m else []).length≤4
    split
    · unfold En.told
      have:=hr (e.keep f.seq f.m).kept
      rw [hk] at this; exact this
    · simp
theorem modify_set {α:Type} {l:List α} {i:Nat} {x:α} (h:l[i]?=some x) (f:α→α):l.modify i f=l.set i (f x):=by
  apply List.ext_getElem?
  intro k
  rw [List.getElem?_modify]
  by_cases e:i=k
  · subst e; rw [h,lset_self h]; simp
  · rw [List.getElem?_set_ne e]
    cases l[k]? <;> simp [e]
noncomputable def frmOf (l:List Nat):Option Fr.Frm:=by
  classical exact if h:∃ o,Is l o then h.choose else none
theorem frmOf_is {l:List Nat} (hb:∀ x ∈ l,x < 256):Is l (frmOf l):=by
  have h:=is_ex hb
  unfold frmOf
  rw [dif_pos h]
  exact h.choose_spec
structure AS where
  n:Nod
  ss:List (Nat × En)
structure AP where
  f:Nat
  t:Nat
  l:List Nat
  sp:Bool
structure AN where
  es:List Ed
  sps:List AS
  bag:List AP
def Sd.abs (d:Sd):Nat × En:=(d.to_,d.e)
def Sp.abs (s:Sp):AS:=⟨s.n,s.ss.map Sd.abs⟩
def Pk.abs (x:Pk):AP:=⟨x.from_,x.to_,x.l,x.sp⟩
def Nt.abs (N:Nt):AN:=⟨N.es,N.sps.map Sp.abs,N.L.map Pk.abs⟩
namespace AN
def modE (A:AN) (i j:Nat) (f:En→En):AN:={ A with sps:=A.sps.modify i (fun s=>{ s with ss:=s.ss.modify j (fun d=>(d.1,f d.2)) }) }
def modN (A:AN) (i:Nat) (f:Nod→Nod):AN:={ A with sps:=A.sps.modify i (fun s=>{ s with n:=f s.n }) }
def side (A:AN) (i j:Nat):Option (Nat × En):=(A.sps[i]?).bind (fun s=>s.ss[j]?)
def add (A:AN) (x:AP):AN:=if A.bag.length < 300 then { A with bag:=A.bag++[x] } else A
def adds (A:AN) (i t:Nat) (l:List Fr.Frm):AN:=l.foldl (fun A f=>A.add ⟨i,t,Fr.enc f,false⟩) A
def carry (A:AN) (i j:Nat):AN:=match A.side i j with
  | none=>A
  | some d=>(A.modE i j En.outs).adds i d.1 d.2.out
end AN
noncomputable def En.try (e:En) (m:Fr.Msg):En:=by
  classical exact if MOk m∧e.first + e.wait.length < 65536 then e.send m else e
namespace AN
noncomputable def sendOne (A:AN) (i:Nat) (c:Nat × Fr.Msg):AN:=(A.modE i c.1 (fun e=>e.try c.2)).carry i c.1
def sentOf (A:AN) (i:Nat):List (Nat × Fr.Msg):=match A.sps[i]? with
  | none=>[]
  | some s=>s.n.sent
noncomputable def sends (A:AN) (i:Nat) (l:List (Nat × Fr.Msg)):AN:=l.foldl (fun A c=>A.sendOne i c) A
noncomputable def post (A:AN) (i:Nat):AN:=(A.modN i (fun n=>{ n with sent:=[] })).sends i (A.sentOf i)
noncomputable def wake (A:AN) (i:Nat):AN:=(A.modN i Nod.wake).post i
noncomputable def takeOne (A:AN) (i j:Nat) (m:Fr.Msg):AN:=(A.modN i (fun n=>n.take j m)).post i
noncomputable def takes (A:AN) (i j:Nat) (l:List Fr.Msg):AN:=l.foldl (fun A m=>A.takeOne i j m) A
def toEdge (A:AN) (i k:Nat):Nat:=match A.sps[i]? with
  | none=>0
  | some s=>s.ss.findIdx (fun d=>d.1 == k)
def tldOf (A:AN) (i j:Nat) (q:Option Fr.Frm):List Fr.Msg:=match A.side i j with
  | none=>[]
  | some d=>d.2.tld q
noncomputable def comes (A:AN) (x:AP):AN :=
  let j:=A.toEdge x.t x.f
  ((A.modE x.t j (fun e=>e.inn (frmOf x.l))).carry x.t j).takes x.t j (A.tldOf x.t j (frmOf x.l))
def lose (A:AN) (k:Nat):AN:={ A with bag:=A.bag.eraseIdx k }
noncomputable def deliver (A:AN) (k:Nat):AN:=match A.bag[k]? with
  | none=>A
  | some x=>(A.lose k).comes x
def again (A:AN) (k:Nat):AN:=match A.bag[k]? with
  | none=>A
  | some x=>A.add x
def spoil (A:AN) (k at_ y:Nat):AN:=match A.bag[k]? with
  | none=>A
  | some x=>if x.sp=false∧at_ < x.l.length∧y≠0 then { A with bag:=A.bag.set k { x with l:=x.l.modify at_ (fun v=>v ^^^ y),sp:=true } } else A
def tickOne (A:AN) (i j:Nat):AN:=(A.modE i j En.tick).carry i j
def ticks (A:AN) (i:Nat) (n:Nat):AN:=(List.range n).foldl (fun A j=>A.tickOne i j) A
def tick (A:AN) (i:Nat):AN:=A.ticks i (match A.sps[i]? with | none=>0 | some s=>s.ss.length)
def branch (A:AN) (i k:Nat):Bool:=match A.sps[i]? with
  | none=>false
  | some s=>match s.n.edges[A.toEdge i k]? with
    | none=>false
    | some e=>e.2 == 1
def tree (A:AN):List Ed:=A.es.filter (fun e=>A.branch e.a.toNat e.b.toNat || A.branch e.b.toNat e.a.toNat)
end AN
theorem abs_spot {N:Nt} {i:Nat} {s:Sp} (hs:N.sps[i]?=some s):N.abs.sps[i]?=some s.abs:=by simp [Nt.abs,hs]
theorem abs_side {N:Nt} {i j:Nat} {s:Sp} {d:Sd} (hs:N.sps[i]?=some s) (hd:s.ss[j]?=some d):N.abs.side i j=some (d.to_,d.e):=by
  simp [AN.side,abs_spot hs,Sp.abs,hd,Sd.abs]
theorem abs_setE {N:Nt} {i j:Nat} {s:Sp} {d:Sd} (hs:N.sps[i]?=some s) (hd:s.ss[j]?=some d) (e:En) (p:Pl) (R:Nat→Prop) (f:En→En) (hf:f d.e=e):(N.setE i s j d e p R).abs=N.abs.modE i j f:=by
  have h1:(s.ss.map Sd.abs)[j]?=some (d.to_,d.e):=by simp [hd,Sd.abs]
  simp only [Nt.abs,Nt.setE,Nt.setS,AN.modE]
  rw [modify_set (x:=s.abs) (by simp [hs]),List.map_set]
  simp only [Sp.abs,List.map_set]
  rw [modify_set h1]
  simp only [Sd.abs,hf]
theorem abs_setN {N:Nt} {i:Nat} {s:Sp} (hs:N.sps[i]?=some s) (n:Nod) (p:Np) (R:Nat→Prop) (f:Nod→Nod) (hf:f s.n=n):(N.setN i s n p R).abs=N.abs.modN i f:=by
  simp only [Nt.abs,Nt.setN,Nt.setS,AN.modN]
  rw [modify_set (x:=s.abs) (by simp [hs]),List.map_set]
  simp only [Sp.abs,hf]
theorem abs_way (N:Nt) (W:Nat→Prop):({ N with way:=W }:Nt).abs=N.abs:=rfl
theorem abs_add (N:Nt) (x:Pk) (ba:Option Addr) (bc:Nat) (W:Nat→Prop):(N.setB (badd N.L x) ba bc W).abs=N.abs.add x.abs:=by
  unfold badd AN.add Nt.abs Nt.setB
  simp only [List.length_map]
  split <;> simp
theorem linkSend_all (c:Array Value) (t:TypeId) (b o:Nat) (e:En) (p:Pl) (m:Fr.Msg) (w:World) (h:Rep w c t b o e p) (ho:(e.out.length:Int) < 1099511627000) :
    Calls Tryz.prog 111 #[.pointer (some ⟨b,o,none⟩),mv m] w fun r w'=>∃ z:Int,r=.returned (.int .i64 z)∧∃ p',Rep w' c t b o (e.try m) p'∧Step w w' b p p':=by
  by_cases hm:may (m.kind:Int) (m.level:Int) (m.name:Int) m.finding=true
  · have hok:MOk m:=by
      have h1:=hm
      simp only [may,decide_eq_true_eq] at h1
      obtain ⟨⟨h2,h3⟩,h4,h5,h6,h7,_⟩:=h1
      have hk:m.kind=1∨m.kind=2∨m.kind=3∨m.kind=4∨m.kind=5∨m.kind=6∨m.kind=7:=by omega
      refine ⟨by omega,?_,?_,hm⟩
      · have:bL (m.kind:Int)≤9:=by rcases hk with e | e | e | e | e | e | e <;> rw [e] <;> decide
        omega
      · have:bM (m.kind:Int)≤1000:=by rcases hk with e | e | e | e | e | e | e <;> rw [e] <;> decide
        omega
    by_cases hf:e.first + e.wait.length < 65536
    · refine (linkSend_yes c t b o e p m hok w h hf ho).mono ?_
      rintro r w' ⟨rfl,p',h1,h2⟩
      refine ⟨_,rfl,p',?_,h2⟩
      unfold En.try; rw [if_pos ⟨hok,hf⟩]; exact h1
    · have h65:e.first + e.wait.length=65536:=by have:=h.most; omega
      refine (linkSend_full c t b o e p m hok w h h65).mono ?_
      rintro r w' ⟨rfl,k⟩
      refine ⟨_,rfl,p,?_,Step.of_keep b p k⟩
      unfold En.try; rw [if_neg (fun x=>hf x.2)]; exact h.keep k (fun _ _ x=>x)
  · have hm':may (m.kind:Int) (m.level:Int) (m.name:Int) m.finding=false:=by simpa using hm
    refine (linkSend_no b o _ _ _ _ hm' w).mono ?_
    rintro r w' ⟨rfl,k⟩
    refine ⟨_,rfl,p,?_,Step.of_keep b p k⟩
    unfold En.try; rw [if_neg (fun x=>hm x.1.2.2.2)]; exact h.keep k (fun _ _ x=>x)
theorem linkIn_all (c:Array Value) (t:TypeId) (b o:Nat) (e:En) (p:Pl) (bb bo cap:Nat) (ls:List Nat) (q:Option Fr.Frm) (w:World) (h:Rep w c t b o e p) (hl:Lies w bb bo cap ls) (hq:Is ls q) (ho:(e.out.length:Int) < 1099511627000) :
    Calls Tryz.prog 116 #[.pointer (some ⟨b,o,none⟩),.slice (some ⟨bb,bo,none⟩) ls.length cap] w fun r w'=>∃ v p',r=.returned v∧Told w w' b p' v (e.tld q)∧Rep w' c t b o (e.inn q) p'∧Step w w' b p p':=by
  cases q with
  | none =>
    refine (linkIn_no b o bb bo cap ls w hl hq).mono ?_
    rintro r w' ⟨rfl,k⟩
    exact ⟨_,p,rfl,⟨none,0,rfl,RV.nil _ _ _,fun g hg=>(inB_none g hg).elim⟩,h.keep k (fun _ _ x=>x),Step.of_keep b p k⟩
  | some f =>
    obtain ⟨d,s,m⟩:=f
    obtain ⟨hf,he⟩:=hq
    have hr:=enc_read _ hf
    rw [he] at hr
    have hs:(s:Int) < 65536:=by have:=hf.1; simp only at this; omega
    cases d with
    | false =>
      have hm:m=Fr.none0:=by
        rcases hf.2 with ⟨h,_⟩ | ⟨_,h⟩
        · cases h
        · exact h
      subst hm
      refine (linkIn_ack c t b o e p bb bo cap s ls w h hl hr hs ho).mono ?_
      rintro r w' ⟨rfl,p',h1,h2⟩
      exact ⟨_,p',rfl,⟨none,0,rfl,RV.nil _ _ _,fun g hg=>(inB_none g hg).elim⟩,h1,h2⟩
    | true=>exact linkIn_msg c t b o e p bb bo cap s m ls w h hl hr hs ho
end Go.Proofs.YtlfijfodklhplaaGreat
