import Derived.Test.YtlfijfodklhplaaGreatSf08
import Derived.Test.YtlfijfodklhplaaGreatSf11
set_option linter.unusedVariables false
set_option linter.unusedSimpArgs false
namespace Go.Proofs.YtlfijfodklhplaaGreat
open Go.RowKit
inductive NMsg where
  | connect (l:Nat)
  | initiate (l n:Nat) (f:Bool)
  | test (l n:Nat)
  | accept
  | reject
  | report (w:Nat)
  | root
def NMsg.plain : NMsg → Fr.Msg
  | .connect l=>⟨1,l,0,false⟩
  | .initiate l n f=>⟨2,l,n,f⟩
  | .test l n=>⟨3,l,n,false⟩
  | .accept=>⟨4,0,0,false⟩
  | .reject=>⟨5,0,0,false⟩
  | .report w=>⟨6,0,if w=1001 then 0 else w,false⟩
  | .root=>⟨7,0,0,false⟩
def typed (m:Fr.Msg):NMsg:=match m.kind with
  | 1=>.connect m.level
  | 2=>.initiate m.level m.name m.finding
  | 3=>.test m.level m.name
  | 4=>.accept
  | 5=>.reject
  | 6=>.report (if m.name=0 then 1001 else m.name)
  | _=>.root
structure Nod where
  state:Nat
  level:Nat
  name:Nat
  edges:List (Nat × Nat)
  inn:Option Nat
  best:Option Nat
  bw:Nat
  tested:Option Nat
  count:Int
  over:Bool
  off:List (Nat × NMsg)
  sent:List (Nat × Fr.Msg)
namespace Nod
def new (ws:List Nat):Nod:=⟨0,0,0,ws.map (fun w=>(w,0)),none,none,1001,none,0,false,[],[]⟩
def st (n:Nod) (j:Nat):Nat:=match n.edges[j]? with | some e=>e.2 | none=>0
def wt (n:Nod) (j:Nat):Nat:=match n.edges[j]? with | some e=>e.1 | none=>0
def setSt (n:Nod) (j s:Nat):Nod:={ n with edges:=n.edges.set j (n.wt j,s) }
def send (n:Nod) (j:Nat) (m:NMsg):Nod:={ n with sent:=n.sent++[(j,m.plain)] }
def lightFrom : List (Nat × Nat) → Nat → Option Nat
  | [],_=>none
  | e :: r,k=>if e.2=0 then some k else lightFrom r (k + 1)
def light (n:Nod):Option Nat:=lightFrom n.edges 0
def wake (n:Nod):Nod :=
  if n.state=0 then
    match ({ n with level:=0,state:=2,count:=0 }:Nod).light with
    | none=>{ n with level:=0,state:=2,count:=0,over:=true }
    | some j=>(({ n with level:=0,state:=2,count:=0 }:Nod).setSt j 1).send j (.connect 0)
  else n
def spread (n:Nod) (j:Nat) (l nm:Nat) (f:Bool):Nod :=
  if f then { n.send j (.initiate l nm f) with count:=wrap64 (n.count + 1) } else n.send j (.initiate l nm f)
def reports (n:Nod):Nod :=
  if n.count=0∧n.tested=none then
    match n.inn with
    | none=>{ n with state:=2 }
    | some i=>({ n with state:=2 }:Nod).send i (.report n.bw)
  else n
def tests (n:Nod):Nod :=
  match n.light with
  | none=>({ n with tested:=none }:Nod).reports
  | some j=>({ n with tested:=some j }:Nod).send j (.test n.level n.name)
def spreads (n : Nod) (fr l nm : Nat) (f : Bool) : Nat → Nat → Nod
  | 0,_=>n
  | k + 1,j=>(if j≠fr∧n.st j=1 then n.spread j l nm f else n).spreads fr l nm f k (j + 1)
def initiate (n:Nod) (fr l nm:Nat) (f:Bool):Nod :=
  let n1:Nod:={ n with level:=l,name:=nm,state:=if f then 1 else 2,inn:=some fr,best:=none,bw:=1001 }
  let n2:=n1.spreads fr l nm f n.edges.length 0
  if f then n2.tests else n2
def reject (n:Nod) (j:Nat):Nod:=if n.st j=0 then n.setSt j 2 else n
def hear (n:Nod) (j w:Nat):Nod:=if w < n.bw then { n with best:=some j,bw:=w } else n
def changeRoot (n:Nod):Nod:=match n.best with
  | none=>n
  | some b=>if n.st b=1 then n.send b .root else (n.send b (.connect n.level)).setSt b 1
def connect (n:Nod) (j l:Nat):Nod × Bool :=
  let n1:=n.wake
  if l < n1.level then ((n1.setSt j 1).spread j n1.level n1.name (n1.state == 1),true)
  else if n1.st j=0 then (n1,false)
  else (n1.send j (.initiate (n1.level + 1) (n1.wt j) true),true)
def test (n:Nod) (j l nm:Nat):Nod × Bool :=
  let n1:=n.wake
  if n1.level < l then (n1,false)
  else if nm≠n1.name then (n1.send j .accept,true)
  else if n1.tested=some j then ((n1.reject j).tests,true) else ((n1.reject j).send j .reject,true)
def accept (n:Nod) (j:Nat):Nod:=(({ n with tested:=none }:Nod).hear j (n.wt j)).reports
def report (n:Nod) (j w:Nat):Nod × Bool :=
  if n.inn=some j then
    if n.state=1 then (n,false)
    else if n.bw < w then (n.changeRoot,true)
    else if w=1001∧n.bw=1001 then ({ n with over:=true },true) else (n,true)
  else ((({ n with count:=wrap64 (n.count - 1) }:Nod).hear j w).reports,true)
def act (n : Nod) (j : Nat) : NMsg → Nod × Bool
  | .connect l=>n.connect j l
  | .initiate l nm f=>(n.initiate j l nm f,true)
  | .test l nm=>n.test j l nm
  | .accept=>(n.accept j,true)
  | .reject=>((n.reject j).tests,true)
  | .report w=>n.report j w
  | .root=>(n.changeRoot,true)
def oneOff (n : Nod) : Nat → Nat → Nod × Bool
  | 0,_=>(n,false)
  | f + 1,k=>match n.off[k]? with
    | none=>(n,false)
    | some c=>if (n.act c.1 c.2).2 then ({ (n.act c.1 c.2).1 with off:=(n.act c.1 c.2).1.off.eraseIdx k },true) else (n.act c.1 c.2).1.oneOff f (k + 1)
def offs (n : Nod) : Nat → Nod
  | 0=>n
  | f + 1=>if (n.oneOff n.off.length 0).2 then (n.oneOff n.off.length 0).1.offs f else (n.oneOff n.off.length 0).1
def take (n:Nod) (j:Nat) (m:Fr.Msg):Nod :=
  if (n.act j (typed m)).2 then (n.act j (typed m)).1.offs ((n.act j (typed m)).1.off.length + 1)
  else { (n.act j (typed m)).1 with off:=(n.act j (typed m)).1.off++[(j,typed m)] }
end Nod
def oi : Option Nat → Int
  | none=>-1
  | some j=>(j:Int)
theorem oi_some (j:Nat):oi (some j)=(j:Int):=rfl
theorem oi_inj {a b:Option Nat} (h:oi a=oi b):a=b:=by
  cases a <;> cases b <;> simp [oi] at h ⊢ <;> omega
def NMsg.val : NMsg → Value
  | .connect l=>.iface 193 (.agg #[.int .i64 (l:Int)])
  | .initiate l n f=>.iface 313 (.agg #[.int .i64 (l:Int),.int .i64 (n:Int),.bool f])
  | .test l n=>.iface 315 (.agg #[.int .i64 (l:Int),.int .i64 (n:Int)])
  | .accept=>.iface 316 (.agg #[])
  | .reject=>.iface 317 (.agg #[])
  | .report w=>.iface 319 (.agg #[.int .i64 (w:Int)])
  | .root=>.iface 321 (.agg #[])
def necell (e:Nat × Nat):List Value:=[.int .i64 (e.1:Int),.int .i64 (e.2:Int)]
def necells (l:List (Nat × Nat)):List Value:=l.flatMap necell
def ccell (c:Nat × NMsg):List Value:=[.int .i64 (c.1:Int),c.2.val]
def ccells (l:List (Nat × NMsg)):List Value:=l.flatMap ccell
def lcell (c:Nat × Fr.Msg):List Value:=.int .i64 (c.1:Int) :: mcell c.2
def lcells (l:List (Nat × Fr.Msg)):List Value:=l.flatMap lcell
structure Np where
  ea:Option Addr
  ec:Nat
  fa:Option Addr
  fc:Nat
  sa:Option Addr
  sc:Nat
def ncells (n:Nod) (p:Np):Array Value:=#[.int .i64 (n.state:Int),.int .i64 (n.level:Int),.int .i64 (n.name:Int),.slice p.ea n.edges.length p.ec,.int .i64 (oi n.inn),.int .i64 (oi n.best),.int .i64 (n.bw:Int),.int .i64 (oi n.tested),.int .i64 n.count,.bool n.over,.slice p.fa n.off.length p.fc,.slice p.sa n.sent.length p.sc]
def NMine (b:Nat) (p:Np) (k:Nat):Prop:=k=b∨inB p.ea k∨inB p.fa k∨inB p.sa k
structure NRep (w : World) (b : Nat) (n : Nod) (p : Np) : Prop where
  blk:Blk w b (ncells n p) 187
  erow:RV w 190 2 p.ea n.edges.length p.ec (necells n.edges)
  frow:RV w 270 2 p.fa n.off.length p.fc (ccells n.off)
  srow:RV w 197 5 p.sa n.sent.length p.sc (lcells n.sent)
  eb:¬ inB p.ea b
  fb:¬ inB p.fa b
  sb:¬ inB p.sa b
  ef:∀ k,inB p.ea k→¬ inB p.fa k
  es:∀ k,inB p.ea k→¬ inB p.sa k
  fs:∀ k,inB p.fa k→¬ inB p.sa k
theorem NRep.keep {ex:Nat→Prop} {w w':World} {b:Nat} {n:Nod} {p:Np} (h:NRep w b n p) (k:Keep ex w w') (hn:∀ i,NMine b p i→¬ ex i):NRep w' b n p :=
  ⟨h.blk.keep k (hn b (Or.inl rfl)),h.erow.keep k (fun g hg=>hn g (Or.inr (Or.inl hg))),h.frow.keep k (fun g hg=>hn g (Or.inr (Or.inr (Or.inl hg)))),h.srow.keep k (fun g hg=>hn g (Or.inr (Or.inr (Or.inr hg)))),h.eb,h.fb,h.sb,h.ef,h.es,h.fs⟩
theorem NRep.lt {w:World} {b:Nat} {n:Nod} {p:Np} (h:NRep w b n p):∀ i,NMine b p i→i < w.heap.size:=fun i hi=>by
  rcases hi with rfl | hi | hi | hi
  · exact h.blk.lt
  · exact h.erow.lt i hi
  · exact h.frow.lt i hi
  · exact h.srow.lt i hi
structure NStep (w w' : World) (b : Nat) (p p' : Np) : Prop where
  mine:∀ k,NMine b p' k→NMine b p k∨w.heap.size≤k
  keep:Keep (NMine b p) w w'
  fa:p'.fa=p.fa
  fc:p'.fc=p.fc
theorem NStep.refl (w:World) (b:Nat) (p:Np):NStep w w b p p:=⟨fun _ h=>Or.inl h,Keep.refl _ _,rfl,rfl⟩
theorem NStep.of_keep {w w1:World} (b:Nat) (p:Np) (h:Keep nil w w1):NStep w w1 b p p:=⟨fun _ h=>Or.inl h,h.mono (fun _ _ e=>e.elim),rfl,rfl⟩
theorem NStep.trans {w w1 w2:World} {b:Nat} {p p1 p2:Np} (h:NStep w w1 b p p1) (k:NStep w1 w2 b p1 p2):NStep w w2 b p p2 :=
  ⟨fun i hi=>by
    rcases k.mine i hi with h1 | h1
    · exact h.mine i h1
    · exact Or.inr (Nat.le_trans h.keep.size h1),h.keep.trans' k.keep (fun i hi e=>by
    rcases h.mine i e with h1 | h1
    · exact h1
    · omega),k.fa.trans h.fa,k.fc.trans h.fc⟩
theorem NRep.set {w:World} {b:Nat} {n n':Nod} {p:Np} (h:NRep w b n p) (i:Nat) (v:Value) (hc:(ncells n p).setIfInBounds i v=ncells n' p) (h1:n'.edges=n.edges) (h2:n'.off=n.off) (h3:n'.sent=n.sent) :
    NRep (w.setCell ⟨b,i,none⟩ v) b n' p∧NStep w (w.setCell ⟨b,i,none⟩ v) b p p:=by
  have ks:Keep (only b) w (w.setCell ⟨b,i,none⟩ v):=(Keep.refl (only b) w).setCell (p:=⟨b,i,none⟩) (fun _=>rfl) _
  refine ⟨⟨?_,?_,?_,?_,h.eb,h.fb,h.sb,h.ef,h.es,h.fs⟩,⟨fun _ h=>Or.inl h,ks.mono (fun _ _ e=>Or.inl e),rfl,rfl⟩⟩
  · have:=h.blk.set i v; rw [hc] at this; exact this
  · rw [h1]; exact h.erow.keep ks (fun g hg e=>by rw [show g=b from e] at hg; exact h.eb hg)
  · rw [h2]; exact h.frow.keep ks (fun g hg e=>by rw [show g=b from e] at hg; exact h.fb hg)
  · rw [h3]; exact h.srow.keep ks (fun g hg e=>by rw [show g=b from e] at hg; exact h.sb hg)
theorem necells_get (l:List (Nat × Nat)):∀ (k:Nat) (e:Nat × Nat),l[k]?=some e→(necells l)[k * 2]?=some (.int .i64 (e.1:Int))∧(necells l)[k * 2 + 1]?=some (.int .i64 (e.2:Int)):=by
  induction l with
  | nil=>intro k e h; simp at h
  | cons x t ih =>
    intro k e h
    have hc:necells (x :: t)=necell x++necells t:=by simp [necells]
    rw [hc]
    cases k with
    | zero=>simp at h; subst h; exact ⟨rfl,rfl⟩
    | succ k =>
      rw [List.getElem?_cons_succ] at h
      have:=ih k e h
      have hl:(necell x).length=2:=rfl
      rw [List.getElem?_append_right (by omega),List.getElem?_append_right (by omega),hl,show (k + 1) * 2 - 2=k * 2 by omega,show (k + 1) * 2 + 1 - 2=k * 2 + 1 by omega]
      exact this
theorem NRep.edge_at {w:World} {b:Nat} {n:Nod} {p:Np} (h:NRep w b n p) (j:Nat) (e:Nat × Nat) (he:n.edges[j]?=some e):∃ g o,p.ea=some ⟨g,o,none⟩∧g < w.heap.size∧w.cell? ⟨g,o + j * 2,none⟩=some (.int .i64 (e.1:Int))∧w.cell? ⟨g,o + j * 2 + 1,none⟩=some (.int .i64 (e.2:Int))∧w.frozen? ⟨g,o + j * 2 + 1,none⟩=false:=by
  obtain ⟨h1,h2,h3⟩:=h.erow
  have hj:=(List.getElem?_eq_some_iff.1 he).1
  rcases h3 with ⟨_,h3,_⟩ | ⟨g,o,h3,hv⟩
  · omega
  · obtain ⟨c0,c1⟩:=necells_get n.edges j e he
    exact ⟨g,o,h3,hv.lt,hv.cell _ _ c0,by rw [Nat.add_assoc]; exact hv.cell _ _ c1,hv.frozen _⟩
end Go.Proofs.YtlfijfodklhplaaGreat
