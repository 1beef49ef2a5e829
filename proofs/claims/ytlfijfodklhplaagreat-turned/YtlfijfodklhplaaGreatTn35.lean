import Derived.Test.YtlfijfodklhplaaGreatTn34
import Derived.Test.YtlfijfodklhplaaGreatTn09
import Derived.Test.YtlfijfodklhplaaGreatRows
import Derived.ProofKit
import Derived.ChangeSlices
import Derived.SizedLaws
import Derived.Deep.Slices
set_option linter.unusedVariables false
set_option linter.unusedSimpArgs false
namespace Go.Proofs.YtlfijfodklhplaaGreat
open Go.ChangeShapes Go.WideShapes Go.ChangeAt Go.RowKit Go.Deep
theorem alk_own:ownKnob Tryz.prog.godebug=none:=by kernel_rfl
theorem alk_laid:laidOutB Tryz.prog=true:=by kernel_rfl
theorem alk_int_cells:Tryz.prog.cellsOf 3=1:=by kernel_rfl
theorem alk_int_bytes:Tryz.prog.bytesOf 3=8:=by kernel_rfl
theorem alk_bounds{a:Int}(h:(Lit.int .i64 a).wf=true):-9223372036854775808≤a∧a≤9223372036854775807:=by
 simp[Lit.wf,IntKind.min,IntKind.max,IntKind.bits,IntKind.signed]at h
 omega
theorem raws_of{H:Type}{enc:TypeId×Value→H}{W:World}{fuel:Nat}{sa:Option Addr}{n cp:Nat}{d:DataW H}{pl:List MemPlace}
 (h:DataW.trod enc Tryz.prog W 0 (fun _=>true) true fuel 25 [.slice sa n cp]=some (d,pl)) (hw:∀x∈d.weights Tryz.prog 25,x≤reachBytes):
 ∃l:List Int,l.length=n∧Raws W sa l∧(l.length:Int)<35184372088832:=by
 rcases open_slice1 Tryz.underlying25 alk_int_cells h with⟨hc,_⟩|⟨a,len,cap,m,k,V0,D,Pl,hc,_,hl,hm,hmm,hx,hall⟩
 ·simp at hc
  obtain⟨rfl,rfl,rfl⟩:=hc
  exact⟨[],rfl,fun i c hi=>by simp at hi,by decide⟩
 ·simp at hc
  obtain⟨rfl,rfl,rfl⟩:=hc
  simp only[if_true]at hmm
  subst hmm
  have hd:=congrArg Prod.fst hx
  simp only at hd
  have hb:(n+(m - n)) * 8≤reachBytes:=by
   refine hw _ ?_
   rw[hd]
   unfold DataW.weights
   rw[Tryz.underlying25]
   simp[alk_int_bytes]
  have hr:reachBytes=140737488351232:=rfl
  have hel:∀i,i<n→∃x:Int,W.cell? (a.add i)=some (.int .i64 x)∧(-9223372036854775808≤x∧x≤9223372036854775807):=by
   intro i hi
   obtain⟨h1,h2⟩:=hall i (by omega)
   obtain⟨z,e,_,b⟩:=DataW.trod_int Tryz.underlying3 h2
   simp at e
   rw[e]at h1
   exact⟨z,h1,alk_bounds b⟩
  obtain⟨V,hV⟩:=choose_lt hel
  refine⟨(List.range n).map V,by simp,fun i c hi=>?_,by simp;omega⟩
  have hkl:=(List.getElem?_eq_some_iff.1 hi).1
  simp at hkl
  rw[List.getElem?_map,List.getElem?_range hkl]at hi
  simp at hi
  subst hi
  obtain⟨ab,ao,spot⟩:=a
  have hspot:spot=none:=by
   have:=World.cell?_spot (hV 0 (by omega)).1
   simpa [Addr.add]using this
  subst hspot
  simp only[Addr.add_lit]at hV
  exact⟨(hV i hkl).2,ab,ao,rfl,World.block_lt_of_cell? W _ (hV i hkl).1,(hV i hkl).1⟩
end Go.Proofs.YtlfijfodklhplaaGreat
namespace Go.Proofs.YtlfijfodklhplaaGreat.Ghs
open Go.RowKit
open NMsg
def upd{α:Type}(f:Nat→α)(a:Nat)(x:α):Nat→α:=fun b=>if b=a then x else f b
def upd2{α:Type}(f:Nat→Nat→α)(a b:Nat)(x:α):Nat→Nat→α:=fun c d=>if c=a∧d=b then x else f c d
structure St where
 aw:Nat→Bool
 lev:Nat→Nat
 nam:Nat→Nat
 fnd:Nat→Bool
 se:Nat→Nat→Nat
 inn:Nat→Option Nat
 best:Nat→Option Nat
 bw:Nat→Nat
 tst:Nat→Option Nat
 cnt:Nat→Nat
 over:Nat→Bool
 q:Nat→Nat→List NMsg
structure Gh where
 fr:Nat→Nat→Prop
 L:Nat→Nat
 N:Nat→Nat
 ph:Nat→Nat
 W:Nat→Nat
 par:Nat→Option Nat
 dep:Nat→Nat
structure Gs where
 Z:Nat→Prop
 be:Nat→Nat
 tg:Nat→Prop
 tk:Nat→Prop
 ps:Nat→Prop
structure Gr where
 n:Nat
 adj:Nat→Nat→Prop
 w:Nat→Nat→Nat
 sym:∀u v,adj u v→adj v u
 irr:∀u,¬adj u u
 lt:∀u v,adj u v→u<n
 ws:∀u v,w u v=w v u
 w1:∀u v,adj u v→1≤w u v∧w u v≤1000
 wd:∀u v x y,adj u v→adj x y→w u v=w x y→(u=x∧v=y)∨(u=y∧v=x)
 mst:Nat→Nat→Prop
 cut:∀(S:Nat→Prop) (u v:Nat),adj u v→S u→¬S v→(∀x y,adj x y→S x→¬S y→w u v≤w x y)→mst u v
def inits:List NMsg→List (Nat×Nat×Bool)
 |[]=>[]
 | .initiate l n f::t=>(l,n,f)::inits t
 |_::t=>inits t
def chain(p:Nat×Nat):List (Nat×Nat×Bool)→Nat×Nat→Prop
 |[],p'=>p=p'
 |(l,n,_)::t,p'=>p.1<l∧chain (l,n) t p'
def isTest:NMsg→Bool| .test _ _=>true|_=>false
def isAns:NMsg→Bool| .accept=>true| .reject=>true|_=>false
def isCon:NMsg→Bool| .connect _=>true|_=>false
def isIni:NMsg→Bool| .initiate _ _ _=>true|_=>false
def isRep:NMsg→Bool| .report _=>true|_=>false
def isRoot:NMsg→Bool| .root=>true|_=>false
def kS(q:Nat→Nat→List NMsg)(u v:Nat):List NMsg:=(q u v).filter (fun m=>isCon m||isIni m)
def kR(q:Nat→Nat→List NMsg)(u v:Nat):List NMsg:=(q u v).filter (fun m=>isRep m||isIni m)
def kT(q:Nat→Nat→List NMsg)(u v:Nat):List NMsg:=(q u v).filter (fun m=>isTest m||isAns m)
def kX(q:Nat→Nat→List NMsg)(u v:Nat):List NMsg:=(q u v).filter isRoot
def half(se:Nat→Nat→Nat)(u v:Nat):Prop:=se u v=1∧se v u≠1
def dbl(se:Nat→Nat→Nat)(u v:Nat):Prop:=se u v=1∧se v u=1
def core(g:Gh)(u v:Nat):Prop:=g.par u=some v∧g.par v=some u
def kid(g:Gh)(x y:Nat):Prop:=g.par y=some x∧g.par x≠some y
structure Str(G:Gr)(aw:Nat→Bool)(lev nam:Nat→Nat)(se:Nat→Nat→Nat)(k:Nat→Nat→List NMsg)(g:Gh):Prop where
 qa:∀u v m,m∈k u v→G.adj u v∧aw u=true
 sa:∀u v,se u v≠0→G.adj u v∧aw u=true
 asl:∀u,aw u=false→lev u=0∧g.L u=0∧g.par u=none∧g.ph u=2∧g.W u=0
 f1:∀u,g.fr u u
 f2:∀u v,g.fr u v→g.fr v u
 f3:∀u v x,g.fr u v→g.fr v x→g.fr u x
 f4:∀u v,g.fr u v→g.L u=g.L v∧g.N u=g.N v∧g.ph u=g.ph v∧g.W u=g.W v
 f5:∀u v,g.L u=0→g.fr u v→u=v
 l1:∀u,lev u≤g.L u
 l2:∀u,lev u=g.L u→1≤g.L u→nam u=g.N u
 se2:∀u v,se u v=2→g.fr u v
 se3:∀u v,se u v≤2
 db:∀u v,dbl se u v→g.fr u v∧(g.par u=some v∨g.par v=some u)
 pr:∀u v,g.par u=some v→dbl se u v
 hf:∀u v,half se u v→g.ph u=2∧g.par u=none∧¬g.fr u v∧connect (g.L u)∈k u v∧G.w u v=g.W u∧g.L u≤lev v∧lev u=g.L u
 cn:∀u v l,connect l∈k u v→se u v=1∧(se v u=1→core g u v∧l+1=g.L u∧lev u=l∧lev v=l)∧(se v u≠1→l=g.L u)
 c1:∀u v,(k u v).countP isCon≤1
 co:∀u v,core g u v→g.ph u=0∧g.N u=G.w u v∧((lev v=g.L v∧inits (k u v)=[]∧∀l,connect l∉k v u)∨(lev v+1=g.L v∧inits (k u v)=[(g.L v,g.N v,true)]∧∀l,connect l∉k v u)∨(lev v+1=g.L v∧inits (k u v)=[]∧connect (lev v)∈k v u))
 cu:∀u v x y,core g u v→core g x y→g.fr u x→(u=x∧v=y)∨(u=y∧v=x)
 ch:∀x y,kid g x y→inits (k y x)=[]∧chain (lev y,nam y) (inits (k x y)) (lev x,nam x)
 i1:∀x y l n f,initiate l n f∈k x y→g.par y=some x∧l≤g.L y∧(l=g.L y→n=g.N y)
 rt:∀u v,g.par u=none→g.par v=none→g.fr u v→u=v
 p0:∀u,g.ph u=0→1≤g.L u∧g.par u≠none
 dp:∀x y,kid g x y→g.dep x<g.dep y
 nm1:∀v,1≤lev v→∃a b,G.adj a b∧dbl se a b∧nam v=G.w a b∧g.fr v a
 nm2:∀x y l n f,initiate l n f∈k x y→∃a b,G.adj a b∧dbl se a b∧n=G.w a b∧g.fr y a
 nm3:∀v,1≤g.L v→∃a b,G.adj a b∧dbl se a b∧g.N v=G.w a b∧g.fr v a
 de:∀u z v,g.ph u≠0→g.fr u z→G.adj z v→¬g.fr z v→g.W u≤G.w z v
 sz:∀u,u<G.n→∃l:List Nat,l.Nodup∧l.length=2 ^ g.L u∧∀x∈l,g.fr u x∧x<G.n
 mst:∀u v,se u v=1→G.mst u v∨G.mst v u
 oc:∀u v A B l n f,k u v=A++initiate l n f::B→∀l',connect l'∉B
structure Rep(G:Gr)(lev:Nat→Nat)(fnd:Nat→Bool)(inn:Nat→Option Nat)(bw cnt:Nat→Nat)(k:Nat→Nat→List NMsg)(g:Gh)(Z:Nat→Prop)(be:Nat→Nat):Prop where
 s1:∀u,fnd u=true→g.ph u=0∧lev u=g.L u∧¬Z u
 s2:∀u,g.ph u=0→lev u=g.L u→fnd u=false→Z u
 s3:∀x y,g.ph x=0→kid g x y→Z x→Z y∧be x≤be y
 s14:∀x y,g.ph x=0→kid g x y→¬Z x→fnd x=false→¬Z y
 s4:∀x y l n,initiate l n false∈k x y→g.ph y=0→l=g.L y→Z y
 s5:∀x y l n,initiate l n true∈k x y→g.ph y=0∧l=g.L y∧¬Z y∧(kid g x y→fnd x=true)
 s6:∀u,fnd u=false→cnt u=0
 s9:∀u v,g.ph u=0→Z u→G.adj u v→¬g.fr u v→be u≤G.w u v
 si:∀u,g.ph u=0→lev u=g.L u→inn u=g.par u
 s13:∀u v,core g u v→lev u=g.L u→fnd u=false→be u=bw u
 r1:∀x y w,report w∈k y x→(g.ph y=0∧g.par y=some x∧lev y=g.L y∧fnd y=false∧w=bw y∧be y=bw y∧(kid g x y→fnd x=true)∧∀A B,k y x=A++report w::B→inits B=[])∨(kid g y x∧inn x=some y∧fnd x=false∧w<bw x∧w<1001∧(lev x=g.L x→lev y=g.L y∧w=bw y∧g.ph x≠0)∧∀A B,k y x=A++report w::B→inits A=[])
 r2:∀x y,(k y x).countP isRep≤1
 hd:∀x y,fnd x=true→kid g x y→Z y→(∀w,report w∉k y x)→bw x≤be y
 ct:∀x,fnd x=true→∃l:List Nat,l.Nodup∧l.length=cnt x∧∀y,y∈l↔(kid g x y∧(¬Z y∨∃w,report w∈k y x))
 bm:∀y,bw y≤1001
 s15:∀u v,core g u v→lev u≠g.L u→¬Z u
structure Tst(G:Gr)(lev nam:Nat→Nat)(fnd:Nat→Bool)(se:Nat→Nat→Nat)(bw:Nat→Nat)(tst:Nat→Option Nat)(k:Nat→Nat→List NMsg)(g:Gh)(tg:Nat→Prop):Prop where
 t0:∀y,fnd y=false→tst y=none∧¬tg y
 t1:∀y v,tst y=some v→G.adj y v∧(se y v=0∨(se y v=1∧se v y=1∧tst v≠some y))∧∀x,G.adj y x→se y x=0→G.w y v≤G.w y x
 t2:∀y x,fnd y=true→tst y=none→¬tg y→G.adj y x→se y x=0→bw y≤G.w y x
 t3:∀y,tg y→tst y=none
 t4:∀y v l n,test l n∈k y v→(tst y=some v∧l=lev y∧n=nam y)∨(tst v=some y∧tst y≠some v∧g.fr y v∧n=nam v∧l≤lev v∧se y v≠0)
 t5:∀y v,accept∈k v y→tst y=some v∧¬g.fr y v∧g.L y≤lev v
 t6:∀y v,reject∈k v y→tst y=some v∧g.fr y v∧se v y≠0
 t7:∀y v,tst y=some v→(k y v).countP isTest+(k v y).countP isAns+(if tst v=some y then 0 else (k v y).countP isTest)=1
structure Bst(G:Gr)(aw:Nat→Bool)(lev:Nat→Nat)(fnd:Nat→Bool)(se:Nat→Nat→Nat)(best:Nat→Option Nat)(bw:Nat→Nat)(over:Nat→Bool)(k:Nat→Nat→List NMsg)(g:Gh)(tk ps:Nat→Prop):Prop where
 bb:∀y,1≤g.L y→lev y=g.L y→g.ph y≤1→bw y<1001→∃v,best y=some v∧G.adj y v∧(ps y∨(se y v=0∧bw y=G.w y v∧¬g.fr y v∧g.L y≤lev v)∨(kid g y v∧lev v=g.L v∧fnd v=false∧bw v=bw y))
 k1:∀u,tk u→aw u=true∧g.ph u=1∧g.par u=none∧lev u=g.L u∧(1≤g.L u→bw u=g.W u∧bw u<1001)∧∀v,root∉k u v
 k2:∀y c,root∈k y c→g.ph y=1∧g.par y=none∧best y=some c∧kid g y c∧lev c=g.L c∧bw c=g.W c∧bw c<1001∧(k y c).countP isRoot=1
 ov:∀u,over u=true→∀z v,g.fr u z→G.adj z v→g.fr z v
structure Pas(best:Nat→Option Nat)(bw:Nat→Nat)(k:Nat→Nat→List NMsg)(g:Gh)(tk ps:Nat→Prop):Prop where
 p1:∀z,ps z→g.ph z=1
 u1:∀z v,¬ps z→g.ph z=1→g.par z≠none→kid g z v→¬ps v
 k3:∀u,tk u→g.ph u=1∧¬ps u∧∀v,best u=some v→kid g u v→¬ps v
 k4:∀y c,root∈k y c→g.ph y=1∧¬ps c∧bw y=bw c
structure Inv(G:Gr)(s:St)(g:Gh)(h:Gs):Prop where
 q0:∀u v m,m∈s.q u v→G.adj u v∧s.aw u=true
 st:Str G s.aw s.lev s.nam s.se (kS s.q) g
 rp:Rep G s.lev s.fnd s.inn s.bw s.cnt (kR s.q) g h.Z h.be
 ts:Tst G s.lev s.nam s.fnd s.se s.bw s.tst (kT s.q) g h.tg
 bs:Bst G s.aw s.lev s.fnd s.se s.best s.bw s.over (kX s.q) g h.tk h.ps
 pa:Pas s.best s.bw (kX s.q) g h.tk h.ps
theorem upd_at{α:Type}(f:Nat→α)(a:Nat)(x:α):upd f a x a=x:=by simp[upd]
theorem upd_ne{α:Type}(f:Nat→α){a b:Nat}(x:α)(h:b≠a):upd f a x b=f b:=by simp[upd,h]
theorem fil_same(p:NMsg→Bool)(q:Nat→Nat→List NMsg)(a b:Nat)(l:List NMsg)(h:l.filter p=(q a b).filter p):(fun u v=>(upd2 q a b l u v).filter p)=fun u v=>(q u v).filter p:=by
 funext u v
 simp only[upd2]
 split
 ·rename_i e;rw[e.1,e.2,h]
 ·rfl
theorem kS_same(q:Nat→Nat→List NMsg)(a b:Nat)(l:List NMsg)(h:l.filter (fun m=>isCon m||isIni m)=(q a b).filter (fun m=>isCon m||isIni m)):kS (upd2 q a b l)=kS q:=fil_same _ q a b l h
theorem kR_same(q:Nat→Nat→List NMsg)(a b:Nat)(l:List NMsg)(h:l.filter (fun m=>isRep m||isIni m)=(q a b).filter (fun m=>isRep m||isIni m)):kR (upd2 q a b l)=kR q:=fil_same _ q a b l h
theorem kT_same(q:Nat→Nat→List NMsg)(a b:Nat)(l:List NMsg)(h:l.filter (fun m=>isTest m||isAns m)=(q a b).filter (fun m=>isTest m||isAns m)):kT (upd2 q a b l)=kT q:=fil_same _ q a b l h
theorem kX_same(q:Nat→Nat→List NMsg)(a b:Nat)(l:List NMsg)(h:l.filter isRoot=(q a b).filter isRoot):kX (upd2 q a b l)=kX q:=fil_same _ q a b l h
theorem kT_upd(q:Nat→Nat→List NMsg)(a b:Nat)(l:List NMsg):kT (upd2 q a b l)=upd2 (kT q) a b (l.filter (fun m=>isTest m||isAns m)):=by
 funext u v;simp only[kT,upd2];split<;>rfl
theorem q0_rem{G:Gr}{s:St}(h:∀u v m,m∈s.q u v→G.adj u v∧s.aw u=true){a b:Nat}{A B:List NMsg}{m:NMsg}(hq:s.q a b=A++m::B):∀u v m,m∈upd2 s.q a b (A++B) u v→G.adj u v∧s.aw u=true:=by
 intro u v m' hm
 simp only[upd2]at hm
 split at hm
 ·rename_i e
  rw[e.1,e.2]
  refine h a b m' ?_
  rw[hq]
  simp at hm⊢
  grind
 ·exact h u v m' hm
def addq(q:Nat→Nat→List NMsg)(a b:Nat)(m:NMsg):Nat→Nat→List NMsg:=upd2 q a b (q a b++[m])
theorem fil_rem(p:NMsg→Bool){q:Nat→Nat→List NMsg}{a b:Nat}{A B:List NMsg}{m:NMsg}(hq:q a b=A++m::B)(hp:p m=false):(A++B).filter p=(q a b).filter p:=by
 rw[hq];simp[hp]
theorem fil_add(p:NMsg→Bool)(q:Nat→Nat→List NMsg)(a b:Nat){m:NMsg}(hp:p m=false):(q a b++[m]).filter p=(q a b).filter p:=by simp[hp]
theorem kS_add{q:Nat→Nat→List NMsg}{a b:Nat}{m:NMsg}(hp:(isCon m||isIni m)=false):kS (addq q a b m)=kS q:=kS_same _ _ _ _ (fil_add _ q a b hp)
theorem kR_add{q:Nat→Nat→List NMsg}{a b:Nat}{m:NMsg}(hp:(isRep m||isIni m)=false):kR (addq q a b m)=kR q:=kR_same _ _ _ _ (fil_add _ q a b hp)
theorem kT_add{q:Nat→Nat→List NMsg}{a b:Nat}{m:NMsg}(hp:(isTest m||isAns m)=false):kT (addq q a b m)=kT q:=kT_same _ _ _ _ (fil_add _ q a b hp)
theorem kX_add{q:Nat→Nat→List NMsg}{a b:Nat}{m:NMsg}(hp:isRoot m=false):kX (addq q a b m)=kX q:=kX_same _ _ _ _ (fil_add _ q a b hp)
theorem kS_rem{q:Nat→Nat→List NMsg}{a b:Nat}{A B:List NMsg}{m:NMsg}(hq:q a b=A++m::B)(hp:(isCon m||isIni m)=false):kS (upd2 q a b (A++B))=kS q:=kS_same _ _ _ _ (fil_rem _ hq hp)
theorem kR_rem{q:Nat→Nat→List NMsg}{a b:Nat}{A B:List NMsg}{m:NMsg}(hq:q a b=A++m::B)(hp:(isRep m||isIni m)=false):kR (upd2 q a b (A++B))=kR q:=kR_same _ _ _ _ (fil_rem _ hq hp)
theorem kT_rem{q:Nat→Nat→List NMsg}{a b:Nat}{A B:List NMsg}{m:NMsg}(hq:q a b=A++m::B)(hp:(isTest m||isAns m)=false):kT (upd2 q a b (A++B))=kT q:=kT_same _ _ _ _ (fil_rem _ hq hp)
theorem kX_rem{q:Nat→Nat→List NMsg}{a b:Nat}{A B:List NMsg}{m:NMsg}(hq:q a b=A++m::B)(hp:isRoot m=false):kX (upd2 q a b (A++B))=kX q:=kX_same _ _ _ _ (fil_rem _ hq hp)
theorem kT_addT{q:Nat→Nat→List NMsg}{a b:Nat}{m:NMsg}(hp:(isTest m||isAns m)=true):kT (addq q a b m)=upd2 (kT q) a b (kT q a b++[m]):=by
 unfold addq;rw[kT_upd];congr 1;simp[kT,hp]
theorem kT_out{q:Nat→Nat→List NMsg}{a b:Nat}{A B:List NMsg}{m:NMsg}(hq:q a b=A++m::B)(hp:(isTest m||isAns m)=true):∃X,kT (upd2 q a b (A++B))=upd2 (kT q) a b X∧(∀x,x∈X→x∈kT q a b)∧m∈kT q a b∧(∀p:NMsg→Bool,(kT q a b).countP p=X.countP p+(if p m=true then 1 else 0)):=by
 refine⟨(A++B).filter (fun m=>isTest m||isAns m),kT_upd q a b _,?_,?_,?_⟩
 ·intro x hx
  simp only[kT,hq]
  simp at hx⊢;grind
 ·simp only[kT,hq];simp at hp⊢;grind
 ·intro p
  simp only[kT,hq,List.filter_append,List.countP_append,List.filter_cons,hp,if_true,List.countP_cons]
  omega
theorem q0_add{G:Gr}{s:St}{q:Nat→Nat→List NMsg}(h:∀u v m,m∈q u v→G.adj u v∧s.aw u=true){a b:Nat}{m:NMsg}(h1:G.adj a b)(h2:s.aw a=true):∀u v m',m'∈addq q a b m u v→G.adj u v∧s.aw u=true:=by
 intro u v m' hm
 simp only[addq,upd2]at hm
 split at hm
 ·rename_i e;rw[e.1,e.2];exact⟨h1,h2⟩
 ·exact h u v m' hm
theorem cnt0{p:NMsg→Bool}{l:List NMsg}(h:l.countP p=0):∀m,m∈l→p m=false:=fun m hm=>by
 cases e:p m
 ·rfl
 ·have:=List.countP_pos_iff.2 ⟨_,hm,e⟩;omega
theorem fnd_aw{G:Gr}{s:St}{g:Gh}{h:Gs}(hI:Inv G s g h){y:Nat}(hf:s.fnd y=true):s.aw y=true:=by
 cases e:s.aw y
 ·have:=(hI.st.asl y e).2.2.2.1;have:=(hI.rp.s1 y hf).1;omega
 ·rfl
theorem tst_fnd{G:Gr}{s:St}{g:Gh}{h:Gs}(hI:Inv G s g h){y v:Nat}(hf:s.tst y=some v):s.fnd y=true:=by
 cases e:s.fnd y
 ·have:=(hI.ts.t0 y e).1;rw[hf]at this;cases this
 ·rfl
theorem Str.rej{G:Gr}{aw:Nat→Bool}{lev nam:Nat→Nat}{se:Nat→Nat→Nat}{k:Nat→Nat→List NMsg}{g:Gh}(h:Str G aw lev nam se k g){y v:Nat}(hf:g.fr y v)(ha:G.adj y v)(hw:aw y=true)(h0:se y v=0):Str G aw lev nam (upd2 se y v 2) k g:=by
 have hd:∀a b,dbl (upd2 se y v 2) a b↔dbl se a b:=by intro a b;simp only[dbl,upd2];grind
 have hh:∀a b,half (upd2 se y v 2) a b↔half se a b:=by intro a b;simp only[half,upd2];grind
 have h1:∀a b,upd2 se y v 2 a b=1↔se a b=1:=by intro a b;simp only[upd2];grind
 have:=h.sa
 have:=h.se2
 have:=h.se3
 refine⟨h.qa,?_,h.asl,h.f1,h.f2,h.f3,h.f4,h.f5,h.l1,h.l2,?_,?_,?_,?_,?_,?_,h.c1,h.co,h.cu,h.ch,h.i1,h.rt,h.p0,h.dp,?_,?_,?_,h.de,h.sz,?_,h.oc⟩
 ·intro a b;simp only[upd2];grind
 ·intro a b;simp only[upd2];grind
 ·intro a b;simp only[upd2];grind
 ·intro a b;rw[hd];exact h.db a b
 ·intro a b;rw[hd];exact h.pr a b
 ·intro a b;rw[hh];exact h.hf a b
 ·intro a b l hm;rw[h1,h1];have:=h.cn a b l hm;simp only[ne_eq,h1];exact this
 ·intro a;simp only[hd];exact h.nm1 a
 ·intro a b l n f hm;simp only[hd];exact h.nm2 a b l n f hm
 ·intro a;simp only[hd];exact h.nm3 a
 ·intro a b;rw[h1];exact h.mst a b
theorem Pas.upd_{best:Nat→Option Nat}{bw:Nat→Nat}{k:Nat→Nat→List NMsg}{g:Gh}{tk ps:Nat→Prop}(h:Pas best bw k g tk ps){y:Nat}(hy:g.ph y=0)(hf:∀a b,root∈k a b→g.ph b=1)(b':Option Nat)(w':Nat):Pas (upd best y b') (upd bw y w') k g tk ps:=by
 refine⟨h.p1,h.u1,?_,?_⟩
 ·intro u hu
  have:=h.k3 u hu
  have hn:u≠y:=by rintro rfl;omega
  simp only[upd,if_neg hn];exact this
 ·intro a c hr
  have:=h.k4 a c hr
  have h2:=hf a c hr
  have hn:a≠y:=by rintro rfl;omega
  have hc:c≠y:=by rintro rfl;omega
  simp only[upd,if_neg hn,if_neg hc];exact this
theorem root_ph{G:Gr}{s:St}{g:Gh}{h:Gs}(hI:Inv G s g h):∀a b,root∈kX s.q a b→g.ph b=1:=fun a b hr=>by
 have h0:=hI.bs.k2 a b hr
 have f:=(hI.st.db b a (hI.st.pr b a h0.2.2.2.1.1)).1
 have f4:=hI.st.f4 b a f
 omega
theorem ev_accept{G:Gr}{s:St}{g:Gh}{h:Gs}(hI:Inv G s g h){v y:Nat}{A B:List NMsg}(hq:s.q v y=A++accept::B)(bw':Nat)(best':Option Nat)
 (hb:(G.w y v<s.bw y∧bw'=G.w y v∧best'=some v)∨(¬G.w y v<s.bw y∧bw'=s.bw y∧best'=s.best y)):
 Inv G { s with tst:=upd s.tst y none,bw:=upd s.bw y bw',best:=upd s.best y best',q:=upd2 s.q v y (A++B)} g h:=by
 have hrp:=root_ph hI
 obtain⟨q0,st,rp,ts,bs,pa⟩:=hI
 have hk:kT s.q v y=A.filter (fun m=>isTest m||isAns m)++accept::B.filter (fun m=>isTest m||isAns m):=by simp[kT,hq,isTest,isAns]
 have hm:accept∈kT s.q v y:=by rw[hk];simp
 obtain⟨x1,x2,x3⟩:=ts.t5 y v hm
 obtain⟨y1,y2',y3⟩:=ts.t1 y v x1
 have y2:s.se y v=0:=by
  rcases y2' with e|e
  ·exact e
  ·exact(x2 (st.db y v ⟨e.1,e.2.1⟩).1).elim
 have y4:=ts.t7 y v x1
 have hfy:s.fnd y=true:=by
  cases e:s.fnd y
  ·have:=(ts.t0 y e).1;rw[x1]at this;cases this
  ·rfl
 have hw:=G.w1 y v y1
 have hle:bw'≤s.bw y∧bw'≤G.w y v:=by omega
 have hph:=rp.s1 y hfy
 have hA:(kT s.q v y).countP isAns=(A.filter (fun m=>isTest m||isAns m)).countP isAns+1+(B.filter (fun m=>isTest m||isAns m)).countP isAns:=by rw[hk,List.countP_append,List.countP_cons,if_pos (show isAns accept=true from rfl)];omega
 refine⟨q0_rem q0 hq,?_,?_,?_,?_,?_⟩
 ·rw[kS_same];exact st
  rw[hq];simp[isCon,isIni]
 ·rw[kR_same]
  ·dsimp only
   refine⟨rp.s1,rp.s2,rp.s3,rp.s14,rp.s4,rp.s5,rp.s6,rp.s9,rp.si,?_,?_,rp.r2,?_,rp.ct,?_,rp.s15⟩
   ·intro u x hc hl hf
    rw[upd_ne];exact rp.s13 u x hc hl hf
    grind
   ·intro x z w hr
    rcases rp.r1 x z w hr with⟨a1,a2,a3,a4,a5,a6,a7,a8⟩|⟨a1,a2,a3,a4,a5,a6,a7⟩
    ·left
     have:z≠y:=by grind
     simp only[upd_ne _ _ this]
     exact⟨a1,a2,a3,a4,a5,a6,a7,a8⟩
    ·right
     have:x≠y:=by grind
     have hzx:g.fr x z:=(st.db x z (st.pr x z a1.1)).1
     have h4:=st.f4 x z hzx
     simp only[upd_ne _ _ this]
     refine⟨a1,a2,a3,a4,a5,?_,a7⟩
     intro e
     have:z≠y:=by grind
     simp only[upd_ne _ _ this]
     exact a6 e
   ·intro x z hx hkd hz hr
    have:=rp.hd x z hx hkd hz hr
    by_cases e:x=y
    ·subst e;simp only[upd_at];omega
    ·simp only[upd_ne _ _ e];exact this
   ·intro z
    by_cases e:z=y
    ·subst e;simp only[upd_at];have:=rp.bm z;omega
    ·simp only[upd_ne _ _ e];exact rp.bm z
  ·rw[hq];simp[isRep,isIni]
 ·rw[kT_upd]
  dsimp only
  have hT1:(kT s.q y v).countP isTest=0:=by omega
  have hT2:∀l n,test l n∉kT s.q y v:=fun l n hm=>by
   have:=List.countP_pos_iff.2 ⟨_,hm,(show isTest (test l n)=true from rfl)⟩
   omega
  have hA0:(A.filter (fun m=>isTest m||isAns m)++B.filter (fun m=>isTest m||isAns m)).countP isAns=0:=by rw[List.countP_append];omega
  have hTv:(A.filter (fun m=>isTest m||isAns m)++B.filter (fun m=>isTest m||isAns m)).countP isTest=(kT s.q v y).countP isTest:=by rw[hk,List.countP_append,List.countP_append,List.countP_cons,if_neg (show ¬isTest accept=true by decide)];omega
  have hsub:∀m,m∈A.filter (fun m=>isTest m||isAns m)++B.filter (fun m=>isTest m||isAns m)→m∈kT s.q v y:=fun m hm=>by rw[hk];simp only[List.mem_append,List.mem_cons]at hm⊢;grind
  have hno:∀m,m∈A.filter (fun m=>isTest m||isAns m)++B.filter (fun m=>isTest m||isAns m)→isAns m=false:=fun m hm=>by
   cases e:isAns m
   ·rfl
   ·have:=List.countP_pos_iff.2 ⟨_,hm,e⟩;omega
  have hvy:v≠y:=by rintro rfl;exact G.irr _ y1
  have hT3:s.tst v≠some y→∀l n,test l n∉kT s.q v y:=fun e l n hm=>by
   have:=List.countP_pos_iff.2 ⟨_,hm,(show isTest (test l n)=true from rfl)⟩
   rw[if_neg e]at y4
   omega
  rw[List.filter_append]
  generalize hX:A.filter (fun m=>isTest m||isAns m)++B.filter (fun m=>isTest m||isAns m)=X at *
  refine⟨?_,?_,?_,?_,?_,?_,?_,?_⟩
  ·intro z hz
   by_cases e:z=y
   ·subst e;rw[hfy]at hz;cases hz
   ·rw[upd_ne _ _ e];exact ts.t0 z hz
  ·intro z x hz
   by_cases e:z=y
   ·subst e;rw[upd_at]at hz;cases hz
   ·rw[upd_ne _ _ e]at hz
    have:=ts.t1 z x hz
    simp only[upd]
    grind
  ·intro z x hz ht htg ha hs
   by_cases e:z=y
   ·subst e;rw[upd_at];have:=y3 x ha hs;omega
   ·rw[upd_ne _ _ e]at ht⊢;exact ts.t2 z x hz ht htg ha hs
  ·intro z hz
   by_cases e:z=y
   ·subst e;rw[upd_at]
   ·rw[upd_ne _ _ e];exact ts.t3 z hz
  ·intro z x l n hm
   simp only[upd2]at hm
   simp only[upd]
   grind [ts.t4 z x l n]
  ·intro z x hm
   simp only[upd2]at hm
   simp only[upd]
   grind [ts.t5 z x,isAns]
  ·intro z x hm
   simp only[upd2]at hm
   simp only[upd]
   grind [ts.t6 z x,isAns]
  ·intro z x hz
   have hzy:z≠y:=by rintro rfl;rw[upd_at]at hz;cases hz
   rw[upd_ne _ _ hzy]at hz
   have h0:=ts.t7 z x hz
   simp only[upd2,upd]
   grind
 ·rw[kX_same]
  ·dsimp only
   refine⟨?_,?_,?_,bs.ov⟩
   ·intro z h1 h2 h3 h4
    by_cases e:z=y
    ·subst e
     simp only[upd_at]at h4⊢
     rcases hb with⟨c1,c2,c3⟩|⟨c1,c2,c3⟩
     ·refine⟨v,c3,y1,Or.inr (Or.inl ⟨y2,c2,x2,x3⟩)⟩
     ·rw[c2]at h4
      obtain⟨v',d1,d2,d3⟩:=bs.bb z h1 h2 h3 h4
      refine⟨v',by rw[c3];exact d1,d2,?_⟩
      rcases d3 with d3|d3|d3
      ·exact Or.inl d3
      ·rw[c2];exact Or.inr (Or.inl d3)
      ·right;right
       have:v'≠z:=by rintro rfl;exact G.irr _ d2
       rw[upd_ne _ _ this,c2];exact d3
    ·simp only[upd_ne _ _ e]at h4⊢
     obtain⟨v',d1,d2,d3⟩:=bs.bb z h1 h2 h3 h4
     refine⟨v',d1,d2,?_⟩
     rcases d3 with d3|d3|d3
     ·exact Or.inl d3
     ·exact Or.inr (Or.inl d3)
     ·right;right
      have:v'≠y:=by grind
      rw[upd_ne _ _ this];exact d3
   ·intro u hu
    have:=bs.k1 u hu
    have hn:u≠y:=by grind
    simp only[upd_ne _ _ hn]
    exact this
   ·intro z c hr
    have h0:=bs.k2 z c hr
    have e1:g.ph z=g.ph c:=(st.f4 z c (by have:=(st.db c z (st.pr c z h0.2.2.2.1.1)).1;exact st.f2 _ _ this)).2.2.1
    have hn:c≠y:=by grind
    have hz:z≠y:=by grind
    simp only[upd_ne _ _ hn,upd_ne _ _ hz]
    exact h0
  ·rw[hq];simp[isRoot]
 ·rw[kX_rem hq rfl];exact pa.upd_ hph.1 hrp _ _
theorem ev_reject{G:Gr}{s:St}{g:Gh}{h:Gs}(hI:Inv G s g h){v y:Nat}{A B:List NMsg}(hq:s.q v y=A++reject::B)(se':Nat→Nat→Nat)(hse:(s.se y v=0∧se'=upd2 s.se y v 2)∨(s.se y v≠0∧se'=s.se)):
 Inv G { s with tst:=upd s.tst y none,se:=se',q:=upd2 s.q v y (A++B)} g { h with tg:=fun x=>x=y∨h.tg x}:=by
 obtain⟨X,hX,hs,hm,hc⟩:=kT_out hq (show (isTest reject||isAns reject)=true from rfl)
 obtain⟨x1,x2,x3⟩:=hI.ts.t6 y v hm
 have hfy:=tst_fnd hI x1
 have haw:=fnd_aw hI hfy
 obtain⟨q0,st,rp,ts,bs,pa⟩:=hI
 obtain⟨y1,y2,y3⟩:=ts.t1 y v x1
 have y4:=ts.t7 y v x1
 have hvy:v≠y:=by rintro rfl;exact G.irr _ y1
 have c1:=hc isAns
 have c2:=hc isTest
 simp only[show isAns reject=true from rfl,show isTest reject=false from rfl,if_true,if_false,Bool.false_eq_true]at c1 c2
 refine⟨q0_rem q0 hq,?_,?_,?_,?_,by rw[kX_rem hq rfl];exact pa⟩
 ·rw[kS_rem hq rfl]
  rcases hse with⟨e,rfl⟩|⟨_,rfl⟩
  ·exact st.rej x2 y1 haw e
  ·exact st
 ·rw[kR_rem hq rfl];exact rp
 ·rw[hX]
  dsimp only
  have n1:=cnt0 (show (kT s.q y v).countP isTest=0 by omega)
  have n2:=cnt0 (show X.countP isAns=0 by omega)
  have n3:s.tst v≠some y→∀m,m∈kT s.q v y→isTest m=false:=fun e=>cnt0 (by rw[if_neg e]at y4;omega)
  have e0:∀a b,se' a b=0→s.se a b=0:=fun a b=>by rcases hse with⟨_,rfl⟩|⟨_,rfl⟩<;>(try simp only[upd2])<;>grind
  have e1:∀a b,¬(a=y∧b=v)→se' a b=s.se a b:=fun a b=>by rcases hse with⟨_,rfl⟩|⟨_,rfl⟩<;>(try simp only[upd2])<;>grind
  have e2:∀a b,s.se a b=1→se' a b=1:=fun a b=>by rcases hse with⟨_,rfl⟩|⟨_,rfl⟩<;>(try simp only[upd2])<;>grind
  refine⟨?_,?_,?_,?_,?_,?_,?_,?_⟩
  ·intro z hz;simp only[upd];have:=ts.t0 z hz;grind
  ·intro z x hz
   have h1:z≠y:=by rintro rfl;simp[upd]at hz
   rw[upd_ne _ _ h1]at hz
   have:=ts.t1 z x hz
   simp only[upd]
   grind
  ·intro z x hz ht htg ha hse
   have h1:z≠y:=by rintro rfl;exact htg (Or.inl rfl)
   rw[upd_ne _ _ h1]at ht
   exact ts.t2 z x hz ht (fun e=>htg (Or.inr e)) ha (e0 _ _ hse)
  ·intro z hz;simp only[upd];have:=ts.t3 z;grind
  ·intro z x l n hm
   have:=ts.t4 z x l n
   simp only[upd2]at hm
   simp only[upd]
   have e3:=e0 z x
   grind [isTest]
  ·intro z x hm
   have:=ts.t5 z x
   simp only[upd2]at hm
   simp only[upd]
   grind [isAns]
  ·intro z x hm
   have:=ts.t6 z x
   simp only[upd2]at hm
   simp only[upd]
   have e3:=e0 x z
   grind [isAns]
  ·intro z x hz
   have hzy:z≠y:=by rintro rfl;rw[upd_at]at hz;cases hz
   rw[upd_ne _ _ hzy]at hz
   have h0:=ts.t7 z x hz
   simp only[upd2,upd]
   grind
 ·rw[kX_rem hq rfl]
  refine⟨?_,bs.k1,bs.k2,bs.ov⟩
  intro z h1 h2 h3 h4
  obtain⟨v',d1,d2,d3⟩:=bs.bb z h1 h2 h3 h4
  refine⟨v',d1,d2,?_⟩
  have e1:∀a b,¬(a=y∧b=v)→se' a b=s.se a b:=fun a b=>by rcases hse with⟨_,rfl⟩|⟨_,rfl⟩<;>(try simp only[upd2])<;>grind
  have:=e1 z v'
  grind
theorem ev_tests{G:Gr}{s:St}{g:Gh}{h:Gs}(hI:Inv G s g h){y k:Nat}(htg:h.tg y)(ha:G.adj y k)(h0:s.se y k=0)(hl:∀x,G.adj y x→s.se y x=0→G.w y k≤G.w y x):
 Inv G { s with tst:=upd s.tst y (some k),q:=addq s.q y k (test (s.lev y) (s.nam y))} g { h with tg:=fun x=>x≠y∧h.tg x}:=by
 have hty:=hI.ts.t3 y htg
 have hfy:s.fnd y=true:=by
  cases e:s.fnd y
  ·exact((hI.ts.t0 y e).2 htg).elim
  ·rfl
 have haw:=fnd_aw hI hfy
 obtain⟨q0,st,rp,ts,bs,pa⟩:=hI
 have hvy:k≠y:=by rintro rfl;exact G.irr _ ha
 refine⟨q0_add q0 ha haw,?_,?_,?_,?_,by rw[kX_add rfl];exact pa⟩
 ·rw[kS_add rfl];exact st
 ·rw[kR_add rfl];exact rp
 ·rw[kT_addT rfl]
  dsimp only
  have m1:∀l n,test l n∉kT s.q y k:=fun l n hm=>by have:=ts.t4 y k l n hm;grind
  have m2:s.tst k≠some y→∀l n,test l n∉kT s.q k y:=fun e l n hm=>by have:=ts.t4 k y l n hm;grind
  have n1:(kT s.q y k).countP isTest=0:=List.countP_eq_zero.2 fun m hm=>by cases m<;>simp[isTest];exact m1 _ _ hm
  have n2:(kT s.q k y).countP isAns=0:=List.countP_eq_zero.2 fun m hm=>by
   have a1:=ts.t5 y k
   have a2:=ts.t6 y k
   cases m<;>simp[isAns]<;>grind
  have n3:s.tst k≠some y→(kT s.q k y).countP isTest=0:=fun e=>List.countP_eq_zero.2 fun m hm=>by cases m<;>simp[isTest];exact m2 e _ _ hm
  refine⟨?_,?_,?_,?_,?_,?_,?_,?_⟩
  ·intro z hz;simp only[upd];have:=ts.t0 z hz;grind
  ·intro z x hz
   simp only[upd]at hz⊢
   have:=ts.t1 z x
   grind
  ·intro z x hz ht htg' ha' hse
   simp only[upd]at ht
   have:=ts.t2 z x
   grind
  ·intro z hz;simp only[upd];have:=ts.t3 z;grind
  ·intro z x l n hm
   have:=ts.t4 z x l n
   simp only[upd2]at hm
   simp only[upd]
   grind
  ·intro z x hm
   have:=ts.t5 z x
   simp only[upd2]at hm
   simp only[upd]
   grind
  ·intro z x hm
   have:=ts.t6 z x
   simp only[upd2]at hm
   simp only[upd]
   grind
  ·intro z x hz
   have h0:=ts.t7 z x
   have e1:(kT s.q y k++[test (s.lev y) (s.nam y)]).countP isTest=1:=by rw[List.countP_append,n1];rfl
   have e2:(kT s.q y k++[test (s.lev y) (s.nam y)]).countP isAns=(kT s.q y k).countP isAns:=by rw[List.countP_append];rfl
   simp only[upd]at hz
   simp only[upd2,upd]
   grind
 ·rw[kX_add rfl];exact bs
theorem ev_tests0{G:Gr}{s:St}{g:Gh}{h:Gs}(hI:Inv G s g h){y:Nat}(h0:∀x,G.adj y x→s.se y x≠0):
 Inv G s g { h with tg:=fun x=>x≠y∧h.tg x}:=by
 obtain⟨q0,st,rp,ts,bs,pa⟩:=hI
 refine⟨q0,st,rp,⟨fun z hz=>⟨(ts.t0 z hz).1,fun e=>(ts.t0 z hz).2 e.2⟩,ts.t1,?_,fun z hz=>ts.t3 z hz.2,ts.t4,ts.t5,ts.t6,ts.t7⟩,bs,pa⟩
 intro z x hz ht htg ha hse
 by_cases e:z=y
 ·subst e;exact(h0 x ha hse).elim
 ·exact ts.t2 z x hz ht (fun e2=>htg ⟨e,e2⟩) ha hse
theorem kT_two{q:Nat→Nat→List NMsg}{y v:Nat}{A B:List NMsg}{m m':NMsg}(hyv:y≠v)(hq:q y v=A++m::B)(hp:(isTest m||isAns m)=true)(hp':(isTest m'||isAns m')=true):∃X,kT (addq (upd2 q y v (A++B)) v y m')=upd2 (upd2 (kT q) y v X) v y (kT q v y++[m'])∧(∀x,x∈X→x∈kT q y v)∧m∈kT q y v∧(∀p:NMsg→Bool,(kT q y v).countP p=X.countP p+(if p m=true then 1 else 0)):=by
 obtain⟨X,h1,h2,h3,h4⟩:=kT_out hq hp
 refine⟨X,?_,h2,h3,h4⟩
 rw[kT_addT hp',h1]
 congr 1
 simp[upd2,hyv.symm]
theorem ev_testA{G:Gr}{s:St}{g:Gh}{h:Gs}(hI:Inv G s g h){v y l n:Nat}{A B:List NMsg}(hq:s.q y v=A++test l n::B)(hv:s.aw v=true)(hl:l≤s.lev v)(hn:n≠s.nam v):
 Inv G { s with q:=addq (upd2 s.q y v (A++B)) v y accept} g h:=by
 have hadj:=(hI.q0 y v (test l n) (by rw[hq];simp)).1
 have hyv:y≠v:=by rintro rfl;exact G.irr _ hadj
 obtain⟨X,hX,hs,hm,hc⟩:=kT_two hyv hq (show (isTest (test l n)||isAns (test l n))=true from rfl) (show (isTest accept||isAns accept)=true from rfl)
 have h4:=hI.ts.t4 y v l n hm
 have x1:s.tst y=some v∧l=s.lev y∧n=s.nam y:=by grind
 obtain⟨x1,x2,x3⟩:=x1
 have hfy:=tst_fnd hI x1
 obtain⟨q0,st,rp,ts,bs,pa⟩:=hI
 have z1:=rp.s1 y hfy
 have z2:=st.p0 y z1.1
 have hnf:¬g.fr y v:=fun e=>by
  have f4:=st.f4 y v e
  have l1:=st.l1 v
  have a1:=st.l2 y
  have a2:=st.l2 v
  grind
 obtain⟨y1,y2,y3⟩:=ts.t1 y v x1
 have y4:=ts.t7 y v x1
 have c1:=hc isAns
 have c2:=hc isTest
 simp only[show isAns (test l n)=false from rfl,show isTest (test l n)=true from rfl,if_true,if_false,Bool.false_eq_true]at c1 c2
 refine⟨q0_add (q0_rem q0 hq) (G.sym _ _ y1) hv,?_,?_,?_,?_,by rw[kX_add rfl,kX_rem hq rfl];exact pa⟩
 ·rw[kS_add rfl,kS_rem hq rfl];exact st
 ·rw[kR_add rfl,kR_rem hq rfl];exact rp
 ·rw[hX]
  dsimp only
  have n1:=cnt0 (show X.countP isTest=0 by omega)
  have e1:(kT s.q v y++[accept]).countP isTest=(kT s.q v y).countP isTest:=by rw[List.countP_append];rfl
  have e2:(kT s.q v y++[accept]).countP isAns=(kT s.q v y).countP isAns+1:=by rw[List.countP_append];rfl
  refine⟨ts.t0,ts.t1,ts.t2,ts.t3,?_,?_,?_,?_⟩
  ·intro z x l n hm
   have:=ts.t4 z x l n
   simp only[upd2]at hm
   grind [isTest]
  ·intro z x hm
   have:=ts.t5 z x
   simp only[upd2]at hm
   grind
  ·intro z x hm
   have:=ts.t6 z x
   simp only[upd2]at hm
   grind
  ·intro z x hz
   have h0:=ts.t7 z x hz
   simp only[upd2]
   grind
 ·rw[kX_add rfl,kX_rem hq rfl];exact bs
theorem Str.same{G:Gr}{aw:Nat→Bool}{lev nam:Nat→Nat}{se:Nat→Nat→Nat}{k:Nat→Nat→List NMsg}{g:Gh}(h:Str G aw lev nam se k g){y v:Nat}(h1:1≤lev y)(h2:1≤lev v)(hn:nam y=nam v):g.fr y v:=by
 obtain⟨a,b,a1,a2,a3,a4⟩:=h.nm1 y h1
 obtain⟨c,d,c1,c2,c3,c4⟩:=h.nm1 v h2
 have e:=G.wd a b c d a1 c1 (by rw[←a3,←c3,hn])
 have f:=(h.db a b a2).1
 have f2:=h.f2
 have f3:=h.f3
 grind
theorem ev_testR{G:Gr}{s:St}{g:Gh}{h:Gs}(hI:Inv G s g h){v y l n:Nat}{A B:List NMsg}(hq:s.q y v=A++test l n::B)(hv:s.aw v=true)(hl:l≤s.lev v)(hn:n=s.nam v)(ht:s.tst v≠some y)(se':Nat→Nat→Nat)(hse:(s.se v y=0∧se'=upd2 s.se v y 2)∨(s.se v y≠0∧se'=s.se)):
 Inv G { s with se:=se',q:=addq (upd2 s.q y v (A++B)) v y reject} g h:=by
 have hadj:=(hI.q0 y v (test l n) (by rw[hq];simp)).1
 have hyv:y≠v:=by rintro rfl;exact G.irr _ hadj
 obtain⟨X,hX,hs,hm,hc⟩:=kT_two hyv hq (show (isTest (test l n)||isAns (test l n))=true from rfl) (show (isTest reject||isAns reject)=true from rfl)
 have h4:=hI.ts.t4 y v l n hm
 have x1:s.tst y=some v∧l=s.lev y∧n=s.nam y:=by grind
 obtain⟨x1,x2,x3⟩:=x1
 have hfy:=tst_fnd hI x1
 obtain⟨q0,st,rp,ts,bs,pa⟩:=hI
 have z1:=rp.s1 y hfy
 have z2:=st.p0 y z1.1
 have hfr:g.fr y v:=st.same (by omega) (by omega) (by rw[←x3,hn])
 obtain⟨y1,y2,y3⟩:=ts.t1 y v x1
 have y4:=ts.t7 y v x1
 have c1:=hc isAns
 have c2:=hc isTest
 simp only[show isAns (test l n)=false from rfl,show isTest (test l n)=true from rfl,if_true,if_false,Bool.false_eq_true]at c1 c2
 have hz:∀a b,se' a b=0→s.se a b=0:=by intro a b;rcases hse with⟨_,rfl⟩|⟨_,rfl⟩<;>(try simp only[upd2])<;>grind
 have hz2:∀a b,s.se a b=0→¬(a=v∧b=y)→se' a b=0:=by intro a b;rcases hse with⟨_,rfl⟩|⟨_,rfl⟩<;>(try simp only[upd2])<;>grind
 have hz3:se' v y≠0:=by rcases hse with⟨_,rfl⟩|⟨_,rfl⟩<;>(try simp only[upd2])<;>grind
 refine⟨q0_add (q0_rem q0 hq) (G.sym _ _ y1) hv,?_,?_,?_,?_,by rw[kX_add rfl,kX_rem hq rfl];exact pa⟩
 ·rw[kS_add rfl,kS_rem hq rfl]
  rcases hse with⟨e,rfl⟩|⟨_,rfl⟩
  ·exact st.rej (st.f2 _ _ hfr) (G.sym _ _ y1) hv e
  ·exact st
 ·rw[kR_add rfl,kR_rem hq rfl];exact rp
 ·rw[hX]
  dsimp only
  have n1:=cnt0 (show X.countP isTest=0 by omega)
  have e1:(kT s.q v y++[reject]).countP isTest=(kT s.q v y).countP isTest:=by rw[List.countP_append];rfl
  have e2:(kT s.q v y++[reject]).countP isAns=(kT s.q v y).countP isAns+1:=by rw[List.countP_append];rfl
  refine⟨ts.t0,?_,?_,ts.t3,?_,?_,?_,?_⟩
  ·intro z x hzx
   have:=ts.t1 z x hzx
   have h11:∀a b,s.se a b=1→se' a b=1:=by intro a b;rcases hse with⟨_,rfl⟩|⟨_,rfl⟩<;>(try simp only[upd2])<;>grind
   grind
  ·intro z x a1 a2 a3 a4 a5
   exact ts.t2 z x a1 a2 a3 a4 (hz _ _ a5)
  ·intro z x l n hm
   have:=ts.t4 z x l n
   have hzz:=hz z x
   simp only[upd2]at hm
   clear hse hz2 hz
   grind [isTest]
  ·intro z x hm
   have:=ts.t5 z x
   simp only[upd2]at hm
   grind
  ·intro z x hm
   have:=ts.t6 z x
   simp only[upd2]at hm
   grind
  ·intro z x hz
   have h0:=ts.t7 z x hz
   simp only[upd2]
   grind
 ·rw[kX_add rfl,kX_rem hq rfl]
  refine⟨?_,bs.k1,bs.k2,bs.ov⟩
  intro z h1 h2 h3 h4
  obtain⟨v',d1,d2,d3⟩:=bs.bb z h1 h2 h3 h4
  refine⟨v',d1,d2,?_⟩
  have f2:=st.f2
  grind
theorem ev_testX{G:Gr}{s:St}{g:Gh}{h:Gs}(hI:Inv G s g h){v y l n:Nat}{A B:List NMsg}(hq:s.q y v=A++test l n::B)(hl:l≤s.lev v)(hn:n=s.nam v)(ht:s.tst v=some y)(se':Nat→Nat→Nat)(hse:(s.se v y=0∧se'=upd2 s.se v y 2)∨(s.se v y≠0∧se'=s.se)):
 Inv G { s with se:=se',tst:=upd s.tst v none,q:=upd2 s.q y v (A++B)} g { h with tg:=fun x=>x=v∨h.tg x}:=by
 have hadj:=(hI.q0 y v (test l n) (by rw[hq];simp)).1
 have hyv:y≠v:=by rintro rfl;exact G.irr _ hadj
 obtain⟨X,hX,hs,hm,hc⟩:=kT_out hq (show (isTest (test l n)||isAns (test l n))=true from rfl)
 have h4:=hI.ts.t4 y v l n hm
 have hfv:=tst_fnd hI ht
 have hav:=fnd_aw hI hfv
 have hfy:s.tst y=some v→s.fnd y=true:=tst_fnd hI
 obtain⟨q0,st,rp,ts,bs,pa⟩:=hI
 have zv:=rp.s1 v hfv
 have zv2:=st.p0 v zv.1
 have hfr:g.fr y v:=by
  rcases h4 with⟨x1,x2,x3⟩|⟨x1,x2,x3,_⟩
  ·have z1:=rp.s1 y (hfy x1)
   have z2:=st.p0 y z1.1
   exact st.same (by omega) (by omega) (by rw[←x3,hn])
  ·exact x3
 obtain⟨y1,y2,y3⟩:=ts.t1 v y ht
 have y4:=ts.t7 v y ht
 have c1:=hc isAns
 have c2:=hc isTest
 simp only[show isAns (test l n)=false from rfl,show isTest (test l n)=true from rfl,if_true,if_false,Bool.false_eq_true]at c1 c2
 have f4:=st.f4 y v hfr
 have f2:=st.f2
 have e0:∀a b,se' a b=0→s.se a b=0:=fun a b=>by rcases hse with⟨_,rfl⟩|⟨_,rfl⟩<;>(try simp only[upd2])<;>grind
 have e1:∀a b,¬(a=v∧b=y)→se' a b=s.se a b:=fun a b=>by rcases hse with⟨_,rfl⟩|⟨_,rfl⟩<;>(try simp only[upd2])<;>grind
 have e2:∀a b,s.se a b=1→se' a b=1:=fun a b=>by rcases hse with⟨_,rfl⟩|⟨_,rfl⟩<;>(try simp only[upd2])<;>grind
 have e3:se' v y≠0:=by rcases hse with⟨_,rfl⟩|⟨_,rfl⟩<;>(try simp only[upd2])<;>grind
 refine⟨q0_rem q0 hq,?_,?_,?_,?_,by rw[kX_rem hq rfl];exact pa⟩
 ·rw[kS_rem hq rfl]
  rcases hse with⟨e,rfl⟩|⟨_,rfl⟩
  ·exact st.rej (st.f2 _ _ hfr) y1 hav e
  ·exact st
 ·rw[kR_rem hq rfl];exact rp
 ·rw[hX]
  dsimp only
  have hown:s.tst y=some v→(kT s.q v y).countP isTest=1∧(kT s.q y v).countP isTest=1:=fun e=>by
   have w1:=ts.t7 y v e
   have hr:(kT s.q y v).countP isAns=0:=List.countP_eq_zero.2 fun m hm=>by
    have a1:=ts.t5 v y
    have a2:=ts.t6 v y
    have a3:s.se y v=0:=by
     rcases (ts.t1 y v e).2.1 with h|h
     ·exact h
     ·exact(h.2.2 ht).elim
    cases m<;>simp[isAns]<;>grind
   rw[if_pos e]at y4
   rw[if_pos ht]at w1
   omega
  have k0:(kT s.q y v).countP isTest=1∧(kT s.q y v).countP isAns=0∧(s.tst y≠some v→(kT s.q v y).countP isTest=0):=by
   by_cases e:s.tst y=some v
   ·have:=hown e
    rw[if_pos e]at y4
    exact⟨by omega,by omega,fun h=>(h e).elim⟩
   ·rw[if_neg e]at y4
    exact⟨by omega,by omega,fun _=>by omega⟩
  have n1:=cnt0 (show X.countP isTest=0 by omega)
  have n2:=cnt0 (show X.countP isAns=0 by omega)
  have n3:s.tst y≠some v→∀m,m∈kT s.q v y→isTest m=false:=fun e=>cnt0 (k0.2.2 e)
  have hown2:s.tst y=some v→s.nam v=s.nam y∧s.lev v≤s.lev y:=fun e=>by
   have z1:=rp.s1 y (hfy e)
   rcases h4 with⟨x1,x2,x3⟩|⟨x1,x2,_⟩
   ·exact⟨by rw[←hn,x3],by omega⟩
   ·exact(x2 e).elim
  refine⟨?_,?_,?_,?_,?_,?_,?_,?_⟩
  ·intro z hz;simp only[upd];have:=ts.t0 z hz;grind
  ·intro z x hz
   simp only[upd]at hz⊢
   have:=ts.t1 z x
   grind
  ·intro z x hz ht' htg ha hse
   simp only[upd]at ht'
   have:=ts.t2 z x
   have:=e0 z x
   grind
  ·intro z hz;simp only[upd];have:=ts.t3 z;grind
  ·intro z x l' n' hm'
   have b1:=ts.t4 z x l' n'
   simp only[upd2]at hm'
   simp only[upd]
   have e9:=e0 z x
   by_cases e1':z=y∧x=v
   ·rw[if_pos e1']at hm'
    have:=n1 _ hm'
    simp[isTest]at this
   ·rw[if_neg e1']at hm'
    have b2:=b1 hm'
    by_cases e2:z=v
    ·subst e2
     have b3:s.tst z≠some y→False:=fun e=>e ht
     rcases b2 with⟨w1,w2,w3⟩|⟨w1,w2,w3⟩
     ·have:x=y:=by grind
      subst this
      by_cases e3':s.tst x=some z
      ·right
       have:=hown2 e3'
       simp[hyv]
       exact⟨e3',f2 _ _ hfr,by rw[w3];exact this.1,by omega,e3⟩
      ·have:=n3 e3' _ hm'
       simp[isTest]at this
     ·grind
    ·grind
  ·intro z x hm
   have:=ts.t5 z x
   simp only[upd2]at hm
   simp only[upd]
   grind
  ·intro z x hm
   have:=ts.t6 z x
   have e9:=e0 x z
   simp only[upd2]at hm
   simp only[upd]
   grind [isAns]
  ·intro z x hz
   have hzv:z≠v:=by rintro rfl;simp[upd]at hz
   rw[upd_ne _ _ hzv]at hz
   have h0:=ts.t7 z x hz
   simp only[upd2,upd]
   by_cases e1:z=y∧x=v
   ·obtain⟨rfl,rfl⟩:=e1
    have:=hown hz
    have e5:(kT s.q x z).countP isAns=0:=by rw[if_pos ht]at h0;omega
    simp[hyv,hyv.symm]
    omega
   ·grind
 ·rw[kX_rem hq rfl]
  refine⟨?_,bs.k1,bs.k2,bs.ov⟩
  intro z h1 h2 h3 h4
  obtain⟨v',d1,d2,d3⟩:=bs.bb z h1 h2 h3 h4
  refine⟨v',d1,d2,?_⟩
  have:=e1 z v'
  grind
end Go.Proofs.YtlfijfodklhplaaGreat.Ghs
