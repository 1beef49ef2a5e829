import Derived.Test.YtlfijfodklhplaaGreatTn02
import Derived.Test.YtlfijfodklhplaaGreatTn01
set_option linter.unusedVariables false
set_option linter.unusedSimpArgs false
namespace Go.Proofs.YtlfijfodklhplaaGreat
open Go.RowKit
theorem run_append_rvS{P:Program}(w:World)(t ty e:TypeId)(z:Value)(size bytes:Nat)(ht:P.underlying t=some (.slice e))(hinfo:(P.info? e).map (fun i=>(i.zero,i.size,i.bytes))=some (some z,size,bytes))(hzs:z.cells.size=size)
 (a:Option Addr) (n c:Nat) (vs:List Value) (hb:RV w e size a n c vs) (ad:Addr) (m c':Nat) (h0:0<m) (news:List Value) (hm:news.length=m * size)
 (hc:∀j u,news[j]?=some u→w.cell? (ad.add j)=some u) (h1:∀u∈news,u.oneCell'=true) (hbytes:(n+m) * bytes≤140737488355328) (h63:n+m≤9223372036854775807):
 ∃a' k' w',(Builtin.append_ #[t,t] ty #[.slice a n c,.slice (some ad) m c']).run P w=.ok (.slice a' (n+m) k') w'∧RV w' e size a' (n+m) k' (vs++news)∧((a'=a∧k'=c)∨(a'=some ⟨w.heap.size,0,none⟩∧Keep nil w w'))∧Keep (inB a) w w':=by
 obtain⟨hn,hnc,hb⟩:=hb
 have hlen:(vs++news).length=(n+m) * size:=by rw[List.length_append,hn,hm,Nat.add_mul]
 rcases hb with⟨rfl,rfl,rfl⟩|⟨g,o,rfl,hb⟩
 ·have hv:vs=[]:=List.eq_nil_of_length_eq_zero (by simpa using hn)
  subst hv
  rw[Nat.zero_add]at hbytes h63⊢
  obtain⟨k',w',hr,h2,h3,h4⟩:=run_append_new (P:=P) w t ty e z size bytes ht hinfo hzs ad m c' h0 news hm hc hbytes h63
  obtain⟨sp,hbl,hsp⟩:=h2
  refine⟨_,k',w',hr,⟨by simpa using hm,h3,Or.inr ⟨w.heap.size,0,rfl,[],sp,by simpa using hbl,rfl,by simp at hsp⊢;omega⟩⟩,Or.inr ⟨rfl,h4⟩,h4.mono (fun _ _ e=>e.elim)⟩
 ·obtain⟨i,hi,hz,hs,hby⟩:=info_parts hinfo
  have hb0:=hb
  obtain⟨pre,sp,hbl,rfl,hl⟩:=hb
  by_cases hroom:n+m≤c
  ·have hsp:m * size≤sp.length:=by
    have:(n+m) * size≤c * size:=Nat.mul_le_mul_right _ hroom
    rw[Nat.add_mul]at this;omega
   have hr:=run_append_room_at (P:=P) w t ty e i ht hi g pre.length n c (pre++vs++sp).toArray hbl ad m c' news (by rw[hm,hs]) hc h1 hroom (by simp[hs,hm,hn];omega)
   refine⟨_,c,_,hr,⟨hlen,hroom,Or.inr ⟨g,pre.length,rfl,pre,sp.drop (m * size),?_,rfl,by simp[hm,hn];omega⟩⟩,Or.inl ⟨rfl,rfl⟩,?_⟩
   ·unfold Blk at hbl⊢
    rw[setRow_heap w g _ _ _ _ hbl]
    have e1:(pre++vs++sp).take (pre.length+n * i.size)=pre++vs:=by rw[hs,←hn,←List.length_append];exact List.take_left
    have e2:(pre++vs++sp).drop (pre.length+n * i.size+news.length)=sp.drop (m * size):=by rw[hs,←hn,hm,←List.length_append,List.drop_append,List.drop_of_length_le (by omega)];simp
    rw[e1,e2];simp
   ·exact⟨rfl,rfl,rfl,by simp[World.setRow],fun k hk hn=>setRow_other w g k _ (fun e=>hn (inB_some.2 e))⟩
  ·have hg:c<n+m:=by omega
   have hr:=run_append_grow (P:=P) w t ty e i z ht hi hz ⟨g,pre.length,none⟩ n c vs (by rw[hn,hs]) (fun j v hv=>by
    rw[Addr.add_lit];exact hb0.cell j v hv) ad m c' news (by rw[hm,hs]) hc hg (by omega) (by rw[hby];exact growslice_fits hg hbytes)
   have hge:=grownCap_ge w (n+m) c e
   refine⟨_,_,_,hr,⟨hlen,hge,Or.inr ⟨w.heap.size,0,rfl,[],(Builtin.zeroCells z.cells (grownCap w (n+m) c e - (n+m))).toList,?_,rfl,?_⟩⟩,Or.inr ⟨rfl,((Keep.refl _ w).drew).alloc _⟩,((Keep.refl _ w).drew).alloc _⟩
   ·have:=Blk.new w.drew (vs.toArray++news.toArray++Builtin.zeroCells z.cells (grownCap w (n+m) c e - (n+m))) e
    have e3:vs.toArray++news.toArray++Builtin.zeroCells z.cells (grownCap w (n+m) c e - (n+m))=([]++(vs++news)++(Builtin.zeroCells z.cells (grownCap w (n+m) c e - (n+m))).toList).toArray:=by
     apply Array.ext';simp
    rw[e3]at this⊢
    exact this
   ·rw[zero_len,hzs,List.length_append,hn,hm,←Nat.add_mul,←Nat.add_mul]
    exact Nat.mul_le_mul_right _ (by omega)
theorem wpList_append_rvS{P:Program}(w:World){ops:Array Oper}{rest:List Oper}{o:Oper}{a:Act}{Q:Exit→Act→World→Prop}
 (hg:o.guard=none) (s x:Operand) (t:TypeId) (hop:o.op=Op.call { callee:=Callee.builtin Builtin.append,args:=#[s,x],argTypes:=#[t,t]})
 (e:TypeId) (z:Value) (size bytes:Nat) (ht:P.underlying t=some (.slice e)) (hinfo:(P.info? e).map (fun i=>(i.zero,i.size,i.bytes))=some (some z,size,bytes)) (hzs:z.cells.size=size)
 (sa:Option Addr) (n c:Nat) (hs:a.eval s=.slice sa n c) (vs:List Value) (hb:RV w e size sa n c vs) (ad:Addr) (m c':Nat) (h0:0<m) (hx:a.eval x=.slice (some ad) m c') (news:List Value) (hm:news.length=m * size)
 (hc:∀j u,news[j]?=some u→w.cell? (ad.add j)=some u) (h1:∀u∈news,u.oneCell'=true) (hbytes:(n+m) * bytes≤140737488355328) (h63:n+m≤9223372036854775807)
 (hK:∀a' k' w',RV w' e size a' (n+m) k' (vs++news)→((a'=sa∧k'=c)∨(a'=some ⟨w.heap.size,0,none⟩∧Keep nil w w'))→Keep (inB sa) w w'→wpList P ops Q rest (a.put o.dst (.slice a' (n+m) k')) w'):
 wpList P ops Q (o::rest) a w:=by
 refine wpList_plain hg fun K hK'=>?_
 obtain⟨a',k',w',hrun,r1,r2,r3⟩:=run_append_rvS (P:=P) w t o.type e z size bytes ht hinfo hzs sa n c vs hb ad m c' h0 news hm hc h1 hbytes h63
 unfold Oper.wp
 simp[execOp,hop,resolve,invoke,builtin,hs,hx,hrun,Result.andThen]
 exact hK' _ _ (hK a' k' w' r1 r2 r3)
theorem step_append_rvS{P:Program}{ops:Array Oper}{o:Oper}{a:Act}{w:World}{K:Act→World→Prop}{Q:Exit→Act→World→Prop}{E:Prop}
 (hg:o.guard=none) (s x:Operand) (t:TypeId) (hop:o.op=Op.call { callee:=Callee.builtin Builtin.append,args:=#[s,x],argTypes:=#[t,t]})
 (e:TypeId) (z:Value) (size bytes:Nat) (ht:P.underlying t=some (.slice e)) (hinfo:(P.info? e).map (fun i=>(i.zero,i.size,i.bytes))=some (some z,size,bytes)) (hzs:z.cells.size=size)
 (sa:Option Addr) (n c:Nat) (hs:a.eval s=.slice sa n c) (vs:List Value) (hb:RV w e size sa n c vs) (ad:Addr) (m c':Nat) (h0:0<m) (hx:a.eval x=.slice (some ad) m c') (news:List Value) (hm:news.length=m * size)
 (hc:∀j u,news[j]?=some u→w.cell? (ad.add j)=some u) (h1:∀u∈news,u.oneCell'=true) (hbytes:(n+m) * bytes≤140737488355328) (h63:n+m≤9223372036854775807)
 (hK:∀a' k' w',RV w' e size a' (n+m) k' (vs++news)→((a'=sa∧k'=c)∨(a'=some ⟨w.heap.size,0,none⟩∧Keep nil w w'))→Keep (inB sa) w w'→K (a.put o.dst (.slice a' (n+m) k')) w'):
 if Region.wanted o (yielded ops a.tmps)=true then Oper.wp P o a w K Q else E:=by
 have hw:Region.wanted o (yielded ops a.tmps)=true:=by simp[Region.wanted,hg]
 rw[if_pos hw]
 obtain⟨a',k',w',hrun,r1,r2,r3⟩:=run_append_rvS (P:=P) w t o.type e z size bytes ht hinfo hzs sa n c vs hb ad m c' h0 news hm hc h1 hbytes h63
 unfold Oper.wp
 simp[execOp,hop,resolve,invoke,builtin,hs,hx,hrun,Result.andThen]
 exact hK a' k' w' r1 r2 r3
structure Ed where
 a:Int
 b:Int
 wt:Int
def Ed.cells(e:Ed):List Value:=[.int .i64 e.a,.int .i64 e.b,.int .i64 e.wt]
def ecells(l:List Ed):List Value:=l.flatMap Ed.cells
theorem ecells_len(l:List Ed):(ecells l).length=l.length * 3:=by
 induction l with
 |nil=>rfl
 |cons e t ih=>simp only[ecells,List.flatMap_cons,List.length_append,List.length_cons]at ih⊢;rw[ih];simp[Ed.cells];omega
theorem ecells_one(l:List Ed):∀u∈ecells l,u.oneCell'=true:=by
 intro u hu
 obtain⟨e,_,h⟩:=List.mem_flatMap.1 hu
 simp only[Ed.cells,List.mem_cons,List.not_mem_nil,or_false]at h
 rcases h with rfl|rfl|rfl<;>rfl
def ERow(w:World)(b o:Nat)(l:List Ed):Prop:=∀j u,(ecells l)[j]?=some u→w.cell? ⟨b,o+j,none⟩=some u
theorem ERow.keep{ex:Nat→Prop}{w w':World}{b o:Nat}{l:List Ed}(h:ERow w b o l)(k:Keep ex w w')(hb:b<w.heap.size)(hn:¬ex b):ERow w' b o l:=fun j u hu=>(k.cell b (o+j) hb hn).trans (h j u hu)
theorem cells_erow{w:World}{b o:Nat}{l:List Ed}(h:ERow w b o l):∀j u,(ecells l)[j]?=some u→w.cell? ((⟨b,o,none⟩:Addr).add j)=some u:=fun j u hu=>by
 rw[Addr.add_lit];exact h j u hu
theorem edge_info:(Tryz.prog.info? 30).map (fun i=>(i.zero,i.size,i.bytes))=some (some (.agg #[.int .i64 0,.int .i64 0,.int .i64 0]),3,24):=by kernel_rfl
theorem cells_elist(w:World)(vs:List Value)(t:TypeId)(n:Nat)(hn:n=w.heap.size):∀j u,vs[j]?=some u→(w.alloc (.cells vs.toArray t)).cell? ((⟨n,0,none⟩:Addr).add j)=some u:=by
 intro j u hu
 subst hn
 rw[Addr.add_lit,Nat.zero_add,World.cell?_alloc_new,List.getElem?_toArray]
 exact hu
end Go.Proofs.YtlfijfodklhplaaGreat
