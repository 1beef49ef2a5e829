import Derived.Test.YtlfijfodklhplaaGreatTn01
set_option maxHeartbeats 1000000
set_option linter.unusedVariables false
set_option linter.unusedSimpArgs false
namespace Go.Proofs.YtlfijfodklhplaaGreat
open Go.RowKit
theorem cells_list(w:World)(vs:List Value)(t:TypeId)(n:Nat)(hn:n=w.heap.size):∀j u,vs[j]?=some u→(w.alloc (.cells vs.toArray t)).cell? ((⟨n,0,none⟩:Addr).add j)=some u:=by
 intro j u hu
 subst hn
 rw[Addr.add_lit,Nat.zero_add,World.cell?_alloc_new,List.getElem?_toArray]
 exact hu
def VBo(w:World)(g o:Nat)(e:TypeId)(size:Nat)(vs:List Value)(c:Nat):Prop:=∃pre sp:List Value,Blk w g (pre++vs++sp).toArray e∧pre.length=o∧c * size≤vs.length+sp.length
theorem VBo.keep{ex:Nat→Prop}{w w':World}{g o:Nat}{e:TypeId}{size:Nat}{vs:List Value}{c:Nat}(h:VBo w g o e size vs c)(k:Keep ex w w')(hn:¬ex g):VBo w' g o e size vs c:=
 let ⟨pre,sp,hb,hc⟩:=h;⟨pre,sp,hb.keep k hn,hc⟩
theorem VBo.lt{w:World}{g o:Nat}{e:TypeId}{size:Nat}{vs:List Value}{c:Nat}(h:VBo w g o e size vs c):g<w.heap.size:=let ⟨_,_,hb,_⟩:=h;hb.lt
theorem VBo.cell{w:World}{g o:Nat}{e:TypeId}{size:Nat}{vs:List Value}{c:Nat}(h:VBo w g o e size vs c)(i:Nat)(u:Value)(hu:vs[i]?=some u):w.cell? ⟨g,o+i,none⟩=some u:=by
 obtain⟨pre,sp,hb,rfl,_⟩:=h
 have hi:=(List.getElem?_eq_some_iff.1 hu).1
 rw[hb.cell,List.getElem?_toArray,List.append_assoc,List.getElem?_append_right (by omega),List.getElem?_append_left (by omega),←hu]
 congr 1;omega
theorem VBo.frozen{w:World}{g o:Nat}{e:TypeId}{size:Nat}{vs:List Value}{c:Nat}(h:VBo w g o e size vs c)(i:Nat):w.frozen? ⟨g,i,none⟩=false:=let ⟨_,_,hb,_⟩:=h;hb.frozen i
theorem VBo.drop{w:World}{g o:Nat}{e:TypeId}{size:Nat}{vs:List Value}{c:Nat}(h:VBo w g o e size vs c)(n:Nat)(hn:n * size≤vs.length):VBo w g (o+n * size) e size (vs.drop (n * size)) (c - n):=by
 obtain⟨pre,sp,hb,rfl,hl⟩:=h
 refine⟨pre++vs.take (n * size),sp,?_,by simp;omega,?_⟩
 ·rw[List.append_assoc pre,List.take_append_drop];exact hb
 ·rw[List.length_drop,Nat.sub_mul];omega
theorem VBo.stop{w:World}{g o:Nat}{e:TypeId}{size:Nat}{vs:List Value}{c:Nat}(h:VBo w g o e size vs c):VBo w g o e size [] 0:=by
 obtain⟨pre,sp,hb,hl,_⟩:=h
 exact⟨pre,vs++sp,by simpa using hb,hl,by simp⟩
def inB(a:Option Addr)(k:Nat):Prop:=∃o,a=some ⟨k,o,none⟩
theorem inB_none(k:Nat):¬inB none k:=fun⟨_,h⟩=>by cases h
theorem inB_some{g o k:Nat}:inB (some ⟨g,o,none⟩) k↔k=g:=⟨fun⟨_,h⟩=>by cases h;rfl,fun h=>⟨o,by rw[h]⟩⟩
theorem inB_self(g o:Nat):inB (some ⟨g,o,none⟩) g:=⟨o,rfl⟩
def RV(w:World)(e:TypeId)(size:Nat)(a:Option Addr)(n c:Nat)(vs:List Value):Prop:=
 vs.length=n * size∧n≤c∧((a=none∧n=0∧c=0)∨∃g o,a=some ⟨g,o,none⟩∧VBo w g o e size vs c)
theorem RV.keep{ex:Nat→Prop}{w w':World}{e:TypeId}{size:Nat}{a:Option Addr}{n c:Nat}{vs:List Value}(h:RV w e size a n c vs)(k:Keep ex w w')(hn:∀g,inB a g→¬ex g):RV w' e size a n c vs:=by
 obtain⟨h1,h2,h3⟩:=h
 refine⟨h1,h2,?_⟩
 rcases h3 with h3|⟨g,o,rfl,hb⟩
 ·exact Or.inl h3
 ·exact Or.inr ⟨g,o,rfl,hb.keep k (hn g (inB_self g o))⟩
theorem RV.lt{w:World}{e:TypeId}{size:Nat}{a:Option Addr}{n c:Nat}{vs:List Value}(h:RV w e size a n c vs):∀g,inB a g→g<w.heap.size:=by
 obtain⟨_,_,h3⟩:=h
 rintro g ⟨o,rfl⟩
 rcases h3 with⟨h3,_⟩|⟨g',o',h,hb⟩
 ·cases h3
 ·cases h;exact hb.lt
theorem RV.drew{w:World}{e:TypeId}{size:Nat}{a:Option Addr}{n c:Nat}{vs:List Value}(h:RV w e size a n c vs):RV w.drew e size a n c vs:=h
theorem RV.alloc{w:World}{e:TypeId}{size:Nat}{a:Option Addr}{n c:Nat}{vs:List Value}(h:RV w e size a n c vs)(o:Obj):RV (w.alloc o) e size a n c vs:=h.keep ((Keep.refl nil w).alloc o) (fun _ _ e=>e)
theorem RV.nil(w:World)(e:TypeId)(size:Nat):RV w e size none 0 0 []:=⟨by simp,Nat.le_refl _,Or.inl ⟨rfl,rfl,rfl⟩⟩
theorem run_append_room_at{P:Program}(w:World)(t ty e:TypeId)(i:TypeInfo)(ht:P.underlying t=some (.slice e))(hi:P.info? e=some i)
 (g o sLen sCap:Nat) (cur:Array Value) (hg:w.heap[g]?=some (.cells cur e (0,0)))
 (a:Addr) (m c:Nat) (news:List Value) (hl:news.length=m * i.size) (hnews:∀j u,news[j]?=some u→w.cell? (a.add j)=some u) (h1:∀u∈news,u.oneCell'=true)
 (hroom:sLen+m≤sCap) (hfit:o+sLen * i.size+news.length≤cur.size):
 (Builtin.append_ #[t,t] ty #[.slice (some ⟨g,o,none⟩) sLen sCap,.slice (some a) m c]).run P w=
  .ok (.slice (some ⟨g,o,none⟩) (sLen+m) sCap) (w.setRow g (cur.toList.take (o+sLen * i.size)++news++cur.toList.drop (o+sLen * i.size+news.length)).toArray):=by
 have hf:=run_firstCells_some (P:=P) w i.size m a m c news hl hnews
 have hst:=run_storeCells_at P g (o+sLen * i.size) e news 0 cur w hg (by simpa using hfit) h1
 simp only[Nat.add_zero]at hst
 simp[Builtin.append_,run_underlying ht,sizeOf,typeInfo,hi,Builtin.lenOf,hroom,hf,Addr.add_lit,hst]
theorem run_append_rv{P:Program}(w:World)(t ty e:TypeId)(z:Value)(size bytes:Nat)(ht:P.underlying t=some (.slice e))(hinfo:(P.info? e).map (fun i=>(i.zero,i.size,i.bytes))=some (some z,size,bytes))(hzs:z.cells.size=size)
 (a:Option Addr) (n c:Nat) (vs:List Value) (hb:RV w e size a n c vs) (ad:Addr) (m c':Nat) (h0:0<m) (news:List Value) (hm:news.length=m * size)
 (hc:∀j u,news[j]?=some u→w.cell? (ad.add j)=some u) (h1:∀u∈news,u.oneCell'=true) (hbytes:(n+m) * bytes≤140737488355328) (h63:n+m≤9223372036854775807):
 ∃a' k' w',(Builtin.append_ #[t,t] ty #[.slice a n c,.slice (some ad) m c']).run P w=.ok (.slice a' (n+m) k') w'∧RV w' e size a' (n+m) k' (vs++news)∧(∀g,inB a' g→inB a g∨g=w.heap.size)∧Keep (inB a) w w':=by
 obtain⟨hn,hnc,hb⟩:=hb
 have hlen:(vs++news).length=(n+m) * size:=by rw[List.length_append,hn,hm,Nat.add_mul]
 rcases hb with⟨rfl,rfl,rfl⟩|⟨g,o,rfl,hb⟩
 ·have hv:vs=[]:=List.eq_nil_of_length_eq_zero (by simpa using hn)
  subst hv
  rw[Nat.zero_add]at hbytes h63⊢
  obtain⟨k',w',hr,h2,h3,h4⟩:=run_append_new (P:=P) w t ty e z size bytes ht hinfo hzs ad m c' h0 news hm hc hbytes h63
  obtain⟨sp,hbl,hsp⟩:=h2
  refine⟨_,k',w',hr,⟨by simpa using hm,h3,Or.inr ⟨w.heap.size,0,rfl,[],sp,by simpa using hbl,rfl,by simp at hsp⊢;omega⟩⟩,fun g hg=>Or.inr (inB_some.1 hg),h4.mono (fun _ _ e=>e.elim)⟩
 ·obtain⟨i,hi,hz,hs,hby⟩:=info_parts hinfo
  have hb0:=hb
  obtain⟨pre,sp,hbl,rfl,hl⟩:=hb
  by_cases hroom:n+m≤c
  ·have hsp:m * size≤sp.length:=by
    have:(n+m) * size≤c * size:=Nat.mul_le_mul_right _ hroom
    rw[Nat.add_mul]at this;omega
   have hr:=run_append_room_at (P:=P) w t ty e i ht hi g pre.length n c (pre++vs++sp).toArray hbl ad m c' news (by rw[hm,hs]) hc h1 hroom (by simp[hs,hm,hn];omega)
   refine⟨_,c,_,hr,⟨hlen,hroom,Or.inr ⟨g,pre.length,rfl,pre,sp.drop (m * size),?_,rfl,by simp[hm,hn];omega⟩⟩,fun k hk=>Or.inl hk,?_⟩
   ·unfold Blk at hbl⊢
    rw[setRow_heap w g _ _ _ _ hbl]
    have e1:(pre++vs++sp).take (pre.length+n * i.size)=pre++vs:=by rw[hs,←hn,←List.length_append];exact List.take_left
    have e2:(pre++vs++sp).drop (pre.length+n * i.size+news.length)=sp.drop (m * size):=by rw[hs,←hn,hm,←List.length_append,List.drop_append,List.drop_of_length_le (by omega)];simp
    rw[e1,e2];simp
   ·exact⟨rfl,rfl,rfl,by simp[World.setRow],fun k hk hn=>setRow_other w g k _ (fun e=>hn (inB_some.2 e))⟩
  ·have hg:c<n+m:=by omega
   have hr:=run_append_grow (P:=P) w t ty e i z ht hi hz ⟨g,pre.length,none⟩ n c vs (by rw[hn,hs]) (fun j v hv=>by
    rw[Addr.add_lit];exact hb0.cell j v hv) ad m c' news (by rw[hm,hs]) hc hg (by omega) (by rw[hby];exact growslice_fits hg hbytes)
   have hge:=grownCap_ge w (n+m) c e
   refine⟨_,_,_,hr,⟨hlen,hge,Or.inr ⟨w.heap.size,0,rfl,[],(Builtin.zeroCells z.cells (grownCap w (n+m) c e - (n+m))).toList,?_,rfl,?_⟩⟩,fun k hk=>Or.inr (inB_some.1 hk),((Keep.refl _ w).drew).alloc _⟩
   ·have:=Blk.new w.drew (vs.toArray++news.toArray++Builtin.zeroCells z.cells (grownCap w (n+m) c e - (n+m))) e
    have e3:vs.toArray++news.toArray++Builtin.zeroCells z.cells (grownCap w (n+m) c e - (n+m))=([]++(vs++news)++(Builtin.zeroCells z.cells (grownCap w (n+m) c e - (n+m))).toList).toArray:=by
     apply Array.ext';simp
    rw[e3]at this⊢
    exact this
   ·rw[zero_len,hzs,List.length_append,hn,hm,←Nat.add_mul,←Nat.add_mul]
    exact Nat.mul_le_mul_right _ (by omega)
theorem wpList_append_rv{P:Program}(w:World){ops:Array Oper}{rest:List Oper}{o:Oper}{a:Act}{Q:Exit→Act→World→Prop}
 (hg:o.guard=none) (s x:Operand) (t:TypeId) (hop:o.op=Op.call { callee:=Callee.builtin Builtin.append,args:=#[s,x],argTypes:=#[t,t]})
 (e:TypeId) (z:Value) (size bytes:Nat) (ht:P.underlying t=some (.slice e)) (hinfo:(P.info? e).map (fun i=>(i.zero,i.size,i.bytes))=some (some z,size,bytes)) (hzs:z.cells.size=size)
 (sa:Option Addr) (n c:Nat) (hs:a.eval s=.slice sa n c) (vs:List Value) (hb:RV w e size sa n c vs) (ad:Addr) (m c':Nat) (h0:0<m) (hx:a.eval x=.slice (some ad) m c') (news:List Value) (hm:news.length=m * size)
 (hc:∀j u,news[j]?=some u→w.cell? (ad.add j)=some u) (h1:∀u∈news,u.oneCell'=true) (hbytes:(n+m) * bytes≤140737488355328) (h63:n+m≤9223372036854775807)
 (hK:∀a' k' w',RV w' e size a' (n+m) k' (vs++news)→(∀g,inB a' g→inB sa g∨g=w.heap.size)→Keep (inB sa) w w'→wpList P ops Q rest (a.put o.dst (.slice a' (n+m) k')) w'):
 wpList P ops Q (o::rest) a w:=by
 refine wpList_plain hg fun K hK'=>?_
 obtain⟨a',k',w',hrun,r1,r2,r3⟩:=run_append_rv (P:=P) w t o.type e z size bytes ht hinfo hzs sa n c vs hb ad m c' h0 news hm hc h1 hbytes h63
 unfold Oper.wp
 simp[execOp,hop,resolve,invoke,builtin,hs,hx,hrun,Result.andThen]
 exact hK' _ _ (hK a' k' w' r1 r2 r3)
theorem step_append_rv{P:Program}{ops:Array Oper}{o:Oper}{a:Act}{w:World}{K:Act→World→Prop}{Q:Exit→Act→World→Prop}{E:Prop}
 (hg:o.guard=none) (s x:Operand) (t:TypeId) (hop:o.op=Op.call { callee:=Callee.builtin Builtin.append,args:=#[s,x],argTypes:=#[t,t]})
 (e:TypeId) (z:Value) (size bytes:Nat) (ht:P.underlying t=some (.slice e)) (hinfo:(P.info? e).map (fun i=>(i.zero,i.size,i.bytes))=some (some z,size,bytes)) (hzs:z.cells.size=size)
 (sa:Option Addr) (n c:Nat) (hs:a.eval s=.slice sa n c) (vs:List Value) (hb:RV w e size sa n c vs) (ad:Addr) (m c':Nat) (h0:0<m) (hx:a.eval x=.slice (some ad) m c') (news:List Value) (hm:news.length=m * size)
 (hc:∀j u,news[j]?=some u→w.cell? (ad.add j)=some u) (h1:∀u∈news,u.oneCell'=true) (hbytes:(n+m) * bytes≤140737488355328) (h63:n+m≤9223372036854775807)
 (hK:∀a' k' w',RV w' e size a' (n+m) k' (vs++news)→(∀g,inB a' g→inB sa g∨g=w.heap.size)→Keep (inB sa) w w'→K (a.put o.dst (.slice a' (n+m) k')) w'):
 if Region.wanted o (yielded ops a.tmps)=true then Oper.wp P o a w K Q else E:=by
 have hw:Region.wanted o (yielded ops a.tmps)=true:=by simp[Region.wanted,hg]
 rw[if_pos hw]
 obtain⟨a',k',w',hrun,r1,r2,r3⟩:=run_append_rv (P:=P) w t o.type e z size bytes ht hinfo hzs sa n c vs hb ad m c' h0 news hm hc h1 hbytes h63
 unfold Oper.wp
 simp[execOp,hop,resolve,invoke,builtin,hs,hx,hrun,Result.andThen]
 exact hK a' k' w' r1 r2 r3
def put(c:Array Value)(o:Nat)(l:List Value):Array Value:=(c.toList.take o++l++c.toList.drop (o+l.length)).toArray
theorem put_size(c:Array Value)(o:Nat)(l:List Value)(h:o+l.length≤c.size):(put c o l).size=c.size:=by
 simp[put];omega
theorem put_get(c:Array Value)(o:Nat)(l:List Value)(h:o+l.length≤c.size)(i:Nat)(hi:i<l.length):(put c o l)[o+i]?=l[i]?:=by
 have h1:(c.toList.take o).length=o:=by simp;omega
 rw[put,List.getElem?_toArray,List.append_assoc,List.getElem?_append_right (by omega),h1,List.getElem?_append_left (by omega)]
 congr 1;omega
theorem put_set(c:Array Value)(o:Nat)(l:List Value)(h:o+l.length≤c.size)(i:Nat)(hi:i<l.length)(v:Value):(put c o l).setIfInBounds (o+i) v=put c o (l.set i v):=by
 have h1:(c.toList.take o).length=o:=by simp;omega
 apply Array.ext'
 simp only[put,Array.toList_setIfInBounds,List.length_set]
 rw[List.append_assoc,List.append_assoc,List.set_append_right _ _ (by omega),h1,List.set_append_left _ _ (by omega)]
 congr 3;omega
theorem Blk.at{w:World}{b:Nat}{c:Array Value}{t:TypeId}{o:Nat}{l:List Value}(h:Blk w b (put c o l) t)(hf:o+l.length≤c.size)(i:Nat)(v:Value)(hv:l[i]?=some v):w.cell? ⟨b,o+i,none⟩=some v:=by
 rw[h.cell,put_get c o l hf i (List.getElem?_eq_some_iff.1 hv).1,hv]
theorem Blk.put_at{w:World}{b:Nat}{c:Array Value}{t:TypeId}{o:Nat}{l:List Value}(h:Blk w b (put c o l) t)(hf:o+l.length≤c.size)(i:Nat)(hi:i<l.length)(v:Value):Blk (w.setCell ⟨b,o+i,none⟩ v) b (put c o (l.set i v)) t:=by
 rw[←put_set c o l hf i hi v]
 exact h.set (o+i) v
structure Rd(w:World)(rb:Nat)(bb bo cap:Nat)(l:List Nat)(k:Nat):Prop where
 blk:Blk w rb #[.slice (some ⟨bb,bo,none⟩) l.length cap,.int .i64 (k:Int)] 330
 row:Row w bb bo l
 ne:bb≠rb
 bb:bb<w.heap.size
 len:l.length<140737488355328
 byte:∀x∈l,x<256
theorem Rd.keep{ex:Nat→Prop}{w w':World}{rb bb bo cap:Nat}{l:List Nat}{k:Nat}(h:Rd w rb bb bo cap l k)(g:Keep ex w w')(h1:¬ex rb)(h2:¬ex bb):Rd w' rb bb bo cap l k:=
 ⟨h.blk.keep g h1,h.row.keep g h.bb h2,h.ne,Nat.lt_of_lt_of_le h.bb g.size,h.len,h.byte⟩
theorem Rd.next{w:World}{rb bb bo cap:Nat}{l:List Nat}{k:Nat}(h:Rd w rb bb bo cap l k):Rd (w.setCell ⟨rb,1,none⟩ (.int .i64 ((k:Int)+1))) rb bb bo cap l (k+1):=by
 have hk:Keep (only rb) w (w.setCell ⟨rb,1,none⟩ (.int .i64 ((k:Int)+1))):=(Keep.refl (only rb) w).setCell (p:=⟨rb,1,none⟩) (fun _=>rfl) _
 exact⟨by simpa using h.blk.set 1 (.int .i64 ((k:Int)+1)),h.row.keep hk h.bb h.ne,h.ne,by simpa using h.bb,h.len,h.byte⟩
theorem Rd.drewN{w:World}{rb bb bo cap:Nat}{l:List Nat}{k:Nat}(h:Rd w rb bb bo cap l k)(n:Nat):Rd (w.drewN n) rb bb bo cap l k:=
 h.keep ((Keep.refl nil w).drewN n) (fun e=>e) (fun e=>e)
theorem Rd.alloc{w:World}{rb bb bo cap:Nat}{l:List Nat}{k:Nat}(h:Rd w rb bb bo cap l k)(o:Obj):Rd (w.alloc o) rb bb bo cap l k:=
 h.keep ((Keep.refl nil w).alloc o) (fun e=>e) (fun e=>e)
theorem Rd.setCell{w:World}{rb bb bo cap:Nat}{l:List Nat}{k:Nat}(h:Rd w rb bb bo cap l k)(p:Addr)(v:Value)(h1:p.block≠rb)(h2:p.block≠bb):Rd (w.setCell p v) rb bb bo cap l k:=
 h.keep ((Keep.refl (only p.block) w).setCell (fun _=>rfl) v) (fun e=>h1 e.symm) (fun e=>h2 e.symm)
theorem Rd.lt{w:World}{rb bb bo cap:Nat}{l:List Nat}{k:Nat}(h:Rd w rb bb bo cap l k):rb<w.heap.size:=h.blk.lt
theorem one_yes(rb bb bo cap:Nat)(l:List Nat)(k:Nat)(w:World)(hr:Rd w rb bb bo cap l k)(hk:k<l.length):
 Calls Tryz.prog 225 #[.pointer (some ⟨rb,0,none⟩)] w fun e w'=>e=.returned (.int .i64 ((l[k]:Nat):Int))∧Rd w' rb bb bo cap l (k+1)∧Keep (only rb) w w':=by
 have c0:=hr.blk.cell 0
 have c1:=hr.blk.cell 1
 have f1:=hr.blk.frozen 1
 simp at c0 c1
 have hlen:=hr.len
 have hx:=hr.byte _ (List.getElem_mem hk)
 have hne:=hr.ne
 have hrow:∀n,((w.drewN n).setCell ⟨rb,1,none⟩ (.int .i64 ((k:Int)+1))).cell? ⟨bb,bo+k,none⟩=some (.int .u8 ((l[k]:Nat):Int)):=fun n=>(hr.drewN n).next.row k hk
 go_enter Tryz.func225,Tryz.ntmps225
 go_wp2
 go_quiet ((go_at_call 210;exact Calls.quiet_of_same (must_yes _)))
 go_wp2
 go_quiet (fail)
 go_wp2
 go_ret
 exact⟨rfl,(hr.drewN _).next.drewN _,(((Keep.refl (only rb) w).drewN _).setCell (p:=⟨rb,1,none⟩) (fun _=>rfl) _).drewN _⟩
theorem one_no(rb bb bo cap:Nat)(l:List Nat)(k:Nat)(w:World)(hr:Rd w rb bb bo cap l k)(hk:l.length≤k):
 Calls Tryz.prog 225 #[.pointer (some ⟨rb,0,none⟩)] w fun e w'=>e=.panicked noFrame∧Keep (only rb) w w':=by
 have c0:=hr.blk.cell 0
 have c1:=hr.blk.cell 1
 simp at c0 c1
 have hd:decide (k<l.length)=false:=by simpa using hk
 go_enter Tryz.func225,Tryz.ntmps225
 go_wp2
 go_region_dies
 all_goals
  refine(must_no _).mono ?_
  rintro e w' ⟨rfl,rfl⟩
  exact⟨rfl,rfl,(Keep.refl _ _).drew⟩
theorem two_yes(rb bb bo cap:Nat)(l:List Nat)(k:Nat)(w:World)(hr:Rd w rb bb bo cap l k)(hk:k+1<l.length):
 Calls Tryz.prog 211 #[.pointer (some ⟨rb,0,none⟩)] w fun e w'=>e=.returned (.int .i64 ((l[k] * 256+l[k+1]:Nat):Int))∧Rd w' rb bb bo cap l (k+2)∧Keep (only rb) w w':=by
 have hx:=hr.byte _ (List.getElem_mem (show k<l.length by omega))
 have hy:=hr.byte _ (List.getElem_mem hk)
 go_enter Tryz.func211,Tryz.ntmps211
 go_wp2_with fail
 refine(one_yes rb bb bo cap l k _ hr (by omega)).mono ?_
 rintro e w1 ⟨rfl,hr1,hk1⟩
 go_wp2_with fail
 refine(one_yes rb bb bo cap l (k+1) _ hr1 hk).mono ?_
 rintro e w2 ⟨rfl,hr2,hk2⟩
 go_wp2
 go_ret
 exact⟨ret_int (Fr.or_bytes _ _ hx hy),hr2,hk1.trans hk2⟩
theorem two_no(rb bb bo cap:Nat)(l:List Nat)(k:Nat)(w:World)(hr:Rd w rb bb bo cap l k)(hk:l.length≤k+1):
 Calls Tryz.prog 211 #[.pointer (some ⟨rb,0,none⟩)] w fun e w'=>e=.panicked noFrame∧Keep (only rb) w w':=by
 by_cases h:k<l.length
 ·go_enter Tryz.func211,Tryz.ntmps211
  go_wp2_with fail
  refine(one_yes rb bb bo cap l k _ hr h).mono ?_
  rintro e w1 ⟨rfl,hr1,hk1⟩
  go_wp2_with fail
  refine(one_no rb bb bo cap l (k+1) _ hr1 hk).mono ?_
  rintro e w2 ⟨rfl,hk2⟩
  exact⟨rfl,rfl,hk1.trans hk2⟩
 ·go_enter Tryz.func211,Tryz.ntmps211
  go_wp2_with fail
  refine(one_no rb bb bo cap l k _ hr (by omega)).mono ?_
  rintro e w1 ⟨rfl,hk1⟩
  exact⟨rfl,rfl,hk1⟩
theorem flag_yes(rb bb bo cap:Nat)(l:List Nat)(k:Nat)(w:World)(hr:Rd w rb bb bo cap l k)(hk:k<l.length)(h1:l[k]≤1):
 Calls Tryz.prog 227 #[.pointer (some ⟨rb,0,none⟩)] w fun e w'=>e=.returned (.bool (l[k]==1))∧Rd w' rb bb bo cap l (k+1)∧Keep (only rb) w w':=by
 go_enter Tryz.func227,Tryz.ntmps227
 go_wp2_with fail
 refine(one_yes rb bb bo cap l k _ hr hk).mono ?_
 rintro e w1 ⟨rfl,hr1,hk1⟩
 have hd:decide ((l[k]:Int)≤1)=true:=by simp;omega
 go_wp2_with fail
 refine(must_yes _).mono ?_
 rintro e w2 ⟨rfl,rfl⟩
 go_wp2
 go_ret
 exact⟨ret_bool (by rw[Bool.eq_iff_iff,beq_iff_eq,beq_iff_eq];omega),hr1,hk1⟩
theorem flag_no(rb bb bo cap:Nat)(l:List Nat)(k:Nat)(w:World)(hr:Rd w rb bb bo cap l k)(hk:∀h:k<l.length,¬l[k]≤1):
 Calls Tryz.prog 227 #[.pointer (some ⟨rb,0,none⟩)] w fun e w'=>e=.panicked noFrame∧Keep (only rb) w w':=by
 by_cases h:k<l.length
 ·have hx:=hk h
  clear hk
  go_enter Tryz.func227,Tryz.ntmps227
  go_wp2_with fail
  refine(one_yes rb bb bo cap l k _ hr h).mono ?_
  rintro e w1 ⟨rfl,hr1,hk1⟩
  generalize l[k]=x at *
  have hd:decide ((x:Int)≤1)=false:=by simp;omega
  go_wp2_with fail
  refine(must_no _).mono ?_
  rintro e w2 ⟨rfl,rfl⟩
  exact⟨rfl,rfl,hk1⟩
 ·clear hk
  go_enter Tryz.func227,Tryz.ntmps227
  go_wp2_with fail
  refine(one_no rb bb bo cap l k _ hr (by omega)).mono ?_
  rintro e w1 ⟨rfl,hk1⟩
  exact⟨rfl,rfl,hk1⟩
theorem one_at(rb bb bo cap:Nat)(l:List Nat)(k:Nat)(w:World)(hr:Rd w rb bb bo cap l k)(x:Nat)(hx:l[k]?=some x):
 Calls Tryz.prog 225 #[.pointer (some ⟨rb,0,none⟩)] w fun e w'=>e=.returned (.int .i64 (x:Int))∧Rd w' rb bb bo cap l (k+1)∧Keep (only rb) w w':=by
 obtain⟨h,e⟩:=List.getElem?_eq_some_iff.1 hx
 subst e
 exact one_yes rb bb bo cap l k w hr h
theorem two_at(rb bb bo cap:Nat)(l:List Nat)(k:Nat)(w:World)(hr:Rd w rb bb bo cap l k)(x y:Nat)(hx:l[k]?=some x)(hy:l[k+1]?=some y):
 Calls Tryz.prog 211 #[.pointer (some ⟨rb,0,none⟩)] w fun e w'=>e=.returned (.int .i64 ((x:Int) * 256+(y:Int)))∧Rd w' rb bb bo cap l (k+2)∧Keep (only rb) w w':=by
 obtain⟨h,e⟩:=List.getElem?_eq_some_iff.1 hx
 obtain⟨h',e'⟩:=List.getElem?_eq_some_iff.1 hy
 subst e e'
 have:=two_yes rb bb bo cap l k w hr h'
 have c:((l[k] * 256+l[k+1]:Nat):Int)=(l[k]:Int) * 256+(l[k+1]:Int):=by omega
 rw[c]at this
 exact this
theorem flag_at(rb bb bo cap:Nat)(l:List Nat)(k:Nat)(w:World)(hr:Rd w rb bb bo cap l k)(x:Nat)(hx:l[k]?=some x)(h1:x≤1):
 Calls Tryz.prog 227 #[.pointer (some ⟨rb,0,none⟩)] w fun e w'=>e=.returned (.bool (x==1))∧Rd w' rb bb bo cap l (k+1)∧Keep (only rb) w w':=by
 obtain⟨h,e⟩:=List.getElem?_eq_some_iff.1 hx
 subst e
 exact flag_yes rb bb bo cap l k w hr h h1
def bL(k:Int):Int:=if k=1∨k=2∨k=3 then 9 else 0
def bm(k:Int):Int:=if k=2 then 1 else 0
def bM(k:Int):Int:=if k=2∨k=3∨k=6 then 1000 else 0
def bF(k:Int):Bool:=decide (k=2)
def bK(k:Int):Bool:=decide (1≤k∧k≤7)
def may(k l n:Int)(f:Bool):Bool:=decide ((1≤k∧k≤7)∧0≤l∧l≤bL k∧bm k≤n∧n≤bM k∧(f=true→k=2))
theorem boundsOf_any(k:Int)(w:World):
 Calls Tryz.prog 192 #[.int .i64 k] w fun e w'=>e=.returned (.tuple #[.agg #[.int .i64 (bL k),.int .i64 (bm k),.int .i64 (bM k),.bool (bF k)],.bool (bK k)])∧Keep nil w w':=by
 by_cases h:1≤k∧k≤7
 ·have hk:k=1∨k=2∨k=3∨k=4∨k=5∨k=6∨k=7:=by omega
  rcases hk with rfl|rfl|rfl|rfl|rfl|rfl|rfl
  all_goals
   go_enter Tryz.func192,Tryz.ntmps192
   go_wp2
   refine bodyPost_ret (v:=.tuple #[.agg #[.int .i64 _,.int .i64 _,.int .i64 _,.bool _],.bool true]) (by simp[results,Tryz.results192,go_sem,bL,bm,bM,bF]) rfl ⟨rfl,(Keep.refl _ _).alloc _⟩
 ·have h1:(k==1)=false:=beq_eq_false_iff_ne.2 (by omega)
  have h2:(k==2)=false:=beq_eq_false_iff_ne.2 (by omega)
  have h3:(k==3)=false:=beq_eq_false_iff_ne.2 (by omega)
  have h4:(k==4)=false:=beq_eq_false_iff_ne.2 (by omega)
  have h5:(k==5)=false:=beq_eq_false_iff_ne.2 (by omega)
  have h6:(k==6)=false:=beq_eq_false_iff_ne.2 (by omega)
  have h7:(k==7)=false:=beq_eq_false_iff_ne.2 (by omega)
  have e1:bL k=0:=by unfold bL;rw[if_neg (by omega)]
  have e2:bm k=0:=by unfold bm;rw[if_neg (by omega)]
  have e3:bM k=0:=by unfold bM;rw[if_neg (by omega)]
  have e4:bF k=false:=by simp[bF];omega
  have e5:bK k=false:=by simp[bK];omega
  rw[e1,e2,e3,e4,e5]
  clear e1 e2 e3 e4 e5 h
  go_enter Tryz.func192,Tryz.ntmps192
  go_wp2
  refine bodyPost_ret (v:=.tuple #[.agg #[.int .i64 0,.int .i64 0,.int .i64 0,.bool false],.bool false]) (by simp[results,Tryz.results192,go_sem]) rfl ⟨rfl,(Keep.refl _ _).alloc _⟩
theorem may_yes{k l n:Int}{f:Bool}(h1:bK k=true)(h2:0≤l)(h3:l≤bL k)(h4:bm k≤n)(h5:n≤bM k)(h6:f=true→bF k=true):may k l n f=true:=by
 simp only[bK,bF,decide_eq_true_eq]at h1 h6
 simp only[may,decide_eq_true_eq]
 exact⟨h1,h2,h3,h4,h5,h6⟩
theorem may_no{k l n:Int}{f:Bool}(h:¬(bK k=true∧0≤l∧l≤bL k∧bm k≤n∧n≤bM k∧(f=true→bF k=true))):may k l n f=false:=by
 simp only[bK,bF,decide_eq_true_eq]at h
 simp only[may,decide_eq_false_iff_not]
 exact h
theorem may_ways(k l n:Int)(f:Bool):
 (bK k=false∧Hid (may k l n f=false))∨(bK k=true∧l<0∧Hid (may k l n f=false))∨(bK k=true∧0≤l∧bL k<l∧Hid (may k l n f=false))∨
 (bK k=true∧0≤l∧l≤bL k∧n<bm k∧Hid (may k l n f=false))∨(bK k=true∧0≤l∧l≤bL k∧bm k≤n∧bM k<n∧Hid (may k l n f=false))∨
 (bK k=true∧0≤l∧l≤bL k∧bm k≤n∧n≤bM k∧bF k=true∧Hid (may k l n f=true))∨
 (bK k=true∧0≤l∧l≤bL k∧bm k≤n∧n≤bM k∧bF k=false∧f=false∧Hid (may k l n f=true))∨
 (bK k=true∧0≤l∧l≤bL k∧bm k≤n∧n≤bM k∧bF k=false∧f=true∧Hid (may k l n f=false)):=by
 by_cases g1:bK k=true
 ·by_cases g2:0≤l
  ·by_cases g3:l≤bL k
   ·by_cases g4:bm k≤n
    ·by_cases g5:n≤bM k
     ·by_cases g6:bF k=true
      ·exact Or.inr (Or.inr (Or.inr (Or.inr (Or.inr (Or.inl ⟨g1,g2,g3,g4,g5,g6,may_yes g1 g2 g3 g4 g5 (fun _=>g6)⟩)))))
      ·by_cases g7:f=true
       ·exact Or.inr (Or.inr (Or.inr (Or.inr (Or.inr (Or.inr (Or.inr ⟨g1,g2,g3,g4,g5,by simpa using g6,g7,may_no (fun h=>g6 (h.2.2.2.2.2 g7))⟩))))))
       ·exact Or.inr (Or.inr (Or.inr (Or.inr (Or.inr (Or.inr (Or.inl ⟨g1,g2,g3,g4,g5,by simpa using g6,by simpa using g7,may_yes g1 g2 g3 g4 g5 (fun e=>absurd e g7)⟩))))))
     ·exact Or.inr (Or.inr (Or.inr (Or.inr (Or.inl ⟨g1,g2,g3,g4,by omega,may_no (fun h=>g5 h.2.2.2.2.1)⟩))))
    ·exact Or.inr (Or.inr (Or.inr (Or.inl ⟨g1,g2,g3,by omega,may_no (fun h=>g4 h.2.2.2.1)⟩)))
   ·exact Or.inr (Or.inr (Or.inl ⟨g1,g2,by omega,may_no (fun h=>g3 h.2.2.1)⟩))
  ·exact Or.inr (Or.inl ⟨g1,by omega,may_no (fun h=>g2 h.2.1)⟩)
 ·exact Or.inl ⟨by simpa using g1,may_no (fun h=>g1 h.1)⟩
theorem mayBe_any(k l n:Int)(f:Bool)(w:World):
 Calls Tryz.prog 161 #[.agg #[.int .i64 k,.int .i64 l,.int .i64 n,.bool f]] w fun e w'=>e=.returned (.bool (may k l n f))∧Keep nil w w':=by
 go_enter Tryz.func161,Tryz.ntmps161
 go_wp2_with fail
 refine(boundsOf_any k _).mono ?_
 rintro e w1 ⟨rfl,hk1⟩
 have hs:w.heap.size<w1.heap.size:=by have:=hk1.size;simp at this;omega
 have c0:=fun i=>hk1.cell w.heap.size i (by simp) (fun e=>e)
 simp only[World.cell?_alloc_new]at c0
 rcases may_ways k l n f with⟨g1,HM⟩|⟨g1,g2,HM⟩|⟨g1,g2,g3,HM⟩|⟨g1,g2,g3,g4,HM⟩|⟨g1,g2,g3,g4,g5,HM⟩|⟨g1,g2,g3,g4,g5,g6,HM⟩|⟨g1,g2,g3,g4,g5,g6,g7,HM⟩|⟨g1,g2,g3,g4,g5,g6,g7,HM⟩
 all_goals
  go_wp2
  go_ret
  exact⟨ret_bool HM.out.symm,(((Keep.refl _ _).alloc _).trans hk1).alloc _⟩
end Go.Proofs.YtlfijfodklhplaaGreat
