import Derived.WalkKit
import Derived.WalkLawsBesides
import Derived.WalkSpells
import Derived.Laws.BitsAllLaws
import Derived.Laws.Shifts
import Derived.Deep.QuietTactic
import Derived.BigQuiet
import Derived.Deep.RegionWith
import Derived.RegionDies
import Derived.Laws.AppendOwn
import Derived.OwnWalk
import Derived.Laws.BitsLemmas
import Derived.Test.YtlfijfodklhplaaGreatRows
import Derived.Deep.RegionLaw
set_option maxHeartbeats 1000000
set_option linter.unusedVariables false
set_option linter.unusedSimpArgs false
namespace Go.Proofs.YtlfijfodklhplaaGreat
open Go.RowKit
structure Keep(ex:Nat→Prop)(w w':World):Prop where
 os:w'.os=w.os
 tape:w'.tape=w.tape
 output:w'.output=w.output
 size:w.heap.size≤w'.heap.size
 block:∀k,k<w.heap.size→¬ex k→w'.heap[k]?=w.heap[k]?
def nil(_:Nat):Prop:=False
def only(b:Nat)(k:Nat):Prop:=k=b
theorem Keep.refl(ex:Nat→Prop)(w:World):Keep ex w w:=⟨rfl,rfl,rfl,Nat.le_refl _,fun _ _ _=>rfl⟩
theorem Keep.trans{ex:Nat→Prop}{a b c:World}(h:Keep ex a b)(k:Keep ex b c):Keep ex a c:=
 ⟨k.os.trans h.os,k.tape.trans h.tape,k.output.trans h.output,Nat.le_trans h.size k.size,fun i hi hx=>(k.block i (Nat.lt_of_lt_of_le hi h.size) hx).trans (h.block i hi hx)⟩
theorem Keep.trans'{ex ex':Nat→Prop}{a b c:World}(h:Keep ex a b)(k:Keep ex' b c)(hx:∀i,i<a.heap.size→ex' i→ex i):Keep ex a c:=
 ⟨k.os.trans h.os,k.tape.trans h.tape,k.output.trans h.output,Nat.le_trans h.size k.size,fun i hi hn=>(k.block i (Nat.lt_of_lt_of_le hi h.size) (fun e=>hn (hx i hi e))).trans (h.block i hi hn)⟩
theorem Keep.mono{ex ex':Nat→Prop}{w w':World}(h:Keep ex w w')(hx:∀i,i<w.heap.size→ex i→ex' i):Keep ex' w w':=
 ⟨h.os,h.tape,h.output,h.size,fun k hk hn=>h.block k hk (fun e=>hn (hx k hk e))⟩
theorem Keep.drew{ex:Nat→Prop}{a w:World}(h:Keep ex a w):Keep ex a w.drew:=⟨h.os,h.tape,h.output,h.size,h.block⟩
theorem Keep.drewN{ex:Nat→Prop}{a w:World}(h:Keep ex a w)(n:Nat):Keep ex a (w.drewN n):=by
 induction n generalizing w with
 |zero=>exact h
 |succ n ih=>exact(ih h).drew
theorem Keep.alloc{ex:Nat→Prop}{a w:World}(h:Keep ex a w)(o:Obj):Keep ex a (w.alloc o):=
 h.trans ⟨rfl,rfl,rfl,by simp,fun k hk _=>Below.heap_alloc _ _ _ hk⟩
theorem Keep.setCell{ex:Nat→Prop}{a w:World}(h:Keep ex a w){p:Addr}(hp:p.block<a.heap.size→ex p.block)(u:Value):Keep ex a (w.setCell p u):=
 ⟨h.os,h.tape,h.output,by simpa using h.size,fun k hk hn=>(Below.heap_setCell w p u k (fun e=>by subst e;exact hn (hp hk))).trans (h.block k hk hn)⟩
theorem Keep.cell{ex:Nat→Prop}{w w':World}(h:Keep ex w w')(b o:Nat)(hb:b<w.heap.size)(hn:¬ex b):w'.cell? ⟨b,o,none⟩=w.cell? ⟨b,o,none⟩:=World.cell?_of_block (w:=w) (h.block b hb hn)
theorem Keep.frozen{ex:Nat→Prop}{w w':World}(h:Keep ex w w')(b o:Nat)(hb:b<w.heap.size)(hn:¬ex b):w'.frozen? ⟨b,o,none⟩=w.frozen? ⟨b,o,none⟩:=World.frozen?_of_block (w:=w) (h.block b hb hn)
theorem Keep.below{w w':World}(h:Keep nil w w'):Below w.heap.size w w':=⟨h.os,h.tape,h.output,h.size,fun k hk=>h.block k hk (fun e=>e)⟩
def Blk(w:World)(b:Nat)(c:Array Value)(t:TypeId):Prop:=w.heap[b]?=some (.cells c t)
theorem Blk.lt{w:World}{b:Nat}{c:Array Value}{t:TypeId}(h:Blk w b c t):b<w.heap.size:=by
 unfold Blk at h
 exact(Array.getElem?_eq_some_iff.1 h).1
theorem Blk.cell{w:World}{b:Nat}{c:Array Value}{t:TypeId}(h:Blk w b c t)(i:Nat):w.cell? ⟨b,i,none⟩=c[i]?:=by
 unfold Blk at h
 simp[World.cell?,h]
theorem Blk.frozen{w:World}{b:Nat}{c:Array Value}{t:TypeId}(h:Blk w b c t)(i:Nat):w.frozen? ⟨b,i,none⟩=false:=by
 unfold Blk at h
 simp[World.frozen?,h]
theorem Blk.keep{ex:Nat→Prop}{w w':World}{b:Nat}{c:Array Value}{t:TypeId}(h:Blk w b c t)(k:Keep ex w w')(hn:¬ex b):Blk w' b c t:=(k.block b h.lt hn).trans h
theorem Blk.drew{w:World}{b:Nat}{c:Array Value}{t:TypeId}(h:Blk w b c t):Blk w.drew b c t:=h
theorem Blk.set{w:World}{b:Nat}{c:Array Value}{t:TypeId}(h:Blk w b c t)(i:Nat)(v:Value):Blk (w.setCell ⟨b,i,none⟩ v) b (c.setIfInBounds i v) t:=by
 have hb:=h.lt
 unfold Blk at h⊢
 simp[World.setCell,Array.getElem?_modify,h]
theorem Blk.new(w:World)(c:Array Value)(t:TypeId):Blk (w.alloc (.cells c t)) w.heap.size c t:=by
 show (w.heap.push _)[w.heap.size]?=_
 simp
theorem Blk.new'(w:World)(c:Array Value)(t:TypeId)(n:Nat)(h:n=w.heap.size):Blk (w.alloc (.cells c t)) n c t:=by subst h;exact Blk.new w c t
theorem Blk.old{w:World}{b:Nat}{c:Array Value}{t:TypeId}(h:Blk w b c t)(o:Obj):Blk (w.alloc o) b c t:=(Below.heap_alloc _ _ _ h.lt).trans h
def Row(w:World)(b o:Nat)(l:List Nat):Prop:=∀i (h:i<l.length),w.cell? ⟨b,o+i,none⟩=some (.int .u8 (l[i]:Nat))
theorem Row.keep{ex:Nat→Prop}{w w':World}{b o:Nat}{l:List Nat}(h:Row w b o l)(k:Keep ex w w')(hb:b<w.heap.size)(hn:¬ex b):Row w' b o l:=
 fun i hi=>(k.cell b (o+i) hb hn).trans (h i hi)
def VBuf(w:World)(g:Nat)(e:TypeId)(size:Nat)(vs:List Value)(c:Nat):Prop:=∃sp:List Value,Blk w g (vs++sp).toArray e∧vs.length+sp.length=c * size
theorem VBuf.keep{ex:Nat→Prop}{w w':World}{g:Nat}{e:TypeId}{size:Nat}{vs:List Value}{c:Nat}(h:VBuf w g e size vs c)(k:Keep ex w w')(hn:¬ex g):VBuf w' g e size vs c:=
 let ⟨sp,hb,hc⟩:=h;⟨sp,hb.keep k hn,hc⟩
theorem VBuf.lt{w:World}{g:Nat}{e:TypeId}{size:Nat}{vs:List Value}{c:Nat}(h:VBuf w g e size vs c):g<w.heap.size:=let ⟨_,hb,_⟩:=h;hb.lt
theorem VBuf.drew{w:World}{g:Nat}{e:TypeId}{size:Nat}{vs:List Value}{c:Nat}(h:VBuf w g e size vs c):VBuf w.drew g e size vs c:=h
theorem VBuf.alloc{w:World}{g:Nat}{e:TypeId}{size:Nat}{vs:List Value}{c:Nat}(h:VBuf w g e size vs c)(o:Obj):VBuf (w.alloc o) g e size vs c:=h.keep ((Keep.refl nil w).alloc o) (fun e=>e)
theorem VBuf.cell{w:World}{g:Nat}{e:TypeId}{size:Nat}{vs:List Value}{c:Nat}(h:VBuf w g e size vs c)(i:Nat)(u:Value)(hu:vs[i]?=some u):w.cell? ⟨g,i,none⟩=some u:=by
 obtain⟨sp,hb,_⟩:=h
 have hi:=(List.getElem?_eq_some_iff.1 hu).1
 rw[hb.cell,List.getElem?_toArray,List.getElem?_append_left hi,hu]
theorem VBuf.frozen{w:World}{g:Nat}{e:TypeId}{size:Nat}{vs:List Value}{c:Nat}(h:VBuf w g e size vs c)(i:Nat):w.frozen? ⟨g,i,none⟩=false:=let ⟨_,hb,_⟩:=h;hb.frozen i
theorem VBuf.less{w:World}{g:Nat}{e:TypeId}{size:Nat}{vs:List Value}{c:Nat}(h:VBuf w g e size vs c)(n:Nat):VBuf w g e size (vs.take n) c:=by
 obtain⟨sp,hb,hc⟩:=h
 refine⟨vs.drop n++sp,?_,?_⟩
 ·rw[←List.append_assoc,List.take_append_drop];exact hb
 ·simp;omega
theorem zero_len(z:Array Value)(n:Nat):(Builtin.zeroCells z n).toList.length=n * z.size:=by simp[size_zeroCells]
theorem run_append_any{P:Program}(w:World)(t ty e:TypeId)(z:Value)(size bytes:Nat)(ht:P.underlying t=some (.slice e))(hinfo:(P.info? e).map (fun i=>(i.zero,i.size,i.bytes))=some (some z,size,bytes))(hzs:z.cells.size=size)
 (g n c:Nat) (vs:List Value) (hn:vs.length=n * size) (hb:VBuf w g e size vs c) (ad:Addr) (m c':Nat) (news:List Value) (hm:news.length=m * size)
 (hc:∀j u,news[j]?=some u→w.cell? (ad.add j)=some u) (h1:∀u∈news,u.oneCell'=true) (hbytes:(n+m) * bytes≤140737488355328) (h63:n+m≤9223372036854775807):
 ∃g' k' w',(Builtin.append_ #[t,t] ty #[.slice (some ⟨g,0,none⟩) n c,.slice (some ad) m c']).run P w=.ok (.slice (some ⟨g',0,none⟩) (n+m) k') w'∧VBuf w' g' e size (vs++news) k'∧n+m≤k'∧((g'=g∧k'=c)∨(g'=w.heap.size∧c<n+m∧Keep nil w w'))∧Keep (only g) w w':=by
 obtain⟨i,hi,hz,hs,hby⟩:=info_parts hinfo
 obtain⟨sp,hb,hl⟩:=hb
 by_cases hroom:n+m≤c
 ·have hsp:m * size≤sp.length:=by
   have:(n+m) * size≤c * size:=Nat.mul_le_mul_right _ hroom
   rw[Nat.add_mul]at this;omega
  have hr:=run_append_room (P:=P) w t ty e i ht hi g n c (vs++sp).toArray hb ad m c' news (by rw[hm,hs]) hc h1 hroom (by simp[hs,hm,hn];omega)
  refine⟨g,c,_,hr,⟨sp.drop (m * size),?_,by simp[hm,hn];omega⟩,hroom,Or.inl ⟨rfl,rfl⟩,?_⟩
  ·unfold Blk at hb⊢
   rw[setRow_heap w g _ _ _ _ hb]
   have e1:(vs++sp).take (n * i.size)=vs:=by rw[hs,←hn];exact List.take_left
   have e2:(vs++sp).drop (n * i.size+news.length)=sp.drop (m * size):=by rw[hs,←hn,hm,List.drop_append,List.drop_of_length_le (by omega)];simp
   rw[e1,e2]
  ·exact⟨rfl,rfl,rfl,by simp[World.setRow],fun k hk hn=>setRow_other w g k _ hn⟩
 ·have hg:c<n+m:=by omega
  have hr:=run_append_grow (P:=P) w t ty e i z ht hi hz ⟨g,0,none⟩ n c vs (by rw[hn,hs]) (fun j v hv=>by
   rw[Addr.add_lit,Nat.zero_add]
   have hj:=(List.getElem?_eq_some_iff.1 hv).1
   rw[Blk.cell hb,List.getElem?_toArray,List.getElem?_append_left hj,hv]) ad m c' news (by rw[hm,hs]) hc hg (by omega) (by rw[hby];exact growslice_fits hg hbytes)
  have hge:=grownCap_ge w (n+m) c e
  refine⟨w.heap.size,_,_,hr,⟨(Builtin.zeroCells z.cells (grownCap w (n+m) c e - (n+m))).toList,?_,?_⟩,hge,Or.inr ⟨rfl,hg,((Keep.refl nil w).drew).alloc _⟩,((Keep.refl (only g) w).drew).alloc _⟩
  ·have:=Blk.new w.drew (vs.toArray++news.toArray++Builtin.zeroCells z.cells (grownCap w (n+m) c e - (n+m))) e
   have e3:vs.toArray++news.toArray++Builtin.zeroCells z.cells (grownCap w (n+m) c e - (n+m))=(vs++news++(Builtin.zeroCells z.cells (grownCap w (n+m) c e - (n+m))).toList).toArray:=by
    apply Array.ext';simp
   rw[e3]at this⊢
   exact this
  ·rw[zero_len,hzs,List.length_append,hn,hm,←Nat.add_mul,←Nat.add_mul]
   congr 1
   omega
theorem run_append_new{P:Program}(w:World)(t ty e:TypeId)(z:Value)(size bytes:Nat)(ht:P.underlying t=some (.slice e))(hinfo:(P.info? e).map (fun i=>(i.zero,i.size,i.bytes))=some (some z,size,bytes))(hzs:z.cells.size=size)
 (ad:Addr) (m c':Nat) (h0:0<m) (news:List Value) (hm:news.length=m * size)
 (hc:∀j u,news[j]?=some u→w.cell? (ad.add j)=some u) (hbytes:m * bytes≤140737488355328) (h63:m≤9223372036854775807):
 ∃k' w',(Builtin.append_ #[t,t] ty #[.slice none 0 0,.slice (some ad) m c']).run P w=.ok (.slice (some ⟨w.heap.size,0,none⟩) m k') w'∧VBuf w' w.heap.size e size news k'∧m≤k'∧Keep nil w w':=by
 obtain⟨i,hi,hz,hs,hby⟩:=info_parts hinfo
 have hr:=run_append_nil (P:=P) w t ty e i z ht hi hz ad m c' news (by rw[hm,hs]) hc h0 (by omega) (by rw[hby];omega)
 have hge:=grownCap_ge w m 0 e
 refine⟨_,_,hr,⟨(Builtin.zeroCells z.cells (grownCap w m 0 e - m)).toList,?_,?_⟩,hge,((Keep.refl nil w).drew).alloc _⟩
 ·have:=Blk.new w.drew (news.toArray++Builtin.zeroCells z.cells (grownCap w m 0 e - m)) e
  have e3:news.toArray++Builtin.zeroCells z.cells (grownCap w m 0 e - m)=(news++(Builtin.zeroCells z.cells (grownCap w m 0 e - m)).toList).toArray:=by
   apply Array.ext';simp
  rw[e3]at this⊢
  exact this
 ·rw[zero_len,hzs,hm,←Nat.add_mul]
  congr 1
  omega
end Go.Proofs.YtlfijfodklhplaaGreat
namespace Go.Proofs.YtlfijfodklhplaaGreat.Fr
theorem or_bytes(a b:Nat)(ha:a<256)(hb:b<256):bits .or .i64 ((a:Int) * 256) (b:Int)=((a * 256+b:Nat):Int):=by
 have e:((a:Int) * 256)=((a * 256:Nat):Int):=by omega
 rw[e]
 show IntKind.i64.wrap ((BitVec.ofInt 64 ((a * 256:Nat):Int)|||BitVec.ofInt 64 (b:Int)).toNat:Int)=_
 rw[BitVec.toNat_or,ofInt_u64 _ (by omega),ofInt_u64 _ (by omega),nat_join 8 (a * 256) b (by omega) (by omega)]
 rw[IntKind.wrap_i64]
 omega
def step(n:Nat):Nat:=if 32768≤n then (n * 2 % 65536) ^^^ 4129 else n * 2
def steps:Nat→Nat→Nat
 |0,n=>n
 |k+1,n=>step (steps k n)
def byte(n x:Nat):Nat:=steps 8 (n ^^^ (x * 256))
def crcFrom(n:Nat)(l:List Nat):Nat:=l.foldl byte n
def crc(l:List Nat):Nat:=crcFrom 65535 l
theorem xor_lt{a b:Nat}(ha:a<65536)(hb:b<65536):a ^^^ b<65536:=Nat.xor_lt_two_pow (n:=16) ha hb
theorem step_lt{n:Nat}(h:n<65536):step n<65536:=by
 unfold step
 split
 ·exact xor_lt (by omega) (by omega)
 ·omega
theorem steps_lt{n:Nat}(h:n<65536):∀k,steps k n<65536
 |0=>h
 |k+1=>step_lt (steps_lt h k)
theorem byte_lt{n x:Nat}(h:n<65536)(hx:x<256):byte n x<65536:=steps_lt (xor_lt h (by omega)) 8
theorem crcFrom_cons(n x:Nat)(r:List Nat):crcFrom n (x::r)=crcFrom (byte n x) r:=by simp[crcFrom]
theorem crcFrom_lt{n:Nat}(l:List Nat)(h:n<65536)(hl:∀x∈l,x<256):crcFrom n l<65536:=by
 induction l generalizing n with
 |nil=>exact h
 |cons x r ih=>
  rw[crcFrom_cons]
  have hx:=byte_lt h (hl x (by simp))
  generalize byte n x=q at *
  exact ih hx (fun y hy=>hl y (by simp[hy]))
theorem first_lt:65535<65536:=by omega
theorem crc_lt(l:List Nat)(hl:∀x∈l,x<256):crc l<65536:=by
 unfold crc
 exact crcFrom_lt (n:=65535) l first_lt hl
theorem crc_snoc(l:List Nat)(x:Nat):crc (l++[x])=byte (crc l) x:=by simp[crc,crcFrom]
structure Msg where
 kind:Nat
 level:Nat
 name:Nat
 finding:Bool
structure Frm where
 data:Bool
 seq:Nat
 m:Msg
def none0:Msg:=⟨0,0,0,false⟩
def body(f:Frm):List Nat:=
 if f.data then [1,f.seq / 256,f.seq % 256,f.m.kind,f.m.level,f.m.finding.toNat,f.m.name / 256,f.m.name % 256]else [2,f.seq / 256,f.seq % 256]
def sealed(l:List Nat):List Nat:=l++[crc l / 256,crc l % 256]
def enc(f:Frm):List Nat:=sealed (body f)
end Go.Proofs.YtlfijfodklhplaaGreat.Fr
namespace Go.Proofs.YtlfijfodklhplaaGreat
open Go.RowKit
def noFrame:List PanicEntry:=[{ v:=.iface 279 (.agg #[]),recovered:=false}]
theorem step_hi(n:Nat)(h:32768≤n):bits .xor .u16 (IntKind.u16.wrap ((n:Int) * 2)) 4129=((Fr.step n:Nat):Int):=by
 have e:IntKind.u16.wrap ((n:Int) * 2)=((n * 2 % 65536:Nat):Int):=by rw[IntKind.wrap_u16];omega
 rw[e]
 have:=u16_xor_nat (n * 2 % 65536) 4129 (by omega) (by omega)
 simp only[Fr.step,if_pos h]
 exact this
theorem step_lo(n:Nat)(h:n<32768):(n:Int) * 2=((Fr.step n:Nat):Int):=by
 simp only[Fr.step,if_neg (by omega:¬32768≤n)];omega
theorem ret_bool{a b:Bool}(h:a=b):Ending.returned (.bool a)=.returned (.bool b):=by rw[h]
theorem ret_int{k:IntKind}{a b:Int}(h:a=b):Ending.returned (.int k a)=.returned (.int k b):=by rw[h]
theorem checkStep_hi(n:Int)(h:32768≤n)(h1:n<65536)(w:World):
 Calls Tryz.prog 208 #[.int .u16 n] w fun e w'=>e=.returned (.int .u16 (bits .xor .u16 (IntKind.u16.wrap (n * 2)) 4129))∧w'=w:=by
 go_enter Tryz.func208,Tryz.ntmps208
 go_wp2
 go_ret
 exact⟨rfl,rfl⟩
theorem checkStep_lo(n:Int)(h0:0≤n)(h:n<32768)(w:World):
 Calls Tryz.prog 208 #[.int .u16 n] w fun e w'=>e=.returned (.int .u16 (n * 2))∧w'=w:=by
 go_enter Tryz.func208,Tryz.ntmps208
 go_wp2
 go_ret
 exact⟨rfl,rfl⟩
theorem checkStep_any(n:Nat)(h1:n<65536)(w:World):
 Calls Tryz.prog 208 #[.int .u16 (n:Int)] w fun e w'=>e=.returned (.int .u16 ((Fr.step n:Nat):Int))∧w'=w:=by
 by_cases h:32768≤n
 ·rw[←step_hi n h];exact checkStep_hi _ (by omega) (by omega) w
 ·rw[←step_lo n (by omega)];exact checkStep_lo _ (by omega) (by omega) w
theorem must_yes(w:World):
 Calls Tryz.prog 210 #[.bool true] w fun e w'=>e=.returned (.tuple #[])∧w'=w:=by
 go_enter Tryz.func210,Tryz.ntmps210
 go_wp2
 go_end0
 exact⟨rfl,rfl⟩
theorem must_no(w:World):
 Calls Tryz.prog 210 #[.bool false] w fun e w'=>e=.panicked noFrame∧w'=w:=by
 go_enter Tryz.func210,Tryz.ntmps210
 go_wp2
 exact⟨rfl,rfl,rfl⟩
def bv(x:Nat):Value:=.int .u8 (x:Int)
def Buf(w:World)(g:Nat)(l:List Nat)(c:Nat):Prop:=∃sp:List Value,Blk w g (l.map bv++sp).toArray 5∧l.length+sp.length=c
theorem Buf.keep{ex:Nat→Prop}{w w':World}{g:Nat}{l:List Nat}{c:Nat}(h:Buf w g l c)(k:Keep ex w w')(hn:¬ex g):Buf w' g l c:=
 let ⟨sp,hb,hc⟩:=h;⟨sp,hb.keep k hn,hc⟩
theorem Buf.lt{w:World}{g:Nat}{l:List Nat}{c:Nat}(h:Buf w g l c):g<w.heap.size:=let ⟨_,hb,_⟩:=h;hb.lt
theorem Buf.drew{w:World}{g:Nat}{l:List Nat}{c:Nat}(h:Buf w g l c):Buf w.drew g l c:=h
theorem Buf.alloc{w:World}{g:Nat}{l:List Nat}{c:Nat}(h:Buf w g l c)(o:Obj):Buf (w.alloc o) g l c:=h.keep ((Keep.refl nil w).alloc o) (fun e=>e)
theorem Buf.row{w:World}{g:Nat}{l:List Nat}{c:Nat}(h:Buf w g l c):Row w g 0 l:=by
 obtain⟨sp,hb,_⟩:=h
 intro i hi
 rw[Nat.zero_add,hb.cell,List.getElem?_toArray,List.getElem?_append_left (by simpa using hi)]
 simp[hi,bv]
theorem bv_one(l:List Nat):∀u∈l.map bv,u.oneCell'=true:=by
 intro u hu
 obtain⟨x,_,rfl⟩:=List.mem_map.1 hu
 rfl
theorem u8_info:(Tryz.prog.info? 5).map (fun i=>(i.zero,i.size,i.bytes))=some (some (.int .u8 0),1,1):=by kernel_rfl
theorem run_append_buf(w:World)(ty:TypeId)(g c:Nat)(l:List Nat)(hb:Buf w g l c)(ad:Addr)(m c':Nat)(news:List Nat)(hm:news.length=m)(hc:∀j u,(news.map bv)[j]?=some u→w.cell? (ad.add j)=some u)(hroom:l.length+m≤c):
 ∃w',(Builtin.append_ #[56,56] ty #[.slice (some ⟨g,0,none⟩) l.length c,.slice (some ad) m c']).run Tryz.prog w=.ok (.slice (some ⟨g,0,none⟩) (l.length+m) c) w'∧Buf w' g (l++news) c∧Keep (only g) w w':=by
 obtain⟨i,hi,hz,hs,hby⟩:=info_parts u8_info
 obtain⟨sp,hb,hl⟩:=hb
 have hr:=run_append_room (P:=Tryz.prog) w 56 ty 5 i Tryz.underlying56 hi g l.length c (l.map bv++sp).toArray hb ad m c' (news.map bv) (by simp[hs,hm]) hc (bv_one news) hroom (by simp[hs,hm];omega)
 refine⟨_,hr,⟨sp.drop m,?_,by simp;omega⟩,?_⟩
 ·unfold Blk at hb⊢
  rw[setRow_heap w g _ _ _ _ hb]
  have e1:(l.map bv++sp).take (l.length * i.size)=l.map bv:=by rw[hs,Nat.mul_one];exact List.take_left' (by simp)
  have e2:(l.map bv++sp).drop (l.length * i.size+(news.map bv).length)=sp.drop m:=by rw[hs,Nat.mul_one,List.length_map,hm,List.drop_append,List.drop_of_length_le (by simp)];simp
  rw[e1,e2,List.map_append]
 ·exact⟨rfl,rfl,rfl,by simp[World.setRow],fun k hk hn=>setRow_other w g k _ hn⟩
theorem wpList_append_buf(w:World){ops:Array Oper}{rest:List Oper}{o:Oper}{a:Act}{Q:Exit→Act→World→Prop}
 (hg:o.guard=none) (s x:Operand) (hop:o.op=Op.call { callee:=Callee.builtin Builtin.append,args:=#[s,x],argTypes:=#[56,56]})
 (g c:Nat) (l:List Nat) (hs:a.eval s=.slice (some ⟨g,0,none⟩) l.length c) (hb:Buf w g l c) (ad:Addr) (m c':Nat) (hx:a.eval x=.slice (some ad) m c') (news:List Nat) (hm:news.length=m)
 (hc:∀j u,(news.map bv)[j]?=some u→w.cell? (ad.add j)=some u) (hroom:l.length+m≤c)
 (hK:∀w',Buf w' g (l++news) c→Keep (only g) w w'→wpList Tryz.prog ops Q rest (a.put o.dst (.slice (some ⟨g,0,none⟩) (l.length+m) c)) w'):
 wpList Tryz.prog ops Q (o::rest) a w:=by
 refine wpList_plain hg fun K hK'=>?_
 obtain⟨w',hrun,r1,r2⟩:=run_append_buf w o.type g c l hb ad m c' news hm hc hroom
 unfold Oper.wp
 simp[execOp,hop,resolve,invoke,builtin,hs,hx,hrun,Result.andThen]
 exact hK' _ _ (hK w' r1 r2)
theorem step_append_buf{ops:Array Oper}{o:Oper}{a:Act}{w:World}{K:Act→World→Prop}{Q:Exit→Act→World→Prop}{E:Prop}
 (hg:o.guard=none) (s x:Operand) (hop:o.op=Op.call { callee:=Callee.builtin Builtin.append,args:=#[s,x],argTypes:=#[56,56]})
 (g c:Nat) (l:List Nat) (k:Nat) (hl:l.length=k) (hs:a.eval s=.slice (some ⟨g,0,none⟩) k c) (hb:Buf w g l c) (ad:Addr) (m c':Nat) (hx:a.eval x=.slice (some ad) m c') (news:List Nat) (hm:news.length=m)
 (hc:∀j u,(news.map bv)[j]?=some u→w.cell? (ad.add j)=some u) (hroom:k+m≤c)
 (hK:∀w',Buf w' g (l++news) c→Keep (only g) w w'→K (a.put o.dst (.slice (some ⟨g,0,none⟩) (k+m) c)) w'):
 if Region.wanted o (yielded ops a.tmps)=true then Oper.wp Tryz.prog o a w K Q else E:=by
 subst hl
 have hw:Region.wanted o (yielded ops a.tmps)=true:=by simp[Region.wanted,hg]
 rw[if_pos hw]
 obtain⟨w',hrun,r1,r2⟩:=run_append_buf w o.type g c l hb ad m c' news hm hc hroom
 unfold Oper.wp
 simp[execOp,hop,resolve,invoke,builtin,hs,hx,hrun,Result.andThen]
 exact hK w' r1 r2
theorem cells_two(w:World)(x y:Int)(a b:Nat)(hx:x=(a:Int))(hy:y=(b:Int))(t:TypeId):
 ∀j u,([a,b].map bv)[j]?=some u→(w.alloc (.cells #[.int .u8 x,.int .u8 y] t)).cell? ((⟨w.heap.size,0,none⟩:Addr).add j)=some u:=by
 intro j u hu
 subst hx hy
 rw[Addr.add_lit,Nat.zero_add,World.cell?_alloc_new]
 match j,hu with
 |0,hu=>simpa [bv]using hu
 |1,hu=>simpa [bv]using hu
theorem appendTwo_any(g c:Nat)(l:List Nat)(v:Nat)(w:World)(hb:Buf w g l c)(hroom:l.length+2≤c)(hv:v<65536):
 Calls Tryz.prog 177 #[.slice (some ⟨g,0,none⟩) l.length c,.int .i64 (v:Int)] w fun e w'=>e=.returned (.slice (some ⟨g,0,none⟩) (l.length+2) c)∧Buf w' g (l++[v / 256,v % 256]) c∧Keep (only g) w w':=by
 go_enter Tryz.func177,Tryz.ntmps177
 go_wp2_with (at_builtin;refine wpList_append_buf _ rfl (.tmp 5) (.tmp 11) rfl g c l rfl (hb.alloc _) ⟨w.heap.size,0,none⟩ 2 2 rfl [v / 256,v % 256] rfl (cells_two w _ _ _ _ (by omega) (by omega) _) hroom ?_;intro w1 hb1 hk1)
 go_ret
 exact⟨rfl,hb1,((Keep.refl _ _).alloc _).trans hk1⟩
theorem appendTwo_at(g c:Nat)(l:List Nat)(k:Nat)(hl:l.length=k)(v:Nat)(w:World)(hb:Buf w g l c)(hroom:k+2≤c)(hv:v<65536):
 Calls Tryz.prog 177 #[.slice (some ⟨g,0,none⟩) k c,.int .i64 (v:Int)] w fun e w'=>e=.returned (.slice (some ⟨g,0,none⟩) (k+2) c)∧Buf w' g (l++[v / 256,v % 256]) c∧Keep (only g) w w':=by
 subst hl
 exact appendTwo_any g c l v w hb hroom hv
end Go.Proofs.YtlfijfodklhplaaGreat
