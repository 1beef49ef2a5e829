import Derived.Test.YtlfijfodklhplaaGreatSf01
import Derived.Deep.RegionLaw
set_option linter.unusedVariables false
set_option linter.unusedSimpArgs false
namespace Go.Proofs.YtlfijfodklhplaaGreat
open Go.RowKit
def bv (x:Nat):Value:=.int .u8 (x:Int)
def Buf (w:World) (g:Nat) (l:List Nat) (c:Nat):Prop:=∃ sp:List Value,Blk w g (l.map bv++sp).toArray 5∧l.length + sp.length=c
theorem Buf.keep {ex:Nat→Prop} {w w':World} {g:Nat} {l:List Nat} {c:Nat} (h:Buf w g l c) (k:Keep ex w w') (hn:¬ ex g):Buf w' g l c :=
  let ⟨sp,hb,hc⟩:=h; ⟨sp,hb.keep k hn,hc⟩
theorem Buf.lt {w:World} {g:Nat} {l:List Nat} {c:Nat} (h:Buf w g l c):g < w.heap.size:=let ⟨_,hb,_⟩:=h; hb.lt
theorem Buf.drew {w:World} {g:Nat} {l:List Nat} {c:Nat} (h:Buf w g l c):Buf w.drew g l c:=h
theorem Buf.alloc {w:World} {g:Nat} {l:List Nat} {c:Nat} (h:Buf w g l c) (o:Obj):Buf (w.alloc o) g l c:=h.keep ((Keep.refl nil w).alloc o) (fun e=>e)
theorem Buf.row {w:World} {g:Nat} {l:List Nat} {c:Nat} (h:Buf w g l c):Row w g 0 l:=by
  obtain ⟨sp,hb,_⟩:=h
  intro i hi
  rw [Nat.zero_add,hb.cell,List.getElem?_toArray,List.getElem?_append_left (by simpa using hi)]
  simp [hi,bv]
theorem Buf.len {w:World} {g:Nat} {l:List Nat} {c:Nat} (h:Buf w g l c):l.length≤c:=by
  obtain ⟨sp,_,hc⟩:=h; omega
theorem bv_one (l:List Nat):∀ u ∈ l.map bv,u.oneCell'=true:=by
  intro u hu
  obtain ⟨x,_,rfl⟩:=List.mem_map.1 hu
  rfl
theorem u8_info:(Tryz.prog.info? 5).map (fun i=>(i.zero,i.size,i.bytes))=some (some (.int .u8 0),1,1):=by kernel_rfl
theorem run_append_buf (w:World) (ty:TypeId) (g c:Nat) (l:List Nat) (hb:Buf w g l c) (ad:Addr) (m c':Nat) (news:List Nat) (hm:news.length=m) (hc:∀ j u,(news.map bv)[j]?=some u→w.cell? (ad.add j)=some u) (hroom:l.length + m≤c) :
    ∃ w',(Builtin.append_ #[56,56] ty #[.slice (some ⟨g,0,none⟩) l.length c,.slice (some ad) m c']).run Tryz.prog w=.ok (.slice (some ⟨g,0,none⟩) (l.length + m) c) w'∧Buf w' g (l++news) c∧Keep (only g) w w':=by
  obtain ⟨i,hi,hz,hs,hby⟩:=info_parts u8_info
  obtain ⟨sp,hb,hl⟩:=hb
  have hr:=run_append_room (P:=Tryz.prog) w 56 ty 5 i Tryz.underlying56 hi g l.length c (l.map bv++sp).toArray hb ad m c' (news.map bv) (by simp [hs,hm]) hc (bv_one news) hroom (by simp [hs,hm]; omega)
  refine ⟨_,hr,⟨sp.drop m,?_,by simp; omega⟩,?_⟩
  · unfold Blk at hb ⊢
    rw [setRow_heap w g _ _ _ _ hb]
    have e1:(l.map bv++sp).take (l.length * i.size)=l.map bv:=by rw [hs,Nat.mul_one]; exact List.take_left' (by simp)
    have e2:(l.map bv++sp).drop (l.length * i.size + (news.map bv).length)=sp.drop m:=by rw [hs,Nat.mul_one,List.length_map,hm,List.drop_append,List.drop_of_length_le (by simp)]; simp
    rw [e1,e2,List.map_append]
  · exact ⟨rfl,rfl,rfl,by simp [World.setRow],fun k hk hn=>setRow_other w g k _ hn⟩
theorem wpList_append_buf (w : World) {ops : Array Oper} {rest : List Oper} {o : Oper} {a : Act} {Q : Exit → Act → World → Prop}
    (hg:o.guard=none) (s x:Operand) (hop:o.op=Op.call { callee:=Callee.builtin Builtin.append,args:=#[s,x],argTypes:=#[56,56] })
    (g c:Nat) (l:List Nat) (hs:a.eval s=.slice (some ⟨g,0,none⟩) l.length c) (hb:Buf w g l c) (ad:Addr) (m c':Nat) (hx:a.eval x=.slice (some ad) m c') (news:List Nat) (hm:news.length=m)
    (hc:∀ j u,(news.map bv)[j]?=some u→w.cell? (ad.add j)=some u) (hroom:l.length + m≤c)
    (hK:∀ w',Buf w' g (l++news) c→Keep (only g) w w'→wpList Tryz.prog ops Q rest (a.put o.dst (.slice (some ⟨g,0,none⟩) (l.length + m) c)) w') :
    wpList Tryz.prog ops Q (o :: rest) a w:=by
  refine wpList_plain hg fun K hK'=>?_
  obtain ⟨w',hrun,r1,r2⟩:=run_append_buf w o.type g c l hb ad m c' news hm hc hroom
  unfold Oper.wp
  simp [execOp,hop,resolve,invoke,builtin,hs,hx,hrun,Result.andThen]
  exact hK' _ _ (hK w' r1 r2)
theorem step_append_buf {ops : Array Oper} {o : Oper} {a : Act} {w : World} {K : Act → World → Prop} {Q : Exit → Act → World → Prop} {E : Prop}
    (hg:o.guard=none) (s x:Operand) (hop:o.op=Op.call { callee:=Callee.builtin Builtin.append,args:=#[s,x],argTypes:=#[56,56] })
    (g c:Nat) (l:List Nat) (k:Nat) (hl:l.length=k) (hs:a.eval s=.slice (some ⟨g,0,none⟩) k c) (hb:Buf w g l c) (ad:Addr) (m c':Nat) (hx:a.eval x=.slice (some ad) m c') (news:List Nat) (hm:news.length=m)
    (hc:∀ j u,(news.map bv)[j]?=some u→w.cell? (ad.add j)=some u) (hroom:k + m≤c)
    (hK:∀ w',Buf w' g (l++news) c→Keep (only g) w w'→K (a.put o.dst (.slice (some ⟨g,0,none⟩) (k + m) c)) w') :
    if Region.wanted o (yielded ops a.tmps)=true then Oper.wp Tryz.prog o a w K Q else E:=by
  subst hl
  have hw:Region.wanted o (yielded ops a.tmps)=true:=by simp [Region.wanted,hg]
  rw [if_pos hw]
  obtain ⟨w',hrun,r1,r2⟩:=run_append_buf w o.type g c l hb ad m c' news hm hc hroom
  unfold Oper.wp
  simp [execOp,hop,resolve,invoke,builtin,hs,hx,hrun,Result.andThen]
  exact hK w' r1 r2
theorem cells_two (w:World) (x y:Int) (a b:Nat) (hx:x=(a:Int)) (hy:y=(b:Int)) (t:TypeId) :
    ∀ j u,([a,b].map bv)[j]?=some u→(w.alloc (.cells #[.int .u8 x,.int .u8 y] t)).cell? ((⟨w.heap.size,0,none⟩:Addr).add j)=some u:=by
  intro j u hu
  subst hx hy
  rw [Addr.add_lit,Nat.zero_add,World.cell?_alloc_new]
  match j,hu with
  | 0,hu=>simpa [bv] using hu
  | 1,hu=>simpa [bv] using hu
set_option maxHeartbeats 1000000 in
theorem appendTwo_any (g c:Nat) (l:List Nat) (v:Nat) (w:World) (hb:Buf w g l c) (hroom:l.length + 2≤c) (hv:v < 65536) :
    Calls Tryz.prog 177 #[.slice (some ⟨g,0,none⟩) l.length c,.int .i64 (v:Int)] w fun e w'=>e=.returned (.slice (some ⟨g,0,none⟩) (l.length + 2) c)∧Buf w' g (l++[v / 256,v % 256]) c∧Keep (only g) w w':=by
  go_enter Tryz.func177,Tryz.ntmps177
  go_wp2_with (at_builtin; refine wpList_append_buf _ rfl (.tmp 5) (.tmp 11) rfl g c l rfl (hb.alloc _) ⟨w.heap.size,0,none⟩ 2 2 rfl [v / 256,v % 256] rfl (cells_two w _ _ _ _ (by omega) (by omega) _) hroom ?_; intro w1 hb1 hk1)
  go_ret
  exact ⟨rfl,hb1,((Keep.refl _ _).alloc _).trans hk1⟩
theorem appendTwo_at (g c:Nat) (l:List Nat) (k:Nat) (hl:l.length=k) (v:Nat) (w:World) (hb:Buf w g l c) (hroom:k + 2≤c) (hv:v < 65536) :
    Calls Tryz.prog 177 #[.slice (some ⟨g,0,none⟩) k c,.int .i64 (v:Int)] w fun e w'=>e=.returned (.slice (some ⟨g,0,none⟩) (k + 2) c)∧Buf w' g (l++[v / 256,v % 256]) c∧Keep (only g) w w':=by
  subst hl
  exact appendTwo_any g c l v w hb hroom hv
theorem cells_list (w:World) (vs:List Value) (t:TypeId) (n:Nat) (hn:n=w.heap.size):∀ j u,vs[j]?=some u→(w.alloc (.cells vs.toArray t)).cell? ((⟨n,0,none⟩:Addr).add j)=some u:=by
  intro j u hu
  subst hn
  rw [Addr.add_lit,Nat.zero_add,World.cell?_alloc_new,List.getElem?_toArray]
  exact hu
def VBo (w:World) (g o:Nat) (e:TypeId) (size:Nat) (vs:List Value) (c:Nat):Prop:=∃ pre sp:List Value,Blk w g (pre++vs++sp).toArray e∧pre.length=o∧c * size≤vs.length + sp.length
theorem VBo.keep {ex:Nat→Prop} {w w':World} {g o:Nat} {e:TypeId} {size:Nat} {vs:List Value} {c:Nat} (h:VBo w g o e size vs c) (k:Keep ex w w') (hn:¬ ex g):VBo w' g o e size vs c :=
  let ⟨pre,sp,hb,hc⟩:=h; ⟨pre,sp,hb.keep k hn,hc⟩
theorem VBo.lt {w:World} {g o:Nat} {e:TypeId} {size:Nat} {vs:List Value} {c:Nat} (h:VBo w g o e size vs c):g < w.heap.size:=let ⟨_,_,hb,_⟩:=h; hb.lt
theorem VBo.cell {w:World} {g o:Nat} {e:TypeId} {size:Nat} {vs:List Value} {c:Nat} (h:VBo w g o e size vs c) (i:Nat) (u:Value) (hu:vs[i]?=some u):w.cell? ⟨g,o + i,none⟩=some u:=by
  obtain ⟨pre,sp,hb,rfl,_⟩:=h
  have hi:=(List.getElem?_eq_some_iff.1 hu).1
  rw [hb.cell,List.getElem?_toArray,List.append_assoc,List.getElem?_append_right (by omega),List.getElem?_append_left (by omega),← hu]
  congr 1; omega
theorem VBo.frozen {w:World} {g o:Nat} {e:TypeId} {size:Nat} {vs:List Value} {c:Nat} (h:VBo w g o e size vs c) (i:Nat):w.frozen? ⟨g,i,none⟩=false:=let ⟨_,_,hb,_⟩:=h; hb.frozen i
theorem VBo.drop {w:World} {g o:Nat} {e:TypeId} {size:Nat} {vs:List Value} {c:Nat} (h:VBo w g o e size vs c) (n:Nat) (hn:n * size≤vs.length):VBo w g (o + n * size) e size (vs.drop (n * size)) (c - n):=by
  obtain ⟨pre,sp,hb,rfl,hl⟩:=h
  refine ⟨pre++vs.take (n * size),sp,?_,by simp; omega,?_⟩
  · rw [List.append_assoc pre,List.take_append_drop]; exact hb
  · rw [List.length_drop,Nat.sub_mul]; omega
theorem VBo.stop {w:World} {g o:Nat} {e:TypeId} {size:Nat} {vs:List Value} {c:Nat} (h:VBo w g o e size vs c):VBo w g o e size [] 0:=by
  obtain ⟨pre,sp,hb,hl,_⟩:=h
  exact ⟨pre,vs++sp,by simpa using hb,hl,by simp⟩
def inB (a:Option Addr) (k:Nat):Prop:=∃ o,a=some ⟨k,o,none⟩
theorem inB_none (k:Nat):¬ inB none k:=fun ⟨_,h⟩=>by cases h
theorem inB_some {g o k:Nat}:inB (some ⟨g,o,none⟩) k ↔ k=g:=⟨fun ⟨_,h⟩=>by cases h; rfl,fun h=>⟨o,by rw [h]⟩⟩
theorem inB_self (g o:Nat):inB (some ⟨g,o,none⟩) g:=⟨o,rfl⟩
def RV (w:World) (e:TypeId) (size:Nat) (a:Option Addr) (n c:Nat) (vs:List Value):Prop :=
  vs.length=n * size∧n≤c∧((a=none∧n=0∧c=0)∨∃ g o,a=some ⟨g,o,none⟩∧VBo w g o e size vs c)
theorem RV.keep {ex:Nat→Prop} {w w':World} {e:TypeId} {size:Nat} {a:Option Addr} {n c:Nat} {vs:List Value} (h:RV w e size a n c vs) (k:Keep ex w w') (hn:∀ g,inB a g→¬ ex g):RV w' e size a n c vs:=by
  obtain ⟨h1,h2,h3⟩:=h
  refine ⟨h1,h2,?_⟩
  rcases h3 with h3 | ⟨g,o,rfl,hb⟩
  · exact Or.inl h3
  · exact Or.inr ⟨g,o,rfl,hb.keep k (hn g (inB_self g o))⟩
theorem RV.lt {w:World} {e:TypeId} {size:Nat} {a:Option Addr} {n c:Nat} {vs:List Value} (h:RV w e size a n c vs):∀ g,inB a g→g < w.heap.size:=by
  obtain ⟨_,_,h3⟩:=h
  rintro g ⟨o,rfl⟩
  rcases h3 with ⟨h3,_⟩ | ⟨g',o',h,hb⟩
  · cases h3
  · cases h; exact hb.lt
theorem RV.drew {w:World} {e:TypeId} {size:Nat} {a:Option Addr} {n c:Nat} {vs:List Value} (h:RV w e size a n c vs):RV w.drew e size a n c vs:=h
theorem RV.alloc {w:World} {e:TypeId} {size:Nat} {a:Option Addr} {n c:Nat} {vs:List Value} (h:RV w e size a n c vs) (o:Obj):RV (w.alloc o) e size a n c vs:=h.keep ((Keep.refl nil w).alloc o) (fun _ _ e=>e)
theorem RV.nil (w:World) (e:TypeId) (size:Nat):RV w e size none 0 0 []:=⟨by simp,Nat.le_refl _,Or.inl ⟨rfl,rfl,rfl⟩⟩
theorem run_append_room_at {P : Program} (w : World) (t ty e : TypeId) (i : TypeInfo) (ht : P.underlying t = some (.slice e)) (hi : P.info? e = some i)
    (g o sLen sCap:Nat) (cur:Array Value) (hg:w.heap[g]?=some (.cells cur e (0,0)))
    (a:Addr) (m c:Nat) (news:List Value) (hl:news.length=m * i.size) (hnews:∀ j u,news[j]?=some u→w.cell? (a.add j)=some u) (h1:∀ u ∈ news,u.oneCell'=true)
    (hroom:sLen + m≤sCap) (hfit:o + sLen * i.size + news.length≤cur.size) :
    (Builtin.append_ #[t, t] ty #[.slice (some ⟨g, o, none⟩) sLen sCap, .slice (some a) m c]).run P w =
      .ok (.slice (some ⟨g,o,none⟩) (sLen + m) sCap) (w.setRow g (cur.toList.take (o + sLen * i.size)++news++cur.toList.drop (o + sLen * i.size + news.length)).toArray):=by
  have hf:=run_firstCells_some (P:=P) w i.size m a m c news hl hnews
  have hst:=run_storeCells_at P g (o + sLen * i.size) e news 0 cur w hg (by simpa using hfit) h1
  simp only [Nat.add_zero] at hst
  simp [Builtin.append_,run_underlying ht,sizeOf,typeInfo,hi,Builtin.lenOf,hroom,hf,Addr.add_lit,hst]
theorem run_append_rv {P : Program} (w : World) (t ty e : TypeId) (z : Value) (size bytes : Nat) (ht : P.underlying t = some (.slice e)) (hinfo : (P.info? e).map (fun i => (i.zero, i.size, i.bytes)) = some (some z, size, bytes)) (hzs : z.cells.size = size)
    (a:Option Addr) (n c:Nat) (vs:List Value) (hb:RV w e size a n c vs) (ad:Addr) (m c':Nat) (h0:0 < m) (news:List Value) (hm:news.length=m * size)
    (hc:∀ j u,news[j]?=some u→w.cell? (ad.add j)=some u) (h1:∀ u ∈ news,u.oneCell'=true) (hbytes:(n + m) * bytes≤140737488355328) (h63:n + m≤9223372036854775807) :
    ∃ a' k' w',(Builtin.append_ #[t,t] ty #[.slice a n c,.slice (some ad) m c']).run P w=.ok (.slice a' (n + m) k') w'∧RV w' e size a' (n + m) k' (vs++news)∧(∀ g,inB a' g→inB a g∨g=w.heap.size)∧Keep (inB a) w w':=by
  obtain ⟨hn,hnc,hb⟩:=hb
  have hlen:(vs++news).length=(n + m) * size:=by rw [List.length_append,hn,hm,Nat.add_mul]
  rcases hb with ⟨rfl,rfl,rfl⟩ | ⟨g,o,rfl,hb⟩
  · have hv:vs=[]:=List.eq_nil_of_length_eq_zero (by simpa using hn)
    subst hv
    rw [Nat.zero_add] at hbytes h63 ⊢
    obtain ⟨k',w',hr,h2,h3,h4⟩:=run_append_new (P:=P) w t ty e z size bytes ht hinfo hzs ad m c' h0 news hm hc hbytes h63
    obtain ⟨sp,hbl,hsp⟩:=h2
    refine ⟨_,k',w',hr,⟨by simpa using hm,h3,Or.inr ⟨w.heap.size,0,rfl,[],sp,by simpa using hbl,rfl,by simp at hsp ⊢; omega⟩⟩,fun g hg=>Or.inr (inB_some.1 hg),h4.mono (fun _ _ e=>e.elim)⟩
  · obtain ⟨i,hi,hz,hs,hby⟩:=info_parts hinfo
    have hb0:=hb
    obtain ⟨pre,sp,hbl,rfl,hl⟩:=hb
    by_cases hroom:n + m≤c
    · have hsp:m * size≤sp.length:=by
        have:(n + m) * size≤c * size:=Nat.mul_le_mul_right _ hroom
        rw [Nat.add_mul] at this; omega
      have hr:=run_append_room_at (P:=P) w t ty e i ht hi g pre.length n c (pre++vs++sp).toArray hbl ad m c' news (by rw [hm,hs]) hc h1 hroom (by simp [hs,hm,hn]; omega)
      refine ⟨_,c,_,hr,⟨hlen,hroom,Or.inr ⟨g,pre.length,rfl,pre,sp.drop (m * size),?_,rfl,by simp [hm,hn]; omega⟩⟩,fun k hk=>Or.inl hk,?_⟩
      · unfold Blk at hbl ⊢
        rw [setRow_heap w g _ _ _ _ hbl]
        have e1:(pre++vs++sp).take (pre.length + n * i.size)=pre++vs:=by rw [hs,← hn,← List.length_append]; exact List.take_left
        have e2:(pre++vs++sp).drop (pre.length + n * i.size + news.length)=sp.drop (m * size):=by rw [hs,← hn,hm,← List.length_append,List.drop_append,List.drop_of_length_le (by omega)]; simp
        rw [e1,e2]; simp
      · exact ⟨rfl,rfl,rfl,by simp [World.setRow],fun k hk hn=>setRow_other w g k _ (fun e=>hn (inB_some.2 e))⟩
    · have hg:c < n + m:=by omega
      have hr:=run_append_grow (P:=P) w t ty e i z ht hi hz ⟨g,pre.length,none⟩ n c vs (by rw [hn,hs]) (fun j v hv=>by
        rw [Addr.add_lit]; exact hb0.cell j v hv) ad m c' news (by rw [hm,hs]) hc hg (by omega) (by rw [hby]; exact growslice_fits hg hbytes)
      have hge:=grownCap_ge w (n + m) c e
      refine ⟨_,_,_,hr,⟨hlen,hge,Or.inr ⟨w.heap.size,0,rfl,[],(Builtin.zeroCells z.cells (grownCap w (n + m) c e - (n + m))).toList,?_,rfl,?_⟩⟩,fun k hk=>Or.inr (inB_some.1 hk),((Keep.refl _ w).drew).alloc _⟩
      · have:=Blk.new w.drew (vs.toArray++news.toArray++Builtin.zeroCells z.cells (grownCap w (n + m) c e - (n + m))) e
        have e3:vs.toArray++news.toArray++Builtin.zeroCells z.cells (grownCap w (n + m) c e - (n + m))=([]++(vs++news)++(Builtin.zeroCells z.cells (grownCap w (n + m) c e - (n + m))).toList).toArray:=by
          apply Array.ext'; simp
        rw [e3] at this ⊢
        exact this
      · rw [zero_len,hzs,List.length_append,hn,hm,← Nat.add_mul,← Nat.add_mul]
        exact Nat.mul_le_mul_right _ (by omega)
theorem wpList_append_rv {P : Program} (w : World) {ops : Array Oper} {rest : List Oper} {o : Oper} {a : Act} {Q : Exit → Act → World → Prop}
    (hg:o.guard=none) (s x:Operand) (t:TypeId) (hop:o.op=Op.call { callee:=Callee.builtin Builtin.append,args:=#[s,x],argTypes:=#[t,t] })
    (e:TypeId) (z:Value) (size bytes:Nat) (ht:P.underlying t=some (.slice e)) (hinfo:(P.info? e).map (fun i=>(i.zero,i.size,i.bytes))=some (some z,size,bytes)) (hzs:z.cells.size=size)
    (sa:Option Addr) (n c:Nat) (hs:a.eval s=.slice sa n c) (vs:List Value) (hb:RV w e size sa n c vs) (ad:Addr) (m c':Nat) (h0:0 < m) (hx:a.eval x=.slice (some ad) m c') (news:List Value) (hm:news.length=m * size)
    (hc:∀ j u,news[j]?=some u→w.cell? (ad.add j)=some u) (h1:∀ u ∈ news,u.oneCell'=true) (hbytes:(n + m) * bytes≤140737488355328) (h63:n + m≤9223372036854775807)
    (hK:∀ a' k' w',RV w' e size a' (n + m) k' (vs++news)→(∀ g,inB a' g→inB sa g∨g=w.heap.size)→Keep (inB sa) w w'→wpList P ops Q rest (a.put o.dst (.slice a' (n + m) k')) w') :
    wpList P ops Q (o :: rest) a w:=by
  refine wpList_plain hg fun K hK'=>?_
  obtain ⟨a',k',w',hrun,r1,r2,r3⟩:=run_append_rv (P:=P) w t o.type e z size bytes ht hinfo hzs sa n c vs hb ad m c' h0 news hm hc h1 hbytes h63
  unfold Oper.wp
  simp [execOp,hop,resolve,invoke,builtin,hs,hx,hrun,Result.andThen]
  exact hK' _ _ (hK a' k' w' r1 r2 r3)
theorem step_append_rv {P : Program} {ops : Array Oper} {o : Oper} {a : Act} {w : World} {K : Act → World → Prop} {Q : Exit → Act → World → Prop} {E : Prop}
    (hg:o.guard=none) (s x:Operand) (t:TypeId) (hop:o.op=Op.call { callee:=Callee.builtin Builtin.append,args:=#[s,x],argTypes:=#[t,t] })
    (e:TypeId) (z:Value) (size bytes:Nat) (ht:P.underlying t=some (.slice e)) (hinfo:(P.info? e).map (fun i=>(i.zero,i.size,i.bytes))=some (some z,size,bytes)) (hzs:z.cells.size=size)
    (sa:Option Addr) (n c:Nat) (hs:a.eval s=.slice sa n c) (vs:List Value) (hb:RV w e size sa n c vs) (ad:Addr) (m c':Nat) (h0:0 < m) (hx:a.eval x=.slice (some ad) m c') (news:List Value) (hm:news.length=m * size)
    (hc:∀ j u,news[j]?=some u→w.cell? (ad.add j)=some u) (h1:∀ u ∈ news,u.oneCell'=true) (hbytes:(n + m) * bytes≤140737488355328) (h63:n + m≤9223372036854775807)
    (hK:∀ a' k' w',RV w' e size a' (n + m) k' (vs++news)→(∀ g,inB a' g→inB sa g∨g=w.heap.size)→Keep (inB sa) w w'→K (a.put o.dst (.slice a' (n + m) k')) w') :
    if Region.wanted o (yielded ops a.tmps)=true then Oper.wp P o a w K Q else E:=by
  have hw:Region.wanted o (yielded ops a.tmps)=true:=by simp [Region.wanted,hg]
  rw [if_pos hw]
  obtain ⟨a',k',w',hrun,r1,r2,r3⟩:=run_append_rv (P:=P) w t o.type e z size bytes ht hinfo hzs sa n c vs hb ad m c' h0 news hm hc h1 hbytes h63
  unfold Oper.wp
  simp [execOp,hop,resolve,invoke,builtin,hs,hx,hrun,Result.andThen]
  exact hK a' k' w' r1 r2 r3
def put (c:Array Value) (o:Nat) (l:List Value):Array Value:=(c.toList.take o++l++c.toList.drop (o + l.length)).toArray
theorem put_size (c:Array Value) (o:Nat) (l:List Value) (h:o + l.length≤c.size):(put c o l).size=c.size:=by
  simp [put]; omega
theorem put_get (c:Array Value) (o:Nat) (l:List Value) (h:o + l.length≤c.size) (i:Nat) (hi:i < l.length):(put c o l)[o + i]?=l[i]?:=by
  have h1:(c.toList.take o).length=o:=by simp; omega
  rw [put,List.getElem?_toArray,List.append_assoc,List.getElem?_append_right (by omega),h1,List.getElem?_append_left (by omega)]
  congr 1; omega
theorem put_set (c:Array Value) (o:Nat) (l:List Value) (h:o + l.length≤c.size) (i:Nat) (hi:i < l.length) (v:Value):(put c o l).setIfInBounds (o + i) v=put c o (l.set i v):=by
  have h1:(c.toList.take o).length=o:=by simp; omega
  apply Array.ext'
  simp only [put,Array.toList_setIfInBounds,List.length_set]
  rw [List.append_assoc,List.append_assoc,List.set_append_right _ _ (by omega),h1,List.set_append_left _ _ (by omega)]
  congr 3; omega
theorem Blk.at {w:World} {b:Nat} {c:Array Value} {t:TypeId} {o:Nat} {l:List Value} (h:Blk w b (put c o l) t) (hf:o + l.length≤c.size) (i:Nat) (v:Value) (hv:l[i]?=some v):w.cell? ⟨b,o + i,none⟩=some v:=by
  rw [h.cell,put_get c o l hf i (List.getElem?_eq_some_iff.1 hv).1,hv]
theorem Blk.put_at {w:World} {b:Nat} {c:Array Value} {t:TypeId} {o:Nat} {l:List Value} (h:Blk w b (put c o l) t) (hf:o + l.length≤c.size) (i:Nat) (hi:i < l.length) (v:Value):Blk (w.setCell ⟨b,o + i,none⟩ v) b (put c o (l.set i v)) t:=by
  rw [← put_set c o l hf i hi v]
  exact h.set (o + i) v
structure Rd (w : World) (rb : Nat) (bb bo cap : Nat) (l : List Nat) (k : Nat) : Prop where
  blk:Blk w rb #[.slice (some ⟨bb,bo,none⟩) l.length cap,.int .i64 (k:Int)] 330
  row:Row w bb bo l
  ne:bb≠rb
  bb:bb < w.heap.size
  len:l.length < 140737488355328
  byte:∀ x ∈ l,x < 256
theorem Rd.keep {ex:Nat→Prop} {w w':World} {rb bb bo cap:Nat} {l:List Nat} {k:Nat} (h:Rd w rb bb bo cap l k) (g:Keep ex w w') (h1:¬ ex rb) (h2:¬ ex bb):Rd w' rb bb bo cap l k :=
  ⟨h.blk.keep g h1,h.row.keep g h.bb h2,h.ne,Nat.lt_of_lt_of_le h.bb g.size,h.len,h.byte⟩
theorem Rd.next {w:World} {rb bb bo cap:Nat} {l:List Nat} {k:Nat} (h:Rd w rb bb bo cap l k):Rd (w.setCell ⟨rb,1,none⟩ (.int .i64 ((k:Int) + 1))) rb bb bo cap l (k + 1):=by
  have hk:Keep (only rb) w (w.setCell ⟨rb,1,none⟩ (.int .i64 ((k:Int) + 1))):=(Keep.refl (only rb) w).setCell (p:=⟨rb,1,none⟩) (fun _=>rfl) _
  exact ⟨by simpa using h.blk.set 1 (.int .i64 ((k:Int) + 1)),h.row.keep hk h.bb h.ne,h.ne,by simpa using h.bb,h.len,h.byte⟩
theorem Rd.drewN {w:World} {rb bb bo cap:Nat} {l:List Nat} {k:Nat} (h:Rd w rb bb bo cap l k) (n:Nat):Rd (w.drewN n) rb bb bo cap l k :=
  h.keep ((Keep.refl nil w).drewN n) (fun e=>e) (fun e=>e)
theorem Rd.alloc {w:World} {rb bb bo cap:Nat} {l:List Nat} {k:Nat} (h:Rd w rb bb bo cap l k) (o:Obj):Rd (w.alloc o) rb bb bo cap l k :=
  h.keep ((Keep.refl nil w).alloc o) (fun e=>e) (fun e=>e)
theorem Rd.setCell {w:World} {rb bb bo cap:Nat} {l:List Nat} {k:Nat} (h:Rd w rb bb bo cap l k) (p:Addr) (v:Value) (h1:p.block≠rb) (h2:p.block≠bb):Rd (w.setCell p v) rb bb bo cap l k :=
  h.keep ((Keep.refl (only p.block) w).setCell (fun _=>rfl) v) (fun e=>h1 e.symm) (fun e=>h2 e.symm)
theorem Rd.lt {w:World} {rb bb bo cap:Nat} {l:List Nat} {k:Nat} (h:Rd w rb bb bo cap l k):rb < w.heap.size:=h.blk.lt
set_option maxHeartbeats 400000 in
theorem one_yes (rb bb bo cap:Nat) (l:List Nat) (k:Nat) (w:World) (hr:Rd w rb bb bo cap l k) (hk:k < l.length) :
    Calls Tryz.prog 225 #[.pointer (some ⟨rb,0,none⟩)] w fun e w'=>e=.returned (.int .i64 ((l[k]:Nat):Int))∧Rd w' rb bb bo cap l (k + 1)∧Keep (only rb) w w':=by
  have c0:=hr.blk.cell 0
  have c1:=hr.blk.cell 1
  have f1:=hr.blk.frozen 1
  simp at c0 c1
  have hlen:=hr.len
  have hx:=hr.byte _ (List.getElem_mem hk)
  have hne:=hr.ne
  have hrow:∀ n,((w.drewN n).setCell ⟨rb,1,none⟩ (.int .i64 ((k:Int) + 1))).cell? ⟨bb,bo + k,none⟩=some (.int .u8 ((l[k]:Nat):Int)):=fun n=>(hr.drewN n).next.row k hk
  go_enter Tryz.func225,Tryz.ntmps225
  go_wp2
  go_quiet ((go_at_call 210; exact Calls.quiet_of_same (must_yes _)))
  go_wp2
  go_quiet (fail)
  go_wp2
  go_ret
  exact ⟨rfl,(hr.drewN _).next.drewN _,(((Keep.refl (only rb) w).drewN _).setCell (p:=⟨rb,1,none⟩) (fun _=>rfl) _).drewN _⟩
set_option maxHeartbeats 400000 in
theorem one_no (rb bb bo cap:Nat) (l:List Nat) (k:Nat) (w:World) (hr:Rd w rb bb bo cap l k) (hk:l.length≤k) :
    Calls Tryz.prog 225 #[.pointer (some ⟨rb,0,none⟩)] w fun e w'=>e=.panicked noFrame∧Keep (only rb) w w':=by
  have c0:=hr.blk.cell 0
  have c1:=hr.blk.cell 1
  simp at c0 c1
  have hd:decide (k < l.length)=false:=by simpa using hk
  go_enter Tryz.func225,Tryz.ntmps225
  go_wp2
  go_region_dies
  all_goals
    refine (must_no _).mono ?_
    rintro e w' ⟨rfl,rfl⟩
    exact ⟨rfl,rfl,(Keep.refl _ _).drew⟩
end Go.Proofs.YtlfijfodklhplaaGreat
