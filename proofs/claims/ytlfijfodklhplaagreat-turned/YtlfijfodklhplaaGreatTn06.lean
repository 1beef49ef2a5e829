import Derived.Test.YtlfijfodklhplaaGreatTn05
import Derived.Test.YtlfijfodklhplaaGreatTn02
set_option maxHeartbeats 1000000
set_option linter.unusedVariables false
set_option linter.unusedSimpArgs false
namespace Go.Proofs.YtlfijfodklhplaaGreat
open Go.RowKit
abbrev fv(f:Fr.Frm):Array Value:=fc f.data (f.seq:Int) (f.m.kind:Int) (f.m.level:Int) (f.m.name:Int) f.m.finding
def FrOk(f:Fr.Frm):Prop:=f.seq<65536∧((f.data=true∧f.m.kind<256∧f.m.level<256∧f.m.name<65536∧may (f.m.kind:Int) (f.m.level:Int) (f.m.name:Int) f.m.finding=true)∨(f.data=false∧f.m=Fr.none0))
def flen(f:Fr.Frm):Nat:=if f.data then 10 else 5
theorem encode_any(f:Fr.Frm)(hf:FrOk f)(w:World):
 Calls Tryz.prog 124 #[.agg (fv f)] w fun e w'=>
  ∃g,e=.returned (.tuple #[.slice (some ⟨g,0,none⟩) (flen f) 10,.int .i64 0])∧w.heap.size≤g∧Buf w' g (Fr.enc f) 10∧Keep nil w w':=by
 obtain⟨d,s,m⟩:=f
 obtain⟨h0,⟨h1,h2,h3,h4,h5⟩|⟨h1,h2⟩⟩:=hf
 ·simp only at h0 h1 h2 h3 h4 h5
  subst h1
  exact encode_msg s h0 m h2 h3 h4 h5 w
 ·simp only at h0 h1 h2
  subst h1 h2
  exact encode_ack s h0 w
def six(f:Fr.Frm):Six:=⟨f.data,(f.seq:Int),(f.m.kind:Int),(f.m.level:Int),(f.m.name:Int),f.m.finding⟩
theorem enc_len(f:Fr.Frm):(Fr.enc f).length=flen f:=by
 obtain⟨d,s,m⟩:=f
 cases d<;>simp[Fr.enc,Fr.sealed,Fr.body,flen]
theorem toNat_lt(f:Bool):f.toNat<256:=by cases f<;>simp
theorem body_byte(f:Fr.Frm)(hf:FrOk f):∀x∈Fr.body f,x<256:=by
 obtain⟨d,s,m⟩:=f
 obtain⟨h0,⟨h1,h2,h3,h4,h5⟩|⟨h1,h2⟩⟩:=hf
 ·simp only at h0 h1 h2 h3 h4
  subst h1
  intro x hx
  simp only[Fr.body,if_true,List.mem_cons,List.not_mem_nil,or_false]at hx
  have:=toNat_lt m.finding
  omega
 ·simp only at h0 h1
  subst h1
  intro x hx
  simp[Fr.body]at hx
  omega
theorem enc_byte(f:Fr.Frm)(hf:FrOk f):∀x∈Fr.enc f,x<256:=by
 have hb:=body_byte f hf
 have hc:=Fr.crc_lt (Fr.body f) hb
 intro x hx
 simp only[Fr.enc,Fr.sealed,List.mem_append,List.mem_cons,List.not_mem_nil,or_false]at hx
 rcases hx with hx|hx|hx
 ·exact hb x hx
 ·omega
 ·omega
theorem enc_read(f:Fr.Frm)(hf:FrOk f):ReadOk (Fr.enc f) (six f):=by
 have hb:=body_byte f hf
 have hc:=Fr.crc_lt (Fr.body f) hb
 obtain⟨d,s,m⟩:=f
 obtain⟨h0,⟨h1,h2,h3,h4,h5⟩|⟨h1,h2⟩⟩:=hf
 ·simp only at h0 h1 h2 h3 h4 h5
  subst h1
  have e:Fr.enc ⟨true,s,m⟩=[1,s / 256,s % 256,m.kind,m.level,m.finding.toNat,m.name / 256,m.name % 256]++[Fr.crc (Fr.body ⟨true,s,m⟩) / 256,Fr.crc (Fr.body ⟨true,s,m⟩) % 256]:=by simp[Fr.enc,Fr.sealed,Fr.body]
  have e':Fr.body ⟨true,s,m⟩=[1,s / 256,s % 256,m.kind,m.level,m.finding.toNat,m.name / 256,m.name % 256]:=by simp[Fr.body]
  rw[e]
  generalize hq:Fr.crc (Fr.body ⟨true,s,m⟩)=q at *
  rw[e']at hq
  refine⟨8,q / 256,q % 256,⟨s / 256,s % 256,rfl,rfl,Or.inr ⟨rfl,rfl,m.kind,m.level,m.finding.toNat,m.name / 256,m.name % 256,rfl,rfl,rfl,rfl,rfl,?_,?_,?_⟩⟩,rfl,rfl,?_,rfl⟩
  ·cases m.finding<;>simp
  ·have e1:((m.name / 256:Nat):Int) * 256+((m.name % 256:Nat):Int)=(m.name:Int):=by omega
   have e2:(m.finding.toNat==1)=m.finding:=by cases m.finding<;>rfl
   rw[e1,e2];exact h5
  ·have e1:((m.name / 256:Nat):Int) * 256+((m.name % 256:Nat):Int)=(m.name:Int):=by omega
   have e2:(m.finding.toNat==1)=m.finding:=by cases m.finding<;>rfl
   have e3:((s / 256:Nat):Int) * 256+((s % 256:Nat):Int)=(s:Int):=by omega
   rw[e1,e2,e3];rfl
  ·show q / 256 * 256+q % 256=Fr.crc [1,s / 256,s % 256,m.kind,m.level,m.finding.toNat,m.name / 256,m.name % 256]
   rw[hq];omega
 ·simp only at h0 h1 h2
  subst h1 h2
  have e:Fr.enc ⟨false,s,Fr.none0⟩=[2,s / 256,s % 256]++[Fr.crc (Fr.body ⟨false,s,Fr.none0⟩) / 256,Fr.crc (Fr.body ⟨false,s,Fr.none0⟩) % 256]:=by simp[Fr.enc,Fr.sealed,Fr.body]
  have e':Fr.body ⟨false,s,Fr.none0⟩=[2,s / 256,s % 256]:=by simp[Fr.body]
  rw[e]
  generalize hq:Fr.crc (Fr.body ⟨false,s,Fr.none0⟩)=q at *
  rw[e']at hq
  refine⟨3,q / 256,q % 256,⟨s / 256,s % 256,rfl,rfl,Or.inl ⟨rfl,rfl,?_⟩⟩,rfl,rfl,?_,rfl⟩
  ·have e3:((s / 256:Nat):Int) * 256+((s % 256:Nat):Int)=(s:Int):=by omega
   rw[e3];rfl
  ·show q / 256 * 256+q % 256=Fr.crc [2,s / 256,s % 256]
   rw[hq];omega
structure En where
 first:Nat
 wait:List Fr.Msg
 await:Nat
 kept:List (Option Fr.Msg)
 out:List Fr.Frm
namespace En
def new:En:=⟨0,[],0,[none,none,none,none],[]⟩
def frames(n:Nat):List Fr.Msg→List Fr.Frm
 |[]=>[]
 |m::r=>⟨true,n,m⟩::frames (n+1) r
def shown(e:En):Nat:=min e.wait.length 4
def showFrom(e:En)(k:Nat):En:={ e with out:=e.out++frames (e.first+k) ((e.wait.take 4).drop k)}
def put(e:En)(m:Fr.Msg):En:={ e with wait:=e.wait++[m]}
def send(e:En)(m:Fr.Msg):En:=(e.put m).showFrom e.shown
def drop(e:En)(n:Nat):En:={ e with first:=e.first+n,wait:=e.wait.drop n}
def ack(e:En)(n:Nat):En:=if e.first<n∧n≤e.first+e.shown then (e.drop (n - e.first)).showFrom (e.shown - (n - e.first))else e
def keep(e:En)(n:Nat)(m:Fr.Msg):En:=if e.await≤n then (match e.kept[n - e.await]? with|some none=>{ e with kept:=e.kept.set (n - e.await) (some m)}|_=>e)else e
def ready:List (Option Fr.Msg)→List Fr.Msg
 |some m::r=>m::ready r
 |_=>[]
def take(e:En):En:={ e with await:=e.await+(ready e.kept).length,kept:=e.kept.drop (ready e.kept).length++List.replicate (ready e.kept).length none}
def answer(e:En):En:=if e.await<65536 then { e with out:=e.out++[⟨false,e.await,Fr.none0⟩]}else e
def came(e:En)(n:Nat)(m:Fr.Msg):En:=(e.keep n m).take.answer
def told(e:En)(n:Nat)(m:Fr.Msg):List Fr.Msg:=ready (e.keep n m).kept
def tick(e:En):En:=e.showFrom 0
def outs(e:En):En:={ e with out:=[]}
end En
theorem frames_len(n:Nat)(l:List Fr.Msg):(En.frames n l).length=l.length:=by
 induction l generalizing n with
 |nil=>rfl
 |cons m r ih=>simp[En.frames,ih]
theorem frames_append(n:Nat)(l k:List Fr.Msg):En.frames n (l++k)=En.frames n l++En.frames (n+l.length) k:=by
 induction l generalizing n with
 |nil=>simp[En.frames]
 |cons m r ih=>simp only[List.cons_append,En.frames,ih,List.length_cons];rw[Nat.add_right_comm,←Nat.add_assoc]
def mcell(m:Fr.Msg):List Value:=[.int .i64 (m.kind:Int),.int .i64 (m.level:Int),.int .i64 (m.name:Int),.bool m.finding]
def mcells(l:List Fr.Msg):List Value:=l.flatMap mcell
theorem mcells_len(l:List Fr.Msg):(mcells l).length=l.length * 4:=by
 induction l with
 |nil=>rfl
 |cons e t ih=>simp only[mcells,List.flatMap_cons,List.length_append,List.length_cons]at ih⊢;rw[ih];simp[mcell];omega
theorem mcells_append(l m:List Fr.Msg):mcells (l++m)=mcells l++mcells m:=by simp[mcells]
theorem mcells_drop(l:List Fr.Msg)(n:Nat):(mcells l).drop (n * 4)=mcells (l.drop n):=by
 induction l generalizing n with
 |nil=>simp[mcells]
 |cons m r ih=>
  cases n with
  |zero=>simp
  |succ n=>
   have:=ih n
   simp only[mcells,List.flatMap_cons,List.drop_succ_cons]at this⊢
   rw[←this,List.drop_append,List.drop_of_length_le (by simp[mcell];omega),List.nil_append]
   congr 1
   simp[mcell];omega
theorem mcells_one(l:List Fr.Msg):∀u∈mcells l,u.oneCell'=true:=by
 intro u hu
 obtain⟨e,_,h⟩:=List.mem_flatMap.1 hu
 simp only[mcell,List.mem_cons,List.not_mem_nil,or_false]at h
 rcases h with rfl|rfl|rfl|rfl<;>rfl
theorem mcells_get(l:List Fr.Msg)(i:Nat)(m:Fr.Msg)(h:l[i]?=some m)(j:Nat)(hj:j<4):(mcells l)[i * 4+j]?=(mcell m)[j]?:=by
 have h1:(mcells l).drop (i * 4)=mcell m++mcells (l.drop (i+1)):=by
  rw[mcells_drop]
  obtain⟨hi,rfl⟩:=List.getElem?_eq_some_iff.1 h
  rw[List.drop_eq_getElem_cons hi];rfl
 have h2:(mcells l)[i * 4+j]?=((mcells l).drop (i * 4))[j]?:=by rw[List.getElem?_drop]
 rw[h2,h1,List.getElem?_append_left (by simpa [mcell]using hj)]
def mof:Option Fr.Msg→Fr.Msg
 |some m=>m
 |none=>Fr.none0
def slot(x:Option Fr.Msg):List Value:=mcell (mof x)++[.bool x.isSome]
def slots(l:List (Option Fr.Msg)):List Value:=l.flatMap slot
theorem slots_len(l:List (Option Fr.Msg)):(slots l).length=l.length * 5:=by
 induction l with
 |nil=>rfl
 |cons e t ih=>simp only[slots,List.flatMap_cons,List.length_append,List.length_cons]at ih⊢;rw[ih];simp[slot,mcell];omega
def fval(g:Nat)(f:Fr.Frm):Value:=.slice (some ⟨g,0,none⟩) (flen f) 10
def ovals(gs:List Nat)(l:List Fr.Frm):List Value:=List.zipWith fval gs l
structure Pl where
 wa:Option Addr
 wc:Nat
 oa:Option Addr
 oc:Nat
 gs:List Nat
def En.cells(e:En)(p:Pl):List Value:=.int .i64 (e.first:Int):: .slice p.wa e.wait.length p.wc:: .int .i64 (e.await:Int)::(slots e.kept++[.slice p.oa e.out.length p.oc])
theorem cells_len(e:En)(p:Pl)(h:e.kept.length=4):(e.cells p).length=24:=by simp[En.cells,slots_len,h]
def MOk(m:Fr.Msg):Prop:=m.kind<256∧m.level<256∧m.name<65536∧may (m.kind:Int) (m.level:Int) (m.name:Int) m.finding=true
def Mine(b:Nat)(p:Pl)(k:Nat):Prop:=k=b∨inB p.wa k∨inB p.oa k∨k∈p.gs
def Wri(b:Nat)(p:Pl)(k:Nat):Prop:=k=b∨inB p.wa k∨inB p.oa k
structure Rep(w:World)(c:Array Value)(t:TypeId)(b o:Nat)(e:En)(p:Pl):Prop where
 blk:Blk w b (put c o (e.cells p)) t
 fit:o+24≤c.size
 four:e.kept.length=4
 wrow:RV w 76 4 p.wa e.wait.length p.wc (mcells e.wait)
 orow:RV w 56 1 p.oa e.out.length p.oc (ovals p.gs e.out)
 gl:p.gs.length=e.out.length
 bufs:∀(i g:Nat) (f:Fr.Frm),p.gs[i]?=some g→e.out[i]?=some f→Buf w g (Fr.enc f) 10
 wb:¬inB p.wa b
 ob:¬inB p.oa b
 wo:∀k,inB p.wa k→¬inB p.oa k
 gw:∀k,k∈p.gs→¬Wri b p k
 gn:p.gs.Nodup
 wok:∀m∈e.wait,MOk m
 most:e.first+e.wait.length≤65536
 awt:e.await≤65536
 kn:∀(i:Nat) (m:Fr.Msg),e.kept[i]?=some (some m)→e.await+i<65536
 fok:∀f∈e.out,FrOk f
theorem Rep.keep{ex:Nat→Prop}{w w':World}{c:Array Value}{t:TypeId}{b o:Nat}{e:En}{p:Pl}(h:Rep w c t b o e p)(k:Keep ex w w')(hn:∀i,Mine b p i→¬ex i):Rep w' c t b o e p where
 blk:=h.blk.keep k (hn b (Or.inl rfl))
 fit:=h.fit
 four:=h.four
 wrow:=h.wrow.keep k (fun g hg=>hn g (Or.inr (Or.inl hg)))
 orow:=h.orow.keep k (fun g hg=>hn g (Or.inr (Or.inr (Or.inl hg))))
 gl:=h.gl
 bufs:=fun i g f hg hf=>(h.bufs i g f hg hf).keep k (hn g (Or.inr (Or.inr (Or.inr (List.mem_of_getElem? hg)))))
 wb:=h.wb
 ob:=h.ob
 wo:=h.wo
 gw:=h.gw
 gn:=h.gn
 wok:=h.wok
 most:=h.most
 awt:=h.awt
 kn:=h.kn
 fok:=h.fok
theorem Rep.lt{w:World}{c:Array Value}{t:TypeId}{b o:Nat}{e:En}{p:Pl}(h:Rep w c t b o e p):∀i,Mine b p i→i<w.heap.size:=by
 rintro i (rfl|hi|hi|hi)
 ·exact h.blk.lt
 ·exact h.wrow.lt i hi
 ·exact h.orow.lt i hi
 ·obtain⟨j,hj,rfl⟩:=List.getElem_of_mem hi
  have hj':j<e.out.length:=by have:=h.gl;omega
  exact(h.bufs j p.gs[j] e.out[j] (List.getElem?_eq_getElem hj) (List.getElem?_eq_getElem hj')).lt
theorem Rep.len{w:World}{c:Array Value}{t:TypeId}{b o:Nat}{e:En}{p:Pl}(h:Rep w c t b o e p):o+(e.cells p).length≤c.size:=by rw[cells_len e p h.four];exact h.fit
theorem Rep.cell{w:World}{c:Array Value}{t:TypeId}{b o:Nat}{e:En}{p:Pl}(h:Rep w c t b o e p)(i:Nat)(v:Value)(hv:(e.cells p)[i]?=some v):w.cell? ⟨b,o+i,none⟩=some v:=h.blk.at h.len i v hv
theorem Rep.frozen{w:World}{c:Array Value}{t:TypeId}{b o:Nat}{e:En}{p:Pl}(h:Rep w c t b o e p)(i:Nat):w.frozen? ⟨b,i,none⟩=false:=h.blk.frozen i
theorem Rep.c0{w:World}{c:Array Value}{t:TypeId}{b o:Nat}{e:En}{p:Pl}(h:Rep w c t b o e p):w.cell? ⟨b,o,none⟩=some (.int .i64 (e.first:Int)):=h.cell 0 _ rfl
theorem Rep.c1{w:World}{c:Array Value}{t:TypeId}{b o:Nat}{e:En}{p:Pl}(h:Rep w c t b o e p):w.cell? ⟨b,o+1,none⟩=some (.slice p.wa e.wait.length p.wc):=h.cell 1 _ rfl
theorem Rep.c2{w:World}{c:Array Value}{t:TypeId}{b o:Nat}{e:En}{p:Pl}(h:Rep w c t b o e p):w.cell? ⟨b,o+2,none⟩=some (.int .i64 (e.await:Int)):=h.cell 2 _ rfl
theorem cells_23(e:En)(p:Pl)(h:e.kept.length=4):(e.cells p)[23]?=some (.slice p.oa e.out.length p.oc):=by
 have h1:(slots e.kept).length=20:=by rw[slots_len,h]
 simp only[En.cells,List.getElem?_cons_succ]
 rw[List.getElem?_append_right (by omega),h1];rfl
theorem Rep.c23{w:World}{c:Array Value}{t:TypeId}{b o:Nat}{e:En}{p:Pl}(h:Rep w c t b o e p):w.cell? ⟨b,o+23,none⟩=some (.slice p.oa e.out.length p.oc):=h.cell 23 _ (cells_23 e p h.four)
theorem cells_set23(e:En)(p:Pl)(h:e.kept.length=4)(l:List Fr.Frm)(a:Option Addr)(c:Nat)(gs:List Nat):(e.cells p).set 23 (.slice a l.length c)=({ e with out:=l}:En).cells { p with oa:=a,oc:=c,gs:=gs}:=by
 have h1:(slots e.kept).length=20:=by rw[slots_len,h]
 simp only[En.cells,List.set_cons_succ]
 rw[List.set_append_right _ _ (by omega),h1];rfl
theorem msg_info:(Tryz.prog.info? 76).map (fun i=>(i.zero,i.size,i.bytes))=some (some (.agg #[.int .i64 0,.int .i64 0,.int .i64 0,.bool false]),4,32):=by kernel_rfl
theorem list_info:(Tryz.prog.info? 56).map (fun i=>(i.zero,i.size,i.bytes))=some (some (.slice none 0 0),1,24):=by kernel_rfl
theorem next_any(b o n l wc:Nat)(wa:Option Addr)(w:World)(h0:w.cell? ⟨b,o,none⟩=some (.int .i64 (n:Int)))(h1:w.cell? ⟨b,o+1,none⟩=some (.slice wa l wc))(hm:(n:Int)+(l:Int)≤65536):
 Calls Tryz.prog 162 #[.pointer (some ⟨b,o,none⟩)] w fun e w'=>e=.returned (.int .i64 ((n:Int)+(l:Int)))∧Keep nil w w':=by
 go_enter Tryz.func162,Tryz.ntmps162
 go_wp2_with fail
 go_quiet (fail)
 all_goals
  go_wp2
  go_ret
  exact⟨rfl,Keep.refl _ _ |>.drewN _⟩
theorem shown_any(b o l wc:Nat)(wa:Option Addr)(w:World)(h1:w.cell? ⟨b,o+1,none⟩=some (.slice wa l wc))(hm:(l:Int)≤65536):
 Calls Tryz.prog 163 #[.pointer (some ⟨b,o,none⟩)] w fun e w'=>e=.returned (.int .i64 ((min l 4:Nat):Int))∧w=w':=by
 go_enter Tryz.func163,Tryz.ntmps163
 go_wp2
 all_goals
  go_ret
  exact⟨ret_int (by omega),rfl⟩
abbrev mv(m:Fr.Msg):Value:=.agg #[.int .i64 (m.kind:Int),.int .i64 (m.level:Int),.int .i64 (m.name:Int),.bool m.finding]
theorem sentAdd_any(b o n l wc:Nat)(wa:Option Addr)(vs:List Value)(m:Fr.Msg)(w:World)(h1:w.cell? ⟨b,o+1,none⟩=some (.slice wa l wc))(hf:w.frozen? ⟨b,o+1,none⟩=false)(hr:RV w 76 4 wa l wc vs)(hb:¬inB wa b)(hm:(l:Int)≤65536):
 Calls Tryz.prog 164 #[.pointer (some ⟨b,o,none⟩),mv m] w fun e w'=>e=.returned (.tuple #[])∧∃a' c' w1,RV w1 76 4 a' (l+1) c' (vs++mcell m)∧(∀g,inB a' g→inB wa g∨w.heap.size≤g)∧Keep (inB wa) w w1∧w'=w1.setCell ⟨b,o+1,none⟩ (.slice a' (l+1) c'):=by
 have hbl:b<w.heap.size:=World.block_lt_of_cell? w _ h1
 go_enter Tryz.func164,Tryz.ntmps164
 go_wp2_with fail
 go_region_law (refine step_append_rv rfl (.tmp 8) (.tmp 10) 112 rfl 76 (.agg #[.int .i64 0,.int .i64 0,.int .i64 0,.bool false]) 4 32 Tryz.underlying112 msg_info rfl wa l wc rfl vs ((hr.alloc _).drew.alloc _) ⟨w.heap.size+1,0,none⟩ 1 1 (by omega) rfl (mcell m) rfl (cells_list (w.alloc (.cells (mcell m).toArray 76)).drew (mcell m) 76 _ (by simp)) (by simpa [mcells]using mcells_one [m]) (by omega) (by omega) ?_;intro a' c' w1 hr1 hg1 hk1;have hk2:Keep (inB wa) w w1:=((((Keep.refl _ w).alloc _).drew).alloc _).trans hk1;have q1:=(hk2.cell b (o+1) hbl hb).trans h1;have q2:=(hk2.frozen b (o+1) hbl hb).trans hf)
 all_goals
  go_wp2
  go_end0
  exact⟨rfl,a',c',w1,hr1,fun g hg=>(hg1 g hg).imp id (fun e=>by rw[e];simp;omega),hk2,rfl⟩
theorem drop_any(b o g wo n k l wc:Nat)(w:World)(h0:w.cell? ⟨b,o,none⟩=some (.int .i64 (n:Int)))(h1:w.cell? ⟨b,o+1,none⟩=some (.slice (some ⟨g,wo,none⟩) l wc))(hf0:w.frozen? ⟨b,o,none⟩=false)(hf:w.frozen? ⟨b,o+1,none⟩=false)(hn:(n:Int)≤65536)(hk:k≤l)(hl:l≤wc)(hl':(l:Int)≤65536):
 Calls Tryz.prog 197 #[.pointer (some ⟨b,o,none⟩),.int .i64 (k:Int)] w fun e w'=>e=.returned (.tuple #[])∧∃wo',(wo'=wo+k * 4∨(wc=k∧wo'=wo))∧w'=(w.setCell ⟨b,o,none⟩ (.int .i64 ((n:Int)+(k:Int)))).setCell ⟨b,o+1,none⟩ (.slice (some ⟨g,wo',none⟩) (l - k) (wc - k)):=by
 by_cases hc:wc=k
 ·subst hc
  go_enter Tryz.func197,Tryz.ntmps197
  have hlw:l=wc:=by omega
  subst hlw
  go_wp2
  go_end0
  exact⟨rfl,wo,Or.inr ⟨trivial,rfl⟩,by simp⟩
 ·have hc':¬wc - k=0:=by omega
  go_enter Tryz.func197,Tryz.ntmps197
  go_wp2
  go_end0
  exact⟨rfl,wo+k * 4,Or.inl rfl,rfl⟩
theorem frame_any(b o g wo n k l wc:Nat)(m:Fr.Msg)(w:World)(h0:w.cell? ⟨b,o,none⟩=some (.int .i64 (n:Int)))(h1:w.cell? ⟨b,o+1,none⟩=some (.slice (some ⟨g,wo,none⟩) l wc))(hn:(n:Int)≤65536)(hk:k<l)(hl:(l:Int)≤65536)
 (hm:∀j u,(mcell m)[j]?=some u→w.cell? ⟨g,wo+k * 4+j,none⟩=some u):
 Calls Tryz.prog 194 #[.pointer (some ⟨b,o,none⟩),.int .i64 (k:Int)] w fun e w'=>e=.returned (.agg (fc true ((n:Int)+(k:Int)) (m.kind:Int) (m.level:Int) (m.name:Int) m.finding))∧Keep nil w w':=by
 have hbl:b<w.heap.size:=World.block_lt_of_cell? w _ h1
 have m0:=hm 0 _ rfl
 have m1:=hm 1 _ rfl
 have m2:=hm 2 _ rfl
 have m3:=hm 3 _ rfl
 have hgl:g<w.heap.size:=World.block_lt_of_cell? w _ m0
 rw[Nat.add_zero]at m0
 clear hm
 go_enter Tryz.func194,Tryz.ntmps194
 go_wp2_with fail
 go_region
 all_goals
  go_wp2
  refine bodyPost_ret (v:=.agg (fc true ((n:Int)+(k:Int)) (m.kind:Int) (m.level:Int) (m.name:Int) m.finding)) ?_ rfl ⟨rfl,?_⟩
  ·simp[results,Tryz.results194,go_sem]
  ·exact((Keep.refl _ _).alloc _).drew
structure Step(w w':World)(b:Nat)(p p':Pl):Prop where
 wri:∀k,Wri b p' k→Wri b p k∨w.heap.size≤k
 gs:∀k,k∈p'.gs→k∈p.gs∨w.heap.size≤k
 keep:Keep (Wri b p) w w'
theorem Step.refl(w:World)(b:Nat)(p:Pl):Step w w b p p:=⟨fun _ h=>Or.inl h,fun _ h=>Or.inl h,Keep.refl _ _⟩
theorem Step.trans{w w1 w2:World}{b:Nat}{p p1 p2:Pl}(h:Step w w1 b p p1)(k:Step w1 w2 b p1 p2):Step w w2 b p p2:=
 ⟨fun i hi=>(k.wri i hi).elim (fun x=>h.wri i x) (fun x=>Or.inr (Nat.le_trans h.keep.size x)),fun i hi=>(k.gs i hi).elim (fun x=>h.gs i x) (fun x=>Or.inr (Nat.le_trans h.keep.size x)),
  h.keep.trans' k.keep (fun i hi x=>(h.wri i x).elim id (fun y=>by omega))⟩
theorem Step.of_keep{w w1:World}(b:Nat)(p:Pl)(h:Keep nil w w1):Step w w1 b p p:=⟨fun _ h=>Or.inl h,fun _ h=>Or.inl h,h.mono (fun _ _ e=>e.elim)⟩
theorem Mine.cases{b:Nat}{p:Pl}{k:Nat}(h:Mine b p k):Wri b p k∨k∈p.gs:=by
 rcases h with h|h|h|h
 ·exact Or.inl (Or.inl h)
 ·exact Or.inl (Or.inr (Or.inl h))
 ·exact Or.inl (Or.inr (Or.inr h))
 ·exact Or.inr h
theorem Wri.mine{b:Nat}{p:Pl}{k:Nat}(h:Wri b p k):Mine b p k:=by
 rcases h with h|h|h
 ·exact Or.inl h
 ·exact Or.inr (Or.inl h)
 ·exact Or.inr (Or.inr (Or.inl h))
theorem Step.mine{w w':World}{b:Nat}{p p':Pl}(h:Step w w' b p p'):∀k,Mine b p' k→Mine b p k∨w.heap.size≤k:=fun k hk=>
 hk.cases.elim (fun x=>(h.wri k x).imp Wri.mine id) (fun x=>(h.gs k x).imp (fun y=>Or.inr (Or.inr (Or.inr y))) id)
theorem ovals_append(gs:List Nat)(l:List Fr.Frm)(h:gs.length=l.length)(g:Nat)(f:Fr.Frm):ovals (gs++[g]) (l++[f])=ovals gs l++[fval g f]:=by
 simp[ovals,List.zipWith_append h]
theorem Rep.out_one{w w1:World}{c:Array Value}{t:TypeId}{b o:Nat}{e:En}{p:Pl}(h:Rep w c t b o e p)(f:Fr.Frm)(g:Nat)(hf:FrOk f)(hg:Buf w g (Fr.enc f) 10)(hgm:¬Mine b p g)(a':Option Addr)(c':Nat)
 (hr:RV w1 56 1 a' (e.out.length+1) c' (ovals p.gs e.out++[fval g f])) (ha:∀k,inB a' k→inB p.oa k∨w.heap.size≤k) (hk:Keep (inB p.oa) w w1):
 Rep (w1.setCell ⟨b,o+23,none⟩ (.slice a' (e.out.length+1) c')) c t b o { e with out:=e.out++[f]} { p with oa:=a',oc:=c',gs:=p.gs++[g]}:=by
 have hbl:=h.blk.lt
 have ks:Keep (only b) w1 (w1.setCell ⟨b,o+23,none⟩ (.slice a' (e.out.length+1) c')):=(Keep.refl (only b) w1).setCell (p:=⟨b,o+23,none⟩) (fun _=>rfl) _
 have hlt:=h.lt
 have hab:∀k,inB a' k→k≠b:=fun k hk' e=>(ha k hk').elim (fun x=>h.ob (e▸x)) (fun x=>by omega)
 have hl:({ e with out:=e.out++[f]}:En).cells { p with oa:=a',oc:=c',gs:=p.gs++[g]}=(e.cells p).set 23 (.slice a' (e.out.length+1) c'):=by
  have:=cells_set23 e p h.four (e.out++[f]) a' c' (p.gs++[g])
  rw[←this];simp
 refine { blk:=?_,fit:=h.fit,four:=h.four,wrow:=?_,orow:=?_,gl:=by simp[h.gl],bufs:=?_,wb:=h.wb,ob:=fun x=>hab b x rfl,wo:=?_,gw:=?_,gn:=?_,wok:=h.wok,most:=h.most,awt:=h.awt,kn:=h.kn,fok:=?_}
 ·rw[hl]
  exact(h.blk.keep hk h.ob).put_at h.len 23 (by rw[cells_len e p h.four];omega) _
 ·exact(h.wrow.keep hk (fun k hw ho=>h.wo k hw ho)).keep ks (fun k hw hb=>h.wb (hb▸hw))
 ·show RV _ _ _ a' (e.out++[f]).length c' (ovals (p.gs++[g]) (e.out++[f]))
  rw[ovals_append _ _ h.gl,List.length_append]
  exact hr.keep ks (fun k hk'=>hab k hk')
 ·intro i g' f' hg' hf'
  have hgw:∀k,Buf w k (Fr.enc f') 10→¬inB p.oa k→k≠b→Buf (w1.setCell ⟨b,o+23,none⟩ (.slice a' (e.out.length+1) c')) k (Fr.enc f') 10:=fun k hb h1 h2=>(hb.keep hk h1).keep ks h2
  by_cases hi:i<p.gs.length
  ·have hi':i<e.out.length:=by have:=h.gl;omega
   rw[List.getElem?_append_left hi]at hg'
   rw[List.getElem?_append_left hi']at hf'
   have hw:=h.gw g' (List.mem_of_getElem? hg')
   exact hgw g' (h.bufs i g' f' hg' hf') (fun x=>hw (Or.inr (Or.inr x))) (fun x=>hw (Or.inl x))
  ·have hi':¬i<e.out.length:=by have:=h.gl;omega
   rw[List.getElem?_append_right (by omega)]at hg' hf'
   have e1:i - p.gs.length=0:=by
    have:=(List.getElem?_eq_some_iff.1 hg').1
    simp at this;omega
   have e2:i - e.out.length=0:=by
    have:=(List.getElem?_eq_some_iff.1 hf').1
    simp at this;omega
   rw[e1]at hg'
   rw[e2]at hf'
   simp at hg' hf'
   subst hg' hf'
   exact hgw g hg (fun x=>hgm (Or.inr (Or.inr (Or.inl x)))) (fun x=>hgm (Or.inl x))
 ·intro k hw ho
  rcases ha k ho with x|x
  ·exact h.wo k hw x
  ·have:=hlt k (Or.inr (Or.inl hw));omega
 ·intro k hk' hw
  have hkl:k<w.heap.size∧¬Wri b p k:=by
   rcases List.mem_append.1 hk' with x|x
   ·exact⟨hlt k (Or.inr (Or.inr (Or.inr x))),h.gw k x⟩
   ·simp at x;subst x;exact⟨hg.lt,fun y=>hgm y.mine⟩
  rcases hw with x|x|x
  ·exact hkl.2 (Or.inl x)
  ·exact hkl.2 (Or.inr (Or.inl x))
  ·rcases ha k x with y|y
   ·exact hkl.2 (Or.inr (Or.inr y))
   ·omega
 ·rw[List.nodup_append]
  refine⟨h.gn,by simp,?_⟩
  intro x hx y hy e
  simp at hy
  subst hy e
  exact hgm (Or.inr (Or.inr (Or.inr hx)))
 ·intro f' hf'
  rcases List.mem_append.1 hf' with x|x
  ·exact h.fok f' x
  ·simp at x;subst x;exact hf
theorem goesOut_any(c:Array Value)(t:TypeId)(b o:Nat)(e:En)(p:Pl)(f:Fr.Frm)(hf:FrOk f)(w:World)(h:Rep w c t b o e p)(hn:(e.out.length:Int)<1099511627776):
 Calls Tryz.prog 193 #[.pointer (some ⟨b,o,none⟩),.agg (fv f)] w fun r w'=>r=.returned (.tuple #[])∧∃p',Rep w' c t b o { e with out:=e.out++[f]} p'∧Step w w' b p p':=by
 have hbl:=h.blk.lt
 have HF:Unit→FrOk f:=fun _=>hf
 have HR:Unit→Rep w c t b o e p:=fun _=>h
 clear h hf
 go_enter Tryz.func193,Tryz.ntmps193
 go_wp2_with fail
 refine(encode_any f (HF ()) _).mono ?_
 rintro r w1 ⟨g,rfl,hg,hb,hk1⟩
 have hk0:Keep nil w w1:=((Keep.refl nil w).alloc _).trans hk1
 have h1:=(HR ()).keep hk0 (fun _ _ x=>x)
 have hz:=hk0.size
 simp only[World.size_alloc]at hg
 have q1:=h1.c23
 have hf23:=h1.frozen (o+23)
 have HB:Unit→Buf w1 g (Fr.enc f) 10:=fun _=>hb
 have H1:Unit→Rep w1 c t b o e p:=fun _=>h1
 have hr:=h1.orow
 have hob:=h1.ob
 clear hb h1
 go_wp2_with (at_builtin;refine wpList_append_rv _ rfl (.tmp 15) (.tmp 17) 105 rfl 56 (.slice none 0 0) 1 24 Tryz.underlying105 list_info rfl p.oa e.out.length p.oc rfl (ovals p.gs e.out) (hr.alloc _) ⟨w1.heap.size,0,none⟩ 1 1 (by omega) rfl [fval g f] rfl (cells_list w1 [fval g f] 56 _ rfl) (by simp[fval,Value.oneCell']) (by omega) (by omega) ?_;intro a' c' w2 hr2 hg2 hk2;have hk3:Keep (inB p.oa) w1 w2:=((Keep.refl _ w1).alloc _).trans hk2;have q2:=(hk3.cell b (o+23) (by omega) hob).trans q1;have q3:=(hk3.frozen b (o+23) (by omega) hob).trans hf23)
 go_end0
 have h1:=H1 ()
 refine⟨rfl,{ p with oa:=a',oc:=c',gs:=p.gs++[g]},?_,?_⟩
 ·exact h1.out_one f g (HF ()) (HB ()) (fun x=>by have:=(HR ()).lt g x;omega) a' c' hr2 (fun k hk=>(hg2 k hk).imp id (fun e=>by rw[e];simp)) hk3
 ·have ha:∀k,inB a' k→inB p.oa k∨w.heap.size≤k:=fun k hk=>(hg2 k hk).imp id (fun e=>by rw[e];simp;omega)
  refine⟨fun k hk=>?_,fun k hk=>?_,?_⟩
  ·rcases hk with x|x|x
   ·exact Or.inl (Or.inl x)
   ·exact Or.inl (Or.inr (Or.inl x))
   ·exact(ha k x).imp (fun y=>Or.inr (Or.inr y)) id
  ·rcases List.mem_append.1 hk with y|y
   ·exact Or.inl y
   ·simp at y;subst y;exact Or.inr (by omega)
  ·exact((hk0.mono (ex':=Wri b p) (fun _ _ e=>e.elim)).trans (hk3.mono (fun _ _ e=>Or.inr (Or.inr e)))).setCell (p:=⟨b,o+23,none⟩) (fun _=>Or.inl rfl) _
end Go.Proofs.YtlfijfodklhplaaGreat
