import Derived.Test.YtlfijfodklhplaaGreatTn02
set_option maxHeartbeats 1000000
set_option linter.unusedVariables false
set_option linter.unusedSimpArgs false
namespace Go.Proofs.YtlfijfodklhplaaGreat
open Go.RowKit
abbrev mc(k l n:Int)(f:Bool):Array Value:=#[.int .i64 k,.int .i64 l,.int .i64 n,.bool f]
structure MS(w0 w:World)(rb bb bo cap:Nat)(l:List Nat)(k:Nat)(c:Array Value):Prop where
 rd:Rd w rb bb bo cap l k
 m:Blk w (w0.heap.size+1) c 76
 r:Blk w w0.heap.size (mc 0 0 0 false) 76
 keep:Keep (only rb) w0 w
 rbl:rb<w0.heap.size
 bbl:bb<w0.heap.size
theorem MS.call{w0 w w1:World}{rb bb bo cap:Nat}{l:List Nat}{k k':Nat}{c:Array Value}(s:MS w0 w rb bb bo cap l k c)(hr:Rd w1 rb bb bo cap l k')(hk:Keep (only rb) w w1):MS w0 w1 rb bb bo cap l k' c:=by
 have h1:=s.rbl
 exact⟨hr,s.m.keep hk (by simp only[only];omega),s.r.keep hk (by simp only[only];omega),s.keep.trans hk,s.rbl,s.bbl⟩
theorem MS.store{w0 w:World}{rb bb bo cap:Nat}{l:List Nat}{k:Nat}{c:Array Value}(s:MS w0 w rb bb bo cap l k c)(i:Nat)(v:Value):MS w0 (w.setCell ⟨w0.heap.size+1,i,none⟩ v) rb bb bo cap l k (c.setIfInBounds i v):=by
 have h1:=s.rbl
 have h2:=s.bbl
 have hk:Keep (only (w0.heap.size+1)) w (w.setCell ⟨w0.heap.size+1,i,none⟩ v):=(Keep.refl (only (w0.heap.size+1)) w).setCell (p:=⟨w0.heap.size+1,i,none⟩) (fun _=>rfl) v
 exact⟨s.rd.setCell _ _ (by simp;omega) (by simp;omega),s.m.set i v,s.r.keep hk (by simp only[only];omega),s.keep.setCell (p:=⟨w0.heap.size+1,i,none⟩) (fun h=>by simp at h;omega) v,s.rbl,s.bbl⟩
theorem MS.start{w:World}{rb bb bo cap:Nat}{l:List Nat}{k:Nat}(hr:Rd w rb bb bo cap l k):MS w ((w.alloc (.cells (mc 0 0 0 false) 76)).alloc (.cells (mc 0 0 0 false) 76)) rb bb bo cap l k (mc 0 0 0 false):=
 ⟨(hr.alloc _).alloc _,Blk.new' _ _ _ _ (by simp),(Blk.new _ _ _).old _,((Keep.refl _ _).alloc _).alloc _,hr.lt,hr.bb⟩
theorem MS.res{w0 w:World}{rb bb bo cap:Nat}{l:List Nat}{k:Nat}{c:Array Value}(s:MS w0 w rb bb bo cap l k c)(a b n:Int)(f:Bool):
 Rd ((((w.setCell ⟨w0.heap.size,0,none⟩ (.int .i64 a)).setCell ⟨w0.heap.size,1,none⟩ (.int .i64 b)).setCell ⟨w0.heap.size,2,none⟩ (.int .i64 n)).setCell ⟨w0.heap.size,3,none⟩ (.bool f)) rb bb bo cap l k∧
 Keep (only rb) w0 ((((w.setCell ⟨w0.heap.size,0,none⟩ (.int .i64 a)).setCell ⟨w0.heap.size,1,none⟩ (.int .i64 b)).setCell ⟨w0.heap.size,2,none⟩ (.int .i64 n)).setCell ⟨w0.heap.size,3,none⟩ (.bool f))∧
 Blk ((((w.setCell ⟨w0.heap.size,0,none⟩ (.int .i64 a)).setCell ⟨w0.heap.size,1,none⟩ (.int .i64 b)).setCell ⟨w0.heap.size,2,none⟩ (.int .i64 n)).setCell ⟨w0.heap.size,3,none⟩ (.bool f)) w0.heap.size (mc a b n f) 76:=by
 have h1:=s.rbl
 have h2:=s.bbl
 refine⟨?_,?_,(((s.r.set 0 (.int .i64 a)).set 1 (.int .i64 b)).set 2 (.int .i64 n)).set 3 (.bool f)⟩
 ·exact(((s.rd.setCell _ _ (by simp;omega) (by simp;omega)).setCell _ _ (by simp;omega) (by simp;omega)).setCell _ _ (by simp;omega) (by simp;omega)).setCell _ _ (by simp;omega) (by simp;omega)
 ·exact(((s.keep.setCell (fun h=>by simp at h) _).setCell (fun h=>by simp at h) _).setCell (fun h=>by simp at h) _).setCell (fun h=>by simp at h) _
theorem message_yes(rb bb bo cap:Nat)(l:List Nat)(k:Nat)(w:World)(hr:Rd w rb bb bo cap l k)(x1 x2 x3 x4 x5:Nat)(h1:l[k]? =some x1)(h2:l[k+1]? =some x2)(h3:l[k+2]? =some x3)(h4:l[k+3]? =some x4)(h5:l[k+4]? =some x5)
 (hf:x3≤1) (hm:may (x1:Int) (x2:Int) ((x4:Int) * 256+(x5:Int)) (x3==1)=true):
 Calls Tryz.prog 226 #[.pointer (some ⟨rb,0,none⟩)] w fun e w'=>
  e=.returned (.agg (mc (x1:Int) (x2:Int) ((x4:Int) * 256+(x5:Int)) (x3==1)))∧Rd w' rb bb bo cap l (k+5)∧Keep (only rb) w w':=by
 have s0:=MS.start hr
 clear hr
 go_enter Tryz.func226,Tryz.ntmps226
 go_wp2_with fail
 refine(one_at rb bb bo cap l k _ s0.rd x1 h1).mono ?_
 rintro e w1 ⟨rfl,hr1,hk1⟩
 have s1:=s0.call hr1 hk1
 have q1:=s1.m.cell 0
 have q2:=s1.m.frozen 0
 simp at q1
 go_wp2_with fail
 have s1':MS w _ rb bb bo cap l (k+1) (mc (x1:Int) 0 0 false):=s1.store 0 (.int .i64 (x1:Int))
 refine(one_at rb bb bo cap l (k+1) _ s1'.rd x2 h2).mono ?_
 rintro e w2 ⟨rfl,hr2,hk2⟩
 have s2:=s1'.call hr2 hk2
 clear q1 q2 s0 s1 s1' hr1 hk1 hr2 hk2
 have q1:=s2.m.cell 1
 have q2:=s2.m.frozen 1
 simp at q1
 go_wp2_with fail
 have s2':MS w _ rb bb bo cap l (k+2) (mc (x1:Int) (x2:Int) 0 false):=s2.store 1 (.int .i64 (x2:Int))
 refine(flag_at rb bb bo cap l (k+2) _ s2'.rd x3 h3 hf).mono ?_
 rintro e w3 ⟨rfl,hr3,hk3⟩
 have s3:=s2'.call hr3 hk3
 clear q1 q2 s2 s2' hr3 hk3
 have q1:=s3.m.cell 3
 have q2:=s3.m.frozen 3
 simp at q1
 go_wp2_with fail
 have s3':MS w _ rb bb bo cap l (k+3) (mc (x1:Int) (x2:Int) 0 (x3==1)):=s3.store 3 (.bool (x3==1))
 refine(two_at rb bb bo cap l (k+3) _ s3'.rd x4 x5 h4 h5).mono ?_
 rintro e w4 ⟨rfl,hr4,hk4⟩
 have s4:=s3'.call hr4 hk4
 clear q1 q2 s3 s3' hr4 hk4
 have q0:=s4.m.cell 0
 have q1:=s4.m.cell 1
 have q2:=s4.m.cell 2
 have q3:=s4.m.cell 3
 have q4:=s4.m.frozen 2
 simp at q0 q1 q2 q3
 go_wp2_with fail
 have s5:MS w (w4.setCell ⟨w.heap.size+1,2,none⟩ (.int .i64 ((x4:Int) * 256+(x5:Int)))) rb bb bo cap l (k+5) (mc (x1:Int) (x2:Int) ((x4:Int) * 256+(x5:Int)) (x3==1)):=s4.store 2 _
 refine(mayBe_any _ _ _ _ _).mono ?_
 rintro e w6 ⟨rfl,hk6⟩
 have s6:=s5.call (s5.rd.keep hk6 (fun e=>e) (fun e=>e)) (hk6.mono (fun _ _ e=>e.elim))
 clear q0 q1 q2 q3 q4 s4 s5 hk6
 have q0:=s6.m.cell 0
 have q1:=s6.m.cell 1
 have q2:=s6.m.cell 2
 have q3:=s6.m.cell 3
 have q4:=fun i=>s6.r.frozen i
 have r0:=s6.r.cell 0
 have r1:=s6.r.cell 1
 have r2:=s6.r.cell 2
 have r3:=s6.r.cell 3
 simp at q0 q1 q2 q3 r0 r1 r2 r3
 go_wp2_with fail
 refine(must_yes _).mono ?_
 rintro e w7 ⟨rfl,rfl⟩
 go_wp2
 obtain⟨t1,t2,t3⟩:=s6.res (x1:Int) (x2:Int) ((x4:Int) * 256+(x5:Int)) (x3==1)
 have z0:=t3.cell 0
 have z1:=t3.cell 1
 have z2:=t3.cell 2
 have z3:=t3.cell 3
 simp at z0 z1 z2 z3
 exact bodyPost_ret (v:=.agg (mc (x1:Int) (x2:Int) ((x4:Int) * 256+(x5:Int)) (x3==1))) (by simp[results,Tryz.results226,go_sem,z0,z1,z2,z3]) rfl ⟨rfl,t1,t2⟩
def MsgOk(l:List Nat)(k:Nat):Prop:=∃x1 x2 x3 x4 x5:Nat,l[k]?=some x1∧l[k+1]?=some x2∧l[k+2]?=some x3∧l[k+3]?=some x4∧l[k+4]?=some x5∧x3≤1∧may (x1:Int) (x2:Int) ((x4:Int) * 256+(x5:Int)) (x3==1)=true
theorem at_some(l:List Nat)(k:Nat)(h:k<l.length):∃x,l[k]?=some x:=⟨l[k],List.getElem?_eq_getElem h⟩
theorem message_no(rb bb bo cap:Nat)(l:List Nat)(k:Nat)(w:World)(hr:Rd w rb bb bo cap l k)(hno:¬MsgOk l k):
 Calls Tryz.prog 226 #[.pointer (some ⟨rb,0,none⟩)] w fun e w'=>e=.panicked noFrame∧Keep (only rb) w w':=by
 have s0:=MS.start hr
 clear hr
 go_enter Tryz.func226,Tryz.ntmps226
 go_wp2_with fail
 by_cases g1:l.length≤k
 ·refine(one_no rb bb bo cap l k _ s0.rd g1).mono ?_
  rintro e w1 ⟨rfl,hk1⟩
  exact⟨rfl,rfl,s0.keep.trans hk1⟩
 obtain⟨x1,h1⟩:=at_some l k (by omega)
 clear g1
 refine(one_at rb bb bo cap l k _ s0.rd x1 h1).mono ?_
 rintro e w1 ⟨rfl,hr1,hk1⟩
 have s1:=s0.call hr1 hk1
 have q1:=s1.m.cell 0
 have q2:=s1.m.frozen 0
 simp at q1
 go_wp2_with fail
 have s1':MS w _ rb bb bo cap l (k+1) (mc (x1:Int) 0 0 false):=s1.store 0 (.int .i64 (x1:Int))
 by_cases g1:l.length≤k+1
 ·refine(one_no rb bb bo cap l (k+1) _ s1'.rd g1).mono ?_
  rintro e w2 ⟨rfl,hk2⟩
  exact⟨rfl,rfl,s1'.keep.trans hk2⟩
 obtain⟨x2,h2⟩:=at_some l (k+1) (by omega)
 clear g1
 refine(one_at rb bb bo cap l (k+1) _ s1'.rd x2 h2).mono ?_
 rintro e w2 ⟨rfl,hr2,hk2⟩
 have s2:=s1'.call hr2 hk2
 clear q1 q2 s0 s1 s1' hr1 hk1 hr2 hk2
 have q1:=s2.m.cell 1
 have q2:=s2.m.frozen 1
 simp at q1
 go_wp2_with fail
 have s2':MS w _ rb bb bo cap l (k+2) (mc (x1:Int) (x2:Int) 0 false):=s2.store 1 (.int .i64 (x2:Int))
 by_cases g1:∃h:k+2<l.length,l[k+2]≤1
 ·obtain⟨g1,hf⟩:=g1
  obtain⟨x3,h3⟩:=at_some l (k+2) g1
  replace hf:x3≤1:=by rw[List.getElem?_eq_getElem g1]at h3;cases h3;exact hf
  clear g1
  refine(flag_at rb bb bo cap l (k+2) _ s2'.rd x3 h3 hf).mono ?_
  rintro e w3 ⟨rfl,hr3,hk3⟩
  have s3:=s2'.call hr3 hk3
  clear q1 q2 s2 s2' hr3 hk3
  have q1:=s3.m.cell 3
  have q2:=s3.m.frozen 3
  simp at q1
  go_wp2_with fail
  have s3':MS w _ rb bb bo cap l (k+3) (mc (x1:Int) (x2:Int) 0 (x3==1)):=s3.store 3 (.bool (x3==1))
  by_cases g1:l.length≤k+3+1
  ·refine(two_no rb bb bo cap l (k+3) _ s3'.rd g1).mono ?_
   rintro e w4 ⟨rfl,hk4⟩
   exact⟨rfl,rfl,s3'.keep.trans hk4⟩
  obtain⟨x4,h4⟩:=at_some l (k+3) (by omega)
  obtain⟨x5,h5⟩:=at_some l (k+4) (by omega)
  clear g1
  refine(two_at rb bb bo cap l (k+3) _ s3'.rd x4 x5 h4 h5).mono ?_
  rintro e w4 ⟨rfl,hr4,hk4⟩
  have s4:=s3'.call hr4 hk4
  clear q1 q2 s3 s3' hr4 hk4
  have hm:may (x1:Int) (x2:Int) ((x4:Int) * 256+(x5:Int)) (x3==1)=false:=by
   cases h:may (x1:Int) (x2:Int) ((x4:Int) * 256+(x5:Int)) (x3==1)with
   |false=>rfl
   |true=>exact absurd ⟨x1,x2,x3,x4,x5,h1,h2,h3,h4,h5,hf,h⟩ hno
  have q0:=s4.m.cell 0
  have q1:=s4.m.cell 1
  have q2:=s4.m.cell 2
  have q3:=s4.m.cell 3
  have q4:=s4.m.frozen 2
  simp at q0 q1 q2 q3
  go_wp2_with fail
  have s5:MS w (w4.setCell ⟨w.heap.size+1,2,none⟩ (.int .i64 ((x4:Int) * 256+(x5:Int)))) rb bb bo cap l (k+5) (mc (x1:Int) (x2:Int) ((x4:Int) * 256+(x5:Int)) (x3==1)):=s4.store 2 _
  refine(mayBe_any _ _ _ _ _).mono ?_
  rintro e w6 ⟨rfl,hk6⟩
  have s6:=s5.keep.trans (hk6.mono (fun _ _ e=>e.elim))
  clear q0 q1 q2 q3 q4 s4 s5 hk6
  go_wp2_with fail
  refine(must_no _).mono ?_
  rintro e w7 ⟨rfl,rfl⟩
  exact⟨rfl,rfl,s6⟩
 ·refine(flag_no rb bb bo cap l (k+2) _ s2'.rd (fun h hx=>g1 ⟨h,hx⟩)).mono ?_
  rintro e w3 ⟨rfl,hk3⟩
  exact⟨rfl,rfl,s2'.keep.trans hk3⟩
abbrev fc(d:Bool)(s k l n:Int)(f:Bool):Array Value:=#[.bool d,.int .i64 s,.int .i64 k,.int .i64 l,.int .i64 n,.bool f]
structure BS(w0 w:World)(rb bb bo cap:Nat)(l:List Nat)(k:Nat):Prop where
 rd:Rd w rb bb bo cap l k
 r:Blk w w0.heap.size (fc false 0 0 0 0 false) 78
 keep:Keep (only rb) w0 w
 rbl:rb<w0.heap.size
 bbl:bb<w0.heap.size
theorem BS.call{w0 w w1:World}{rb bb bo cap:Nat}{l:List Nat}{k k':Nat}(s:BS w0 w rb bb bo cap l k)(hr:Rd w1 rb bb bo cap l k')(hk:Keep (only rb) w w1):BS w0 w1 rb bb bo cap l k':=by
 have h1:=s.rbl
 exact⟨hr,s.r.keep hk (by simp only[only];omega),s.keep.trans hk,s.rbl,s.bbl⟩
theorem BS.lt{w0 w:World}{rb bb bo cap:Nat}{l:List Nat}{k:Nat}(s:BS w0 w rb bb bo cap l k):w0.heap.size<w.heap.size:=s.r.lt
theorem BS.alloc{w0 w:World}{rb bb bo cap:Nat}{l:List Nat}{k:Nat}(s:BS w0 w rb bb bo cap l k)(o:Obj):BS w0 (w.alloc o) rb bb bo cap l k:=
 ⟨s.rd.alloc _,s.r.old _,s.keep.alloc _,s.rbl,s.bbl⟩
theorem BS.start{w:World}{rb bb bo cap:Nat}{l:List Nat}{k:Nat}(hr:Rd w rb bb bo cap l k):BS w (w.alloc (.cells (fc false 0 0 0 0 false) 78)) rb bb bo cap l k:=
 ⟨hr.alloc _,Blk.new _ _ _,(Keep.refl _ _).alloc _,hr.lt,hr.bb⟩
theorem BS.set{w0 w:World}{rb bb bo cap:Nat}{l:List Nat}{k:Nat}(s:BS w0 w rb bb bo cap l k)(p:Addr)(hp:w0.heap.size<p.block)(v:Value):BS w0 (w.setCell p v) rb bb bo cap l k:=by
 have h1:=s.rbl
 have h2:=s.bbl
 have hk:Keep (only p.block) w (w.setCell p v):=(Keep.refl (only p.block) w).setCell (fun _=>rfl) v
 exact⟨s.rd.setCell _ _ (by omega) (by omega),s.r.keep hk (by simp only[only];omega),s.keep.setCell (fun h=>by omega) v,s.rbl,s.bbl⟩
abbrev put6(w:World)(b:Nat)(d:Bool)(s k l n:Int)(f:Bool):World:=
 (((((w.setCell ⟨b,0,none⟩ (.bool d)).setCell ⟨b,1,none⟩ (.int .i64 s)).setCell ⟨b,2,none⟩ (.int .i64 k)).setCell ⟨b,3,none⟩ (.int .i64 l)).setCell ⟨b,4,none⟩ (.int .i64 n)).setCell ⟨b,5,none⟩ (.bool f)
theorem Blk.put6{w:World}{b:Nat}{d0:Bool}{s0 k0 l0 n0:Int}{f0:Bool}{t:TypeId}(h:Blk w b (fc d0 s0 k0 l0 n0 f0) t)(d:Bool)(s k l n:Int)(f:Bool):Blk (put6 w b d s k l n f) b (fc d s k l n f) t:=
 (((((h.set 0 _).set 1 _).set 2 _).set 3 _).set 4 _).set 5 _
theorem Keep.put6{ex:Nat→Prop}{a w:World}(h:Keep ex a w)(b:Nat)(hb:b<a.heap.size→ex b)(d:Bool)(s k l n:Int)(f:Bool):Keep ex a (put6 w b d s k l n f):=
 (((((h.setCell (p:=⟨b,0,none⟩) hb _).setCell (p:=⟨b,1,none⟩) hb _).setCell (p:=⟨b,2,none⟩) hb _).setCell (p:=⟨b,3,none⟩) hb _).setCell (p:=⟨b,4,none⟩) hb _).setCell (p:=⟨b,5,none⟩) hb _
theorem BS.res{w0 w:World}{rb bb bo cap:Nat}{l:List Nat}{k:Nat}(h:BS w0 w rb bb bo cap l k)(d:Bool)(s j i n:Int)(f:Bool):
 Rd (put6 w w0.heap.size d s j i n f) rb bb bo cap l k∧Keep (only rb) w0 (put6 w w0.heap.size d s j i n f)∧Blk (put6 w w0.heap.size d s j i n f) w0.heap.size (fc d s j i n f) 78:=by
 have h1:=h.rbl
 have h2:=h.bbl
 exact⟨h.rd.keep ((Keep.refl (only w0.heap.size) w).put6 _ (fun _=>rfl) d s j i n f) (by simp only[only];omega) (by simp only[only];omega),h.keep.put6 _ (fun h=>by omega) d s j i n f,h.r.put6 d s j i n f⟩
theorem body_ack(rb bb bo cap:Nat)(l:List Nat)(w:World)(hr:Rd w rb bb bo cap l 0)(s1 s2:Nat)(h0:l[0]?=some 2)(h1:l[1]?=some s1)(h2:l[2]?=some s2):
 Calls Tryz.prog 209 #[.pointer (some ⟨rb,0,none⟩)] w fun e w'=>
  e=.returned (.agg (fc false ((s1:Int) * 256+(s2:Int)) 0 0 0 false))∧Rd w' rb bb bo cap l 3∧Keep (only rb) w w':=by
 have s0:=BS.start hr
 clear hr
 go_enter Tryz.func209,Tryz.ntmps209
 go_wp2_with fail
 refine(one_at rb bb bo cap l 0 _ s0.rd 2 h0).mono ?_
 rintro e w1 ⟨rfl,hr1,hk1⟩
 have S1:=s0.call hr1 hk1
 clear hr1 hk1 s0
 go_wp2_with fail
 refine(must_yes _).mono ?_
 rintro e w2 ⟨rfl,rfl⟩
 go_wp2_with fail
 refine(two_at rb bb bo cap l 1 _ S1.rd s1 s2 h1 h2).mono ?_
 rintro e w3 ⟨rfl,hr3,hk3⟩
 have S3:=S1.call hr3 hk3
 clear hr3 hk3 S1
 have hz:=S3.lt
 have r0:=fun i=>S3.r.cell i
 have r1:=fun i=>S3.r.frozen i
 go_wp2
 obtain⟨t1,t2,t3⟩:=S3.res false ((s1:Int) * 256+(s2:Int)) 0 0 0 false
 have t4:=t3.old (.cells (fc false ((s1:Int) * 256+(s2:Int)) 0 0 0 false) 78)
 have z0:=t4.cell 0
 have z1:=t4.cell 1
 have z2:=t4.cell 2
 have z3:=t4.cell 3
 have z4:=t4.cell 4
 have z5:=t4.cell 5
 simp at z0 z1 z2 z3 z4 z5
 exact bodyPost_ret (v:=.agg (fc false ((s1:Int) * 256+(s2:Int)) 0 0 0 false)) (by simp[results,Tryz.results209,go_sem,z0,z1,z2,z3,z4,z5]) rfl ⟨rfl,t1.alloc _,t2.alloc _⟩
theorem body_msg(rb bb bo cap:Nat)(l:List Nat)(w:World)(hr:Rd w rb bb bo cap l 0)(s1 s2:Nat)(h0:l[0]? =some 1)(h1:l[1]? =some s1)(h2:l[2]? =some s2)
 (x1 x2 x3 x4 x5:Nat) (g1:l[3]?=some x1) (g2:l[4]?=some x2) (g3:l[5]?=some x3) (g4:l[6]?=some x4) (g5:l[7]?=some x5)
 (hf:x3≤1) (hm:may (x1:Int) (x2:Int) ((x4:Int) * 256+(x5:Int)) (x3==1)=true):
 Calls Tryz.prog 209 #[.pointer (some ⟨rb,0,none⟩)] w fun e w'=>
  e=.returned (.agg (fc true ((s1:Int) * 256+(s2:Int)) (x1:Int) (x2:Int) ((x4:Int) * 256+(x5:Int)) (x3==1)))∧Rd w' rb bb bo cap l 8∧Keep (only rb) w w':=by
 have s0:=BS.start hr
 clear hr
 have HM:Hid (may (x1:Int) (x2:Int) ((x4:Int) * 256+(x5:Int)) (x3==1)=true):=hm
 clear hm
 go_enter Tryz.func209,Tryz.ntmps209
 go_wp2_with fail
 refine(one_at rb bb bo cap l 0 _ s0.rd 1 h0).mono ?_
 rintro e w1 ⟨rfl,hr1,hk1⟩
 have S1:=s0.call hr1 hk1
 clear hr1 hk1 s0
 go_wp2_with fail
 refine(must_yes _).mono ?_
 rintro e w2 ⟨rfl,rfl⟩
 go_wp2_with fail
 refine(two_at rb bb bo cap l 1 _ S1.rd s1 s2 h1 h2).mono ?_
 rintro e w3 ⟨rfl,hr3,hk3⟩
 have S3:=S1.call hr3 hk3
 clear hr3 hk3 S1
 have hz:=S3.lt
 go_wp2_with fail
 have S4:=S3.alloc (.cells (fc true ((s1:Int) * 256+(s2:Int)) 0 0 0 false) 78)
 have b4:=Blk.new w3 (fc true ((s1:Int) * 256+(s2:Int)) 0 0 0 false) 78
 have hrb:rb≠w3.heap.size:=by have:=S3.rd.lt;omega
 refine(message_yes rb bb bo cap l 3 _ S4.rd x1 x2 x3 x4 x5 g1 g2 g3 g4 g5 hf HM.out).mono ?_
 rintro e w5 ⟨rfl,hr5,hk5⟩
 have S5:=S4.call hr5 hk5
 have b5:=b4.keep hk5 (by simp only[only];omega)
 clear hr5 hk5 S4 b4
 have q0:=b5.cell 0
 have q1:=b5.cell 1
 have q2:=b5.cell 2
 have q3:=b5.cell 3
 have q4:=b5.cell 4
 have q5:=b5.cell 5
 have q6:=fun i=>b5.frozen i
 simp at q0 q1 q2 q3 q4 q5
 have r0:=S5.r.cell 0
 have r1:=S5.r.cell 1
 have r2:=S5.r.cell 2
 have r3:=S5.r.cell 3
 have r4:=S5.r.cell 4
 have r5:=S5.r.cell 5
 have r6:=fun i=>S5.r.frozen i
 simp at r0 r1 r2 r3 r4 r5
 go_wp2
 have S6:=(((S5.set ⟨w3.heap.size,2,none⟩ hz (.int .i64 (x1:Int))).set ⟨w3.heap.size,3,none⟩ hz (.int .i64 (x2:Int))).set ⟨w3.heap.size,4,none⟩ hz (.int .i64 ((x4:Int) * 256+(x5:Int)))).set ⟨w3.heap.size,5,none⟩ hz (.bool (x3==1))
 obtain⟨t1,t2,t4⟩:=S6.res true ((s1:Int) * 256+(s2:Int)) (x1:Int) (x2:Int) ((x4:Int) * 256+(x5:Int)) (x3==1)
 have z0:=t4.cell 0
 have z1:=t4.cell 1
 have z2:=t4.cell 2
 have z3:=t4.cell 3
 have z4:=t4.cell 4
 have z5:=t4.cell 5
 simp at z0 z1 z2 z3 z4 z5
 exact bodyPost_ret (v:=.agg (fc true ((s1:Int) * 256+(s2:Int)) (x1:Int) (x2:Int) ((x4:Int) * 256+(x5:Int)) (x3==1))) (by simp[results,Tryz.results209,go_sem,z0,z1,z2,z3,z4,z5]) rfl ⟨rfl,t1,t2⟩
def BodyOk(l:List Nat):Prop:=∃s1 s2,l[1]?=some s1∧l[2]?=some s2∧(l[0]?=some 2∨(l[0]?=some 1∧MsgOk l 3))
theorem body_no(rb bb bo cap:Nat)(l:List Nat)(w:World)(hr:Rd w rb bb bo cap l 0)(hno:¬BodyOk l):
 Calls Tryz.prog 209 #[.pointer (some ⟨rb,0,none⟩)] w fun e w'=>e=.panicked noFrame∧Keep (only rb) w w':=by
 have s0:=BS.start hr
 clear hr
 go_enter Tryz.func209,Tryz.ntmps209
 go_wp2_with fail
 by_cases g1:l.length≤0
 ·refine(one_no rb bb bo cap l 0 _ s0.rd g1).mono ?_
  rintro e w1 ⟨rfl,hk1⟩
  exact⟨rfl,rfl,s0.keep.trans hk1⟩
 obtain⟨x0,h0⟩:=at_some l 0 (by omega)
 clear g1
 refine(one_at rb bb bo cap l 0 _ s0.rd x0 h0).mono ?_
 rintro e w1 ⟨rfl,hr1,hk1⟩
 have S1:=s0.call hr1 hk1
 clear hr1 hk1 s0
 by_cases h12:x0=1∨x0=2
 ·rcases h12 with rfl|rfl
  ·go_wp2_with fail
   refine(must_yes _).mono ?_
   rintro e w2 ⟨rfl,rfl⟩
   go_wp2_with fail
   by_cases g1:l.length≤1+1
   ·refine(two_no rb bb bo cap l 1 _ S1.rd g1).mono ?_
    rintro e w3 ⟨rfl,hk3⟩
    exact⟨rfl,rfl,S1.keep.trans hk3⟩
   obtain⟨s1,h1⟩:=at_some l 1 (by omega)
   obtain⟨s2,h2⟩:=at_some l 2 (by omega)
   clear g1
   refine(two_at rb bb bo cap l 1 _ S1.rd s1 s2 h1 h2).mono ?_
   rintro e w3 ⟨rfl,hr3,hk3⟩
   have S3:=S1.call hr3 hk3
   clear hr3 hk3 S1
   have hz:=S3.lt
   go_wp2_with fail
   have S4:=S3.alloc (.cells (fc true ((s1:Int) * 256+(s2:Int)) 0 0 0 false) 78)
   refine(message_no rb bb bo cap l 3 _ S4.rd (fun h=>hno ⟨s1,s2,h1,h2,Or.inr ⟨h0,h⟩⟩)).mono ?_
   rintro e w5 ⟨rfl,hk5⟩
   exact⟨rfl,rfl,S4.keep.trans hk5⟩
  ·go_wp2_with fail
   refine(must_yes _).mono ?_
   rintro e w2 ⟨rfl,rfl⟩
   go_wp2_with fail
   by_cases g1:l.length≤1+1
   ·refine(two_no rb bb bo cap l 1 _ S1.rd g1).mono ?_
    rintro e w3 ⟨rfl,hk3⟩
    exact⟨rfl,rfl,S1.keep.trans hk3⟩
   obtain⟨s1,h1⟩:=at_some l 1 (by omega)
   obtain⟨s2,h2⟩:=at_some l 2 (by omega)
   exact absurd ⟨s1,s2,h1,h2,Or.inl h0⟩ hno
 ·have e1:((x0:Int)==1)=false:=beq_eq_false_iff_ne.2 (by omega)
  have e2:((x0:Int)==2)=false:=beq_eq_false_iff_ne.2 (by omega)
  clear h12
  go_wp2_with fail
  refine(must_no _).mono ?_
  rintro e w2 ⟨rfl,rfl⟩
  exact⟨rfl,rfl,S1.keep⟩
def noMsg(k l n:Int)(f:Bool):Bool:=k==0&&(l==0&&(n==0&&f==false))
theorem fits_data(s k l n:Int)(f:Bool)(w:World):
 Calls Tryz.prog 176 #[.agg (fc true s k l n f)] w fun e w'=>e=.returned (.bool (may k l n f))∧Keep nil w w':=by
 go_enter Tryz.func176,Tryz.ntmps176
 go_wp2_with fail
 refine(mayBe_any k l n f _).mono ?_
 rintro e w1 ⟨rfl,hk1⟩
 go_wp2
 go_ret
 exact⟨rfl,((Keep.refl _ _).alloc _).trans hk1⟩
theorem fits_ack(s k l n:Int)(f:Bool)(w:World):
 Calls Tryz.prog 176 #[.agg (fc false s k l n f)] w fun e w'=>e=.returned (.bool (noMsg k l n f))∧Keep nil w w':=by
 go_enter Tryz.func176,Tryz.ntmps176
 go_wp2
 all_goals
  go_ret
  exact⟨ret_bool (by simp_all [noMsg]),(Keep.refl _ _).alloc _⟩
end Go.Proofs.YtlfijfodklhplaaGreat
