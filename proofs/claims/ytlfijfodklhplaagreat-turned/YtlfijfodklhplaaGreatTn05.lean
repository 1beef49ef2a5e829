import Derived.Test.YtlfijfodklhplaaGreatTn01
import Derived.Test.YtlfijfodklhplaaGreatTn03
import Derived.Test.YtlfijfodklhplaaGreatTn04
import Derived.Defers
import Derived.Recover
import Derived.LaidEql
set_option maxRecDepth 100000
set_option maxHeartbeats 1000000
set_option linter.unusedVariables false
set_option linter.unusedSimpArgs false
namespace Go.Proofs.YtlfijfodklhplaaGreat
open Go.RowKit
theorem first_byte(c x:Nat)(hc:c<65536)(hx:x<256):bits .xor .u16 (c:Int) ((x:Int) * 256)=((c ^^^ (x * 256):Nat):Int):=by
 have e:((x:Int) * 256)=((x * 256:Nat):Int):=by omega
 rw[e]
 exact u16_xor_nat c (x * 256) hc (by omega)
theorem crc_take(l:List Nat)(k:Nat)(hk:k<l.length):Fr.crc (l.take (k+1))=Fr.steps 8 (Fr.crc (l.take k) ^^^ (l[k] * 256)):=by
 rw[List.take_succ_eq_append_getElem hk,Fr.crc_snoc];rfl
theorem take_byte{l:List Nat}(h:∀x∈l,x<256)(k:Nat):∀x∈l.take k,x<256:=fun x hx=>h x (List.mem_of_mem_take hx)
theorem checkNumber_any(bb bo cap:Nat)(l:List Nat)(w:World)(hrow:Row w bb bo l)(hlen:l.length<140737488355328)(hb:∀x∈l,x<256):
 Calls Tryz.prog 179 #[.slice (some ⟨bb,bo,none⟩) l.length cap] w fun e w'=>e=.returned (.int .u16 ((Fr.crc l:Nat):Int))∧w'=w:=by
 go_enter Tryz.func179,Tryz.ntmps179
 go_wp2
 go_loop [3,8] (fun n i=>∃k:Nat,k≤l.length∧i=.int .i64 (k:Int)∧n=.int .u16 ((Fr.crc (l.take k):Nat):Int)) (fun _ i=>l.length - (intOf i).toNat)
 case atStart=>exact⟨0,Nat.zero_le _,rfl,rfl⟩
 case round=>
  obtain⟨k,hk,rfl,rfl⟩:=hrel
  by_cases hlt:k<l.length
  ·have hx:=hb _ (List.getElem_mem hlt)
   have hc:=Fr.crc_lt (l.take k) (take_byte hb k)
   have hcell:=hrow k hlt
   have HS:Hid (Fr.crc (l.take (k+1))=Fr.steps 8 (Fr.crc (l.take k) ^^^ (l[k] * 256))):=crc_take l k hlt
   have HX:Hid (bits .xor .u16 ((Fr.crc (l.take k):Nat):Int) ((l[k]:Int) * 256)=((Fr.crc (l.take k) ^^^ (l[k] * 256):Nat):Int)):=first_byte _ _ hc hx
   have h16:Fr.crc (l.take k) ^^^ (l[k] * 256)<65536:=Fr.xor_lt hc (by omega)
   generalize Fr.crc (l.take k)=c at *
   go_wp2_with fail
   rw[HX.out]
   clear HX hcell hrow hb
   generalize c ^^^ (l[k] * 256)=q at *
   go_loop [3,17] (fun n j=>∃m:Nat,m≤8∧j=.int .i64 (m:Int)∧n=.int .u16 ((Fr.steps m q:Nat):Int)) (fun _ j=>8 - (intOf j).toNat)
   case atStart=>exact⟨0,Nat.zero_le _,rfl,rfl⟩
   case round=>
    obtain⟨m,hm,rfl,rfl⟩:=hrel
    have hq:=Fr.steps_lt h16 m
    by_cases hm8:m<8
    ·have HQ:Hid (Fr.steps (m+1) q=Fr.step (Fr.steps m q)):=rfl
     generalize Fr.steps m q=p at *
     go_wp2_with fail
     refine(checkStep_any p hq _).mono ?_
     rintro e w1 ⟨rfl,rfl⟩
     go_wp2
     go_round
     case rel=>exact⟨m+1,by omega,by go_num,by rw[HQ.out]⟩
     case measure=>simp[intOf];omega
    ·have e8:m=8:=by omega
     subst e8
     go_wp2
     go_round
     case rel=>exact⟨k+1,by omega,by go_num,by rw[HS.out]⟩
     case measure=>simp[intOf];omega
  ·go_wp2
   go_ret
   exact⟨ret_int (by rw[List.take_of_length_le (by omega)]),rfl⟩
theorem make_ten(w:World):(Instr.makeSlice 56 (.int .i64 0) (.int .i64 10)).run Tryz.prog w=.ok (.slice (some ⟨w.heap.size,0,none⟩) 0 10) (w.alloc (.cells #[.int .u8 0,.int .u8 0,.int .u8 0,.int .u8 0,.int .u8 0,.int .u8 0,.int .u8 0,.int .u8 0,.int .u8 0,.int .u8 0] 5)):=by kernel_rfl
theorem cells_one(w:World)(x:Int)(a:Nat)(hx:x=(a:Int))(t:TypeId)(n:Nat)(hn:n=w.heap.size):
 ∀j u,([a].map bv)[j]?=some u→(w.alloc (.cells #[.int .u8 x] t)).drew.cell? ((⟨n,0,none⟩:Addr).add j)=some u:=by
 intro j u hu
 subst hx hn
 rw[Addr.add_lit,Nat.zero_add,World.cell?_drew,World.cell?_alloc_new]
 match j,hu with
 |0,hu=>simpa [bv]using hu
abbrev ten:Array Value:=#[.int .u8 0,.int .u8 0,.int .u8 0,.int .u8 0,.int .u8 0,.int .u8 0,.int .u8 0,.int .u8 0,.int .u8 0,.int .u8 0]
theorem buf_ten(w:World):Buf (w.alloc (.cells ten 5)) w.heap.size [] 10:=
 ⟨[.int .u8 0,.int .u8 0,.int .u8 0,.int .u8 0,.int .u8 0,.int .u8 0,.int .u8 0,.int .u8 0,.int .u8 0,.int .u8 0],Blk.new w _ _,rfl⟩
theorem encode_ack(s:Nat)(hs:s<65536)(w:World):
 Calls Tryz.prog 124 #[.agg (fc false (s:Int) 0 0 0 false)] w fun e w'=>
  ∃g,e=.returned (.tuple #[.slice (some ⟨g,0,none⟩) 5 10,.int .i64 0])∧w.heap.size≤g∧Buf w' g (Fr.enc ⟨false,s,Fr.none0⟩) 10∧Keep nil w w':=by
 have hmk:=make_ten
 have h1:(s:Int)≤65535:=by omega
 have hs':s / 256<256:=by omega
 have HS:Hid (s<65536):=hs
 clear hs
 go_enter Tryz.func124,Tryz.ntmps124
 go_wp2_with fail
 refine(fits_ack (s:Int) 0 0 0 false _).mono ?_
 rintro e w1 ⟨rfl,hk1⟩
 have hz:w.heap.size<w1.heap.size:=by have:=hk1.size;simp at this;omega
 have c0:=fun i=>hk1.cell w.heap.size i (by simp) (fun e=>e)
 simp only[World.cell?_alloc_new]at c0
 have e0:noMsg 0 0 0 false=true:=rfl
 have hbuf:=buf_ten w1
 go_wp2_with fail
 go_region_law (first|(refine step_append_buf rfl (.tmp 29) (.tmp 30) rfl w1.heap.size 10 [] 0 rfl rfl (hbuf.alloc _).drew ⟨w1.heap.size+1,0,none⟩ 1 1 rfl [2] rfl (cells_one (w1.alloc (.cells ten 5)) 2 2 rfl 5 (w1.heap.size+1) (World.size_alloc _ _).symm) (by omega) ?_;intro w2 hb2 hk2;have q2:=hk2.cell w.heap.size 1 (by simp only[World.size_alloc,World.size_drew];omega) (by simp only[only];omega))|(go_simp;refine(appendTwo_at w1.heap.size 10 ([]++[2]) 1 rfl s _ hb2 (by omega) HS.out).mono ?_;rintro e w3 ⟨rfl,hb3,hk3⟩))
 all_goals
  have hbt:∀x∈[2,s / 256,s % 256],x<256:=by intro x hx;simp at hx;omega
  have hq:=Fr.crc_lt [2,s / 256,s % 256] hbt
  have hn:=checkNumber_any w1.heap.size 0 10 [2,s / 256,s % 256] _ hb3.row (by simp) hbt
  generalize hC:Fr.crc [2,s / 256,s % 256]=q at *
  have HC:Hid (Fr.crc [2,s / 256,s % 256]=q):=hC
  clear hC hbuf q2 c0 e0
  go_wp2_with fail
  refine hn.mono ?_
  rintro e w4 ⟨rfl,rfl⟩
  clear hn
  go_wp2_with fail
  refine(appendTwo_at w1.heap.size 10 ([]++[2]++[s / 256,s % 256]) 3 rfl q _ hb3 (by omega) hq).mono ?_
  rintro e w5 ⟨rfl,hb5,hk5⟩
  go_wp2
  go_ret2
  have hb6:Buf w5 w1.heap.size (Fr.enc ⟨false,s,Fr.none0⟩) 10:=by
   have e:Fr.enc ⟨false,s,Fr.none0⟩=[]++[2]++[s / 256,s % 256]++[q / 256,q % 256]:=by
    rw[←HC.out];simp[Fr.enc,Fr.sealed,Fr.body]
   rw[e];exact hb5
  have up:∀ {a b:World},Keep nil w a→Keep (only w1.heap.size) a b→Keep nil w b:=fun k1 k2=>k1.trans' k2 (fun i hi e=>by simp only[only]at e;omega)
  exact⟨w1.heap.size,rfl,by omega,hb6,up (up (up (((((Keep.refl nil w).alloc _).trans hk1).alloc _).alloc _).drew hk2) hk3) hk5⟩
theorem encode_msg(s:Nat)(hs:s<65536)(m:Fr.Msg)(h1:m.kind<256)(h2:m.level<256)(h3:m.name<65536)(hm:may (m.kind:Int) (m.level:Int) (m.name:Int) m.finding=true)(w:World):
 Calls Tryz.prog 124 #[.agg (fc true (s:Int) (m.kind:Int) (m.level:Int) (m.name:Int) m.finding)] w fun e w'=>
  ∃g,e=.returned (.tuple #[.slice (some ⟨g,0,none⟩) 10 10,.int .i64 0])∧w.heap.size≤g∧Buf w' g (Fr.enc ⟨true,s,m⟩) 10∧Keep nil w w':=by
 obtain⟨k,lv,n,f⟩:=m
 simp only at h1 h2 h3 hm⊢
 have hmk:=make_ten
 have hs1:(s:Int)≤65535:=by omega
 have HS:Hid (s<65536):=hs
 have H1:Hid (k<256):=h1
 have H2:Hid (lv<256):=h2
 have H3:Hid (n<65536):=h3
 clear hs h1 h2 h3
 go_enter Tryz.func124,Tryz.ntmps124
 go_wp2_with fail
 refine(fits_data (s:Int) (k:Int) (lv:Int) (n:Int) f _).mono ?_
 rintro e w1 ⟨rfl,hk1⟩
 have hz:w.heap.size<w1.heap.size:=by have:=hk1.size;simp at this;omega
 have c0:=fun i=>hk1.cell w.heap.size i (by simp) (fun e=>e)
 simp only[World.cell?_alloc_new]at c0
 have hbuf:=buf_ten w1
 go_wp2_with fail
 go_region_law (first|(refine step_append_buf rfl (.tmp 19) (.tmp 20) rfl w1.heap.size 10 [] 0 rfl rfl (hbuf.alloc _).drew ⟨w1.heap.size+1,0,none⟩ 1 1 rfl [1] rfl (cells_one (w1.alloc (.cells ten 5)) 1 1 rfl 5 (w1.heap.size+1) (World.size_alloc _ _).symm) (by omega) ?_;intro w2 hb2 hk2;have q2:=hk2.cell w.heap.size 1 (by simp only[World.size_alloc,World.size_drew];omega) (by simp only[only];omega))|(go_simp;refine(appendTwo_at w1.heap.size 10 ([]++[1]) 1 rfl s _ hb2 (by omega) HS.out).mono ?_;rintro e w3 ⟨rfl,hb3,hk3⟩))
 all_goals
  have d0:∀i,w3.cell? ⟨w.heap.size,i,none⟩=w1.cell? ⟨w.heap.size,i,none⟩:=fun i=>by
   rw[hk3.cell w.heap.size i (by have:=hk2.size;simp at this;omega) (by simp only[only];omega),hk2.cell w.heap.size i (by simp;omega) (by simp only[only];omega),World.cell?_drew,World.cell?_alloc_lt _ _ _ (by simp;omega),World.cell?_alloc_lt _ _ _ (by simp;omega)]
  clear q2
  have d2:=(d0 2).trans (c0 2)
  have d3:=(d0 3).trans (c0 3)
  have d4:=(d0 4).trans (c0 4)
  have d5:=(d0 5).trans (c0 5)
  simp at d2 d3 d4 d5
  clear d0 c0
  go_wp2_with fail
  refine(appendMessage_any w1.heap.size 10 ([]++[1]++[s / 256,s % 256]) 3 rfl k lv n f _ hb3 (by omega) H1.out H2.out H3.out).mono ?_
  rintro e w4 ⟨rfl,hb4,hk4⟩
  have hbt:∀x∈[1,s / 256,s % 256,k,lv,f.toNat,n / 256,n % 256],x<256:=by
   have t1:=HS.out
   have t2:=H1.out
   have t3:=H2.out
   have t4:=H3.out
   have t5:f.toNat<256:=by cases f<;>simp
   intro x hx;simp at hx;omega
  have hq:=Fr.crc_lt [1,s / 256,s % 256,k,lv,f.toNat,n / 256,n % 256] hbt
  have hn:=checkNumber_any w1.heap.size 0 10 [1,s / 256,s % 256,k,lv,f.toNat,n / 256,n % 256] _ hb4.row (by simp) hbt
  generalize hC:Fr.crc [1,s / 256,s % 256,k,lv,f.toNat,n / 256,n % 256]=q at *
  have HC:Hid (Fr.crc [1,s / 256,s % 256,k,lv,f.toNat,n / 256,n % 256]=q):=hC
  clear hC hbuf d2 d3 d4 d5
  go_wp2_with fail
  refine hn.mono ?_
  rintro e w5 ⟨rfl,rfl⟩
  clear hn
  go_wp2_with fail
  refine(appendTwo_at w1.heap.size 10 ([]++[1]++[s / 256,s % 256]++[k,lv,f.toNat]++[n / 256,n % 256]) 8 rfl q _ hb4 (by omega) hq).mono ?_
  rintro e w6 ⟨rfl,hb6,hk6⟩
  go_wp2
  go_ret2
  have hb7:Buf w6 w1.heap.size (Fr.enc ⟨true,s,⟨k,lv,n,f⟩⟩) 10:=by
   have e:Fr.enc ⟨true,s,⟨k,lv,n,f⟩⟩=[]++[1]++[s / 256,s % 256]++[k,lv,f.toNat]++[n / 256,n % 256]++[q / 256,q % 256]:=by
    rw[←HC.out];simp[Fr.enc,Fr.sealed,Fr.body]
   rw[e];exact hb6
  have up:∀ {a b:World},Keep nil w a→Keep (only w1.heap.size) a b→Keep nil w b:=fun k1 k2=>k1.trans' k2 (fun i hi e=>by simp only[only]at e;omega)
  exact⟨w1.heap.size,rfl,by omega,hb7,up (up (up (up (((((Keep.refl nil w).alloc _).trans hk1).alloc _).alloc _).drew hk2) hk3) hk4) hk6⟩
structure RS(w0 w:World)(bb bo cap:Nat)(l:List Nat)(k:Nat):Prop where
 rd:Rd w (w0.heap.size+1) bb bo cap l k
 r:Blk w w0.heap.size (fc false 0 0 0 0 false) 78
 keep:Keep nil w0 w
 bbl:bb<w0.heap.size
theorem RS.call{w0 w w1:World}{bb bo cap:Nat}{l:List Nat}{k k':Nat}(s:RS w0 w bb bo cap l k)(hr:Rd w1 (w0.heap.size+1) bb bo cap l k')(hk:Keep (only (w0.heap.size+1)) w w1):RS w0 w1 bb bo cap l k':=
 ⟨hr,s.r.keep hk (by simp only[only];omega),s.keep.trans' hk (fun i hi e=>by simp only[only]at e;omega),s.bbl⟩
theorem RS.alloc{w0 w:World}{bb bo cap:Nat}{l:List Nat}{k:Nat}(s:RS w0 w bb bo cap l k)(o:Obj):RS w0 (w.alloc o) bb bo cap l k:=
 ⟨s.rd.alloc _,s.r.old _,s.keep.alloc _,s.bbl⟩
theorem RS.lt{w0 w:World}{bb bo cap:Nat}{l:List Nat}{k:Nat}(s:RS w0 w bb bo cap l k):w0.heap.size+1<w.heap.size:=s.rd.lt
theorem RS.start{w:World}{bb bo cap:Nat}{l:List Nat}(hrow:Row w bb bo l)(hbb:bb<w.heap.size)(hlen:l.length<140737488355328)(hb:∀x∈l,x<256):
 RS w ((w.alloc (.cells (fc false 0 0 0 0 false) 78)).alloc (.cells #[.slice (some ⟨bb,bo,none⟩) l.length cap,.int .i64 0] 330)) bb bo cap l 0:=
 ⟨⟨Blk.new' _ _ _ _ (by simp),(hrow.keep ((Keep.refl nil w).alloc _) hbb (fun e=>e)).keep ((Keep.refl nil _).alloc _) (by simp;omega) (fun e=>e),by omega,by simp;omega,hlen,hb⟩,
  (Blk.new _ _ _).old _,((Keep.refl _ _).alloc _).alloc _,hbb⟩
theorem RS.res{w0 w:World}{bb bo cap:Nat}{l:List Nat}{k:Nat}(h:RS w0 w bb bo cap l k)(d:Bool)(s j i n:Int)(f:Bool):
 Keep nil w0 (put6 w w0.heap.size d s j i n f)∧Blk (put6 w w0.heap.size d s j i n f) w0.heap.size (fc d s j i n f) 78:=
 ⟨h.keep.put6 _ (fun h=>by omega) d s j i n f,h.r.put6 d s j i n f⟩
theorem Rd.part{w:World}{rb bb bo cap:Nat}{l:List Nat}{k:Nat}(h:Rd w rb bb bo cap l k)(n:Nat):Row w bb bo (l.take n):=fun i hi=>by
 have:i<l.length:=by rw[List.length_take]at hi;omega
 rw[List.getElem_take]
 exact h.row i this
structure Six where
 d:Bool
 s:Int
 k:Int
 l:Int
 n:Int
 f:Bool
def Six.zero:Six:=⟨false,0,0,0,0,false⟩
def BodyIs(l:List Nat)(k:Nat)(x:Six):Prop:=∃s1 s2:Nat,l[1]?=some s1∧l[2]?=some s2∧
 ((l[0]? =some 2∧k=3∧x=⟨false,(s1:Int) * 256+(s2:Int),0,0,0,false⟩)∨
  (l[0]?=some 1∧k=8∧∃x1 x2 x3 x4 x5:Nat,l[3]?=some x1∧l[4]?=some x2∧l[5]?=some x3∧l[6]?=some x4∧l[7]?=some x5∧x3≤1∧
   may (x1:Int) (x2:Int) ((x4:Int) * 256+(x5:Int)) (x3==1)=true∧x=⟨true,(s1:Int) * 256+(s2:Int),(x1:Int),(x2:Int),(x4:Int) * 256+(x5:Int),x3==1⟩))
theorem body_is{l:List Nat}(h:BodyOk l):∃k x,BodyIs l k x:=by
 obtain⟨s1,s2,h1,h2,h|⟨h,x1,x2,x3,x4,x5,g1,g2,g3,g4,g5,g6,g7⟩⟩:=h
 ·exact⟨_,_,s1,s2,h1,h2,Or.inl ⟨h,rfl,rfl⟩⟩
 ·exact⟨_,_,s1,s2,h1,h2,Or.inr ⟨h,rfl,x1,x2,x3,x4,x5,g1,g2,g3,g4,g5,g6,g7,rfl⟩⟩
theorem some_lt{l:List Nat}{k x:Nat}(h:l[k]?=some x):k<l.length:=(List.getElem?_eq_some_iff.1 h).1
theorem BodyIs.len{l:List Nat}{k:Nat}{x:Six}(h:BodyIs l k x):k≤l.length∧(k=3∨k=8):=by
 obtain⟨s1,s2,h1,h2,⟨h,rfl,rfl⟩|⟨h,rfl,x1,x2,x3,x4,x5,g1,g2,g3,g4,g5,g6,g7,rfl⟩⟩:=h
 ·have:=some_lt h2;exact⟨this,Or.inl rfl⟩
 ·have:=some_lt g5;exact⟨this,Or.inr rfl⟩
theorem body_any(rb bb bo cap:Nat)(l:List Nat)(w:World)(hr:Rd w rb bb bo cap l 0)(k:Nat)(x:Six)(h:BodyIs l k x):
 Calls Tryz.prog 209 #[.pointer (some ⟨rb,0,none⟩)] w fun e w'=>e=.returned (.agg (fc x.d x.s x.k x.l x.n x.f))∧Rd w' rb bb bo cap l k∧Keep (only rb) w w':=by
 obtain⟨s1,s2,h1,h2,⟨h,rfl,rfl⟩|⟨h,rfl,x1,x2,x3,x4,x5,g1,g2,g3,g4,g5,g6,g7,rfl⟩⟩:=h
 ·exact body_ack rb bb bo cap l w hr s1 s2 h h1 h2
 ·exact body_msg rb bb bo cap l w hr s1 s2 h h1 h2 x1 x2 x3 x4 x5 g1 g2 g3 g4 g5 g6 g7
theorem read_yes(bb bo cap:Nat)(l:List Nat)(w:World)(hrow:Row w bb bo l)(hbb:bb<w.heap.size)(hcap:l.length≤cap)(hlen:l.length<140737488355328)(hb:∀x∈l,x<256)
 (k:Nat) (x:Six) (hx:BodyIs l k x) (c1 c2:Nat) (h1:l[k]?=some c1) (h2:l[k+1]?=some c2) (hc:c1 * 256+c2=Fr.crc (l.take k)) (hl:l.length=k+2):
 Calls Tryz.prog 181 #[.slice (some ⟨bb,bo,none⟩) l.length cap] w fun e w'=>e=.returned (.agg (fc x.d x.s x.k x.l x.n x.f))∧Keep nil w w':=by
 have s0:RS w _ bb bo cap l 0:=RS.start (cap:=cap) hrow hbb hlen hb
 have hk:=hx.len
 have HC:Hid (c1 * 256+c2=Fr.crc (l.take k)):=hc
 have HL:Hid (l.length=k+2):=hl
 clear hl hc
 go_enter Tryz.func181,Tryz.ntmps181
 go_wp2_with fail
 refine(body_any (w.heap.size+1) bb bo cap l _ s0.rd k x hx).mono ?_
 rintro e w1 ⟨rfl,hr1,hk1⟩
 have s1:=(s0.call hr1 hk1).alloc (.cells (fc x.d x.s x.k x.l x.n x.f) 78)
 have b1:=Blk.new w1 (fc x.d x.s x.k x.l x.n x.f) 78
 have hz:=(s0.call hr1 hk1).lt
 clear s0 hr1 hk1
 have q0:=s1.rd.blk.cell 1
 simp at q0
 go_wp2_with fail
 have hn:=checkNumber_any bb bo cap (l.take k) _ (s1.rd.part k) (by rw[List.length_take];omega) (take_byte hb k)
 rw[List.length_take,Nat.min_eq_left hk.1]at hn
 refine hn.mono ?_
 rintro e w2 ⟨rfl,rfl⟩
 have hq:=Fr.crc_lt (l.take k) (take_byte hb k)
 have E1:(((c1:Int) * 256+(c2:Int))==((Fr.crc (l.take k):Nat):Int))=true:=by
  have:=HC.out
  rw[beq_iff_eq];omega
 have HE:Hid ((((c1:Int) * 256+(c2:Int))==((Fr.crc (l.take k):Nat):Int))=true):=E1
 clear E1 hn q0 HC
 generalize Fr.crc (l.take k)=c at *
 go_wp2_with fail
 refine(two_at (w.heap.size+1) bb bo cap l k _ s1.rd c1 c2 h1 h2).mono ?_
 rintro e w3 ⟨rfl,hr3,hk3⟩
 have s3:=s1.call hr3 hk3
 have b3:=b1.keep hk3 (by simp only[only];omega)
 have E2:=HE.out
 clear s1 b1 hr3 hk3 h1 h2
 go_wp2_with fail
 refine(must_yes _).mono ?_
 rintro e w4 ⟨rfl,rfl⟩
 have q0:=s3.rd.blk.cell 1
 simp at q0
 have E3:((k:Int)+2==(l.length:Int))=true:=by have:=HL.out;rw[beq_iff_eq];omega
 clear E2 HE HL
 go_wp2_with fail
 refine(must_yes _).mono ?_
 rintro e w5 ⟨rfl,rfl⟩
 clear E3 q0
 have q0:=b3.cell 0
 have q1:=b3.cell 1
 have q2:=b3.cell 2
 have q3:=b3.cell 3
 have q4:=b3.cell 4
 have q5:=b3.cell 5
 simp at q0 q1 q2 q3 q4 q5
 have r0:=s3.r.cell 0
 have r1:=s3.r.cell 1
 have r2:=s3.r.cell 2
 have r3:=s3.r.cell 3
 have r4:=s3.r.cell 4
 have r5:=s3.r.cell 5
 have r6:=fun i=>s3.r.frozen i
 simp at r0 r1 r2 r3 r4 r5
 go_wp2
 obtain⟨t1,t4⟩:=s3.res x.d x.s x.k x.l x.n x.f
 have z0:=t4.cell 0
 have z1:=t4.cell 1
 have z2:=t4.cell 2
 have z3:=t4.cell 3
 have z4:=t4.cell 4
 have z5:=t4.cell 5
 simp at z0 z1 z2 z3 z4 z5
 exact bodyPost_ret (v:=.agg (fc x.d x.s x.k x.l x.n x.f)) (by simp[results,Tryz.results181,go_sem,z0,z1,z2,z3,z4,z5]) rfl ⟨rfl,t1⟩
def ReadOk(l:List Nat)(x:Six):Prop:=∃k c1 c2:Nat,BodyIs l k x∧l[k]?=some c1∧l[k+1]?=some c2∧c1 * 256+c2=Fr.crc (l.take k)∧l.length=k+2
theorem read_no(bb bo cap:Nat)(l:List Nat)(w:World)(hrow:Row w bb bo l)(hbb:bb<w.heap.size)(hcap:l.length≤cap)(hlen:l.length<140737488355328)(hb:∀x∈l,x<256)
 (hno:∀x,¬ReadOk l x):
 Calls Tryz.prog 181 #[.slice (some ⟨bb,bo,none⟩) l.length cap] w fun e w'=>e=.panicked noFrame∧Keep nil w w':=by
 have s0:RS w _ bb bo cap l 0:=RS.start (cap:=cap) hrow hbb hlen hb
 have up:∀ {a b:World},Keep nil w a→Keep (only (w.heap.size+1)) a b→Keep nil w b:=fun h1 h2=>h1.trans' h2 (fun i hi e=>by simp only[only]at e;omega)
 go_enter Tryz.func181,Tryz.ntmps181
 go_wp2_with fail
 by_cases hB:BodyOk l
 ·obtain⟨k,x,hx⟩:=body_is hB
  clear hB
  have hk:=hx.len
  refine(body_any (w.heap.size+1) bb bo cap l _ s0.rd k x hx).mono ?_
  rintro e w1 ⟨rfl,hr1,hk1⟩
  have s1:=(s0.call hr1 hk1).alloc (.cells (fc x.d x.s x.k x.l x.n x.f) 78)
  have hz:=(s0.call hr1 hk1).lt
  clear s0 hr1 hk1
  have q0:=s1.rd.blk.cell 1
  simp at q0
  go_wp2_with fail
  have hn:=checkNumber_any bb bo cap (l.take k) _ (s1.rd.part k) (by rw[List.length_take];omega) (take_byte hb k)
  rw[List.length_take,Nat.min_eq_left hk.1]at hn
  refine hn.mono ?_
  rintro e w2 ⟨rfl,rfl⟩
  clear hn q0
  have hq:=Fr.crc_lt (l.take k) (take_byte hb k)
  generalize hC:Fr.crc (l.take k)=c at *
  have HC:Hid (Fr.crc (l.take k)=c):=hC
  clear hC
  go_wp2_with fail
  by_cases g1:l.length≤k+1
  ·refine(two_no (w.heap.size+1) bb bo cap l k _ s1.rd g1).mono ?_
   rintro e w3 ⟨rfl,hk3⟩
   exact⟨rfl,rfl,up s1.keep hk3⟩
  obtain⟨c1,h1⟩:=at_some l k (by omega)
  obtain⟨c2,h2⟩:=at_some l (k+1) (by omega)
  clear g1
  refine(two_at (w.heap.size+1) bb bo cap l k _ s1.rd c1 c2 h1 h2).mono ?_
  rintro e w3 ⟨rfl,hr3,hk3⟩
  have s3:=s1.call hr3 hk3
  clear s1 hr3 hk3
  by_cases hE:c1 * 256+c2=c
  ·have E2:(((c1:Int) * 256+(c2:Int))==(c:Int))=true:=by rw[beq_iff_eq];omega
   have HL:Hid (¬l.length=k+2):=fun h=>hno x ⟨k,c1,c2,hx,h1,h2,by rw[HC.out];exact hE,h⟩
   clear hE h1 h2 hno
   go_wp2_with fail
   refine(must_yes _).mono ?_
   rintro e w4 ⟨rfl,rfl⟩
   have q0:=s3.rd.blk.cell 1
   simp at q0
   have E3:((k:Int)+2==(l.length:Int))=false:=by have:=HL.out;rw[beq_eq_false_iff_ne];omega
   clear E2 HL
   go_wp2_with fail
   refine(must_no _).mono ?_
   rintro e w5 ⟨rfl,rfl⟩
   exact⟨rfl,rfl,s3.keep⟩
  ·have E2:(((c1:Int) * 256+(c2:Int))==(c:Int))=false:=by rw[beq_eq_false_iff_ne];omega
   clear hE h1 h2 hno
   go_wp2_with fail
   refine(must_no _).mono ?_
   rintro e w4 ⟨rfl,rfl⟩
   exact⟨rfl,rfl,s3.keep⟩
 ·refine(body_no (w.heap.size+1) bb bo cap l _ s0.rd hB).mono ?_
  rintro e w1 ⟨rfl,hk1⟩
  exact⟨rfl,rfl,up s0.keep hk1⟩
theorem assert_own(w:World):(Instr.typeAssert (.iface 279 (.agg #[])) 20 279 true).run Tryz.prog w=.ok (.tuple #[.agg #[],.bool true]) w:=by kernel_rfl
theorem frame_own(a b:Value):#[a,b]++Array.replicate (Tryz.f180.ntmps - #[a,b].size) undef=#[a,b,undef,undef,undef,undef,undef,undef,undef,undef,undef,undef,undef,undef,undef,undef,undef]:=by rw[Tryz.ntmps180];rfl
theorem catch_idle(pf pe:Addr)(w:World):
 CallsD Tryz.prog 180 #[.pointer (some pf),.pointer (some pe)] .returning w fun e u' w'=>e=.returned (.tuple #[])∧u'=.returning∧w'=w:=by
 refine callsD_of_wpS Tryz.func180 rfl fun c₀ cs hu=>?_
 rw[frame_own]
 apply wpS_seq
 apply wpS_region
 simp[wpOpsS,go_sem,recoverD,hu,Exit.thenS]
 refine wpS_of_wp ?_
 go_wp2
 exact⟨rfl,_,by rw[←hu],.tuple #[],by simp[results,Tryz.results180,go_sem],rfl,rfl,rfl⟩
theorem catch_panicking(bf be:Nat)(x:Six)(n:Int)(w:World)(hf:Blk w bf (fc x.d x.s x.k x.l x.n x.f) 78)(he:Blk w be #[.int .i64 n] 32)(hne:¬be=bf)(hne':¬bf=be):
 CallsD Tryz.prog 180 #[.pointer (some ⟨bf,0,none⟩),.pointer (some ⟨be,0,none⟩)] (.panicking noFrame) w fun e u' w'=>
  e=.returned (.tuple #[])∧u'=.panicking [{ v:=.iface 279 (.agg #[]),recovered:=true}]∧Blk w' bf (fc false 0 0 0 0 false) 78∧Blk w' be #[.int .i64 9] 32∧Keep (fun k=>k=bf∨k=be) w w':=by
 unfold noFrame
 have hta:=assert_own
 refine callsD_of_wpS Tryz.func180 rfl fun c₀ cs hu=>?_
 rw[frame_own]
 apply wpS_seq
 apply wpS_region
 simp[wpOpsS,go_sem,recoverD,hu,Exit.thenS]
 refine wpS_of_wp ?_
 clear hu
 have q0:=hf.cell 0
 have q1:=hf.cell 1
 have q2:=hf.cell 2
 have q3:=hf.cell 3
 have q4:=hf.cell 4
 have q5:=hf.cell 5
 have q6:=fun i=>hf.frozen i
 have q7:=he.cell 0
 have q8:=fun i=>he.frozen i
 have q9:=hf.lt
 have q10:=he.lt
 simp at q0 q1 q2 q3 q4 q5 q7
 go_wp2
 have k1:Keep (only bf) w (put6 w bf false 0 0 0 0 false):=(Keep.refl (only bf) w).put6 bf (fun _=>rfl) false 0 0 0 0 false
 have k2:Keep (only be) (put6 w bf false 0 0 0 0 false) ((put6 w bf false 0 0 0 0 false).setCell ⟨be,0,none⟩ (.int .i64 9)):=(Keep.refl (only be) _).setCell (p:=⟨be,0,none⟩) (fun _=>rfl) _
 have b1:Blk _ be #[.int .i64 9] 32:=(he.keep k1 (fun e=>hne e)).set 0 (.int .i64 9)
 have b2:=(hf.put6 false 0 0 0 0 false).keep k2 (fun e=>hne' e)
 refine⟨rfl,_,rfl,.tuple #[],by simp[results,Tryz.results180,go_sem],rfl,rfl,b2.old _,b1.old _,?_⟩
 exact(((Keep.refl (fun k=>k=bf∨k=be) w).put6 bf (fun _=>Or.inl rfl) false 0 0 0 0 false).setCell (p:=⟨be,0,none⟩) (fun _=>Or.inr rfl) _).alloc _
theorem read_ok(bb bo cap:Nat)(l:List Nat)(w:World)(hrow:Row w bb bo l)(hbb:bb<w.heap.size)(hcap:l.length≤cap)(hlen:l.length<140737488355328)(hb:∀x∈l,x<256)(x:Six)(hx:ReadOk l x):
 Calls Tryz.prog 181 #[.slice (some ⟨bb,bo,none⟩) l.length cap] w fun e w'=>e=.returned (.agg (fc x.d x.s x.k x.l x.n x.f))∧Keep nil w w':=by
 obtain⟨k,c1,c2,hx,h1,h2,hc,hl⟩:=hx
 exact read_yes bb bo cap l w hrow hbb hcap hlen hb k x hx c1 c2 h1 h2 hc hl
theorem decode_yes(bb bo cap:Nat)(l:List Nat)(w:World)(hrow:Row w bb bo l)(hbb:bb<w.heap.size)(hcap:l.length≤cap)(hlen:l.length<140737488355328)(hb:∀x∈l,x<256)(x:Six)(hx:ReadOk l x):
 Calls Tryz.prog 128 #[.slice (some ⟨bb,bo,none⟩) l.length cap] w fun e w'=>e=.returned (.tuple #[.agg (fc x.d x.s x.k x.l x.n x.f),.int .i64 0])∧Keep nil w w':=by
 have hmf:∀(fn:Fn) (first cap:Array Value) (w:World),(Instr.makeFunc fn first cap).run Tryz.prog w=.ok (.func fn first cap) w:=fun _ _ _ _=>rfl
 go_enter_defers Tryz.func128,Tryz.ntmps128
 go_wp2_with fail
 have r1:=(hrow.keep ((Keep.refl nil w).alloc (.cells (fc false 0 0 0 0 false) 78)) hbb (fun e=>e)).keep ((Keep.refl nil _).alloc (.cells #[.int .i64 0] 32)) (by simp;omega) (fun e=>e)
 refine(read_ok bb bo cap l _ r1 (by simp;omega) hcap hlen hb x hx).mono ?_
 rintro e w1 ⟨rfl,hk1⟩
 have b1:=((Blk.new w (fc false 0 0 0 0 false) 78).old (.cells #[.int .i64 0] 32)).keep hk1 (fun e=>e)
 have b2:=(Blk.new' (w.alloc (.cells (fc false 0 0 0 0 false) 78)) #[.int .i64 0] 32 (w.heap.size+1) (by simp)).keep hk1 (fun e=>e)
 have q0:=b1.cell 0
 have q1:=b1.cell 1
 have q2:=b1.cell 2
 have q3:=b1.cell 3
 have q4:=b1.cell 4
 have q5:=b1.cell 5
 have q6:=fun i=>b1.frozen i
 have q7:=b2.cell 0
 have q8:=fun i=>b2.frozen i
 simp at q0 q1 q2 q3 q4 q5 q7
 clear hx hrow hb r1
 go_wp2
 have k1:Keep (only w.heap.size) w1 (put6 w1 w.heap.size x.d x.s x.k x.l x.n x.f):=(Keep.refl (only w.heap.size) w1).put6 w.heap.size (fun _=>rfl) x.d x.s x.k x.l x.n x.f
 have k2:Keep (only (w.heap.size+1)) (put6 w1 w.heap.size x.d x.s x.k x.l x.n x.f) ((put6 w1 w.heap.size x.d x.s x.k x.l x.n x.f).setCell ⟨w.heap.size+1,0,none⟩ (.int .i64 0)):=(Keep.refl (only (w.heap.size+1)) _).setCell (p:=⟨w.heap.size+1,0,none⟩) (fun _=>rfl) _
 have d1:=(b1.put6 x.d x.s x.k x.l x.n x.f).keep k2 (by simp only[only];omega)
 have d2:Blk _ (w.heap.size+1) #[.int .i64 0] 32:=(b2.keep k1 (by simp only[only];omega)).set 0 (.int .i64 0)
 have kk:Keep nil w ((put6 w1 w.heap.size x.d x.s x.k x.l x.n x.f).setCell ⟨w.heap.size+1,0,none⟩ (.int .i64 0)):=
  (((((Keep.refl nil w).alloc _).alloc _).trans hk1).put6 w.heap.size (fun h=>by omega) x.d x.s x.k x.l x.n x.f).setCell (p:=⟨w.heap.size+1,0,none⟩) (fun h=>by simp only at h;omega) _
 have z0:=d1.cell 0
 have z1:=d1.cell 1
 have z2:=d1.cell 2
 have z3:=d1.cell 3
 have z4:=d1.cell 4
 have z5:=d1.cell 5
 have z6:=d2.cell 0
 simp only[List.getElem?_toArray]at z0 z1 z2 z3 z4 z5 z6
 clear q0 q1 q2 q3 q4 q5 q6 q7 q8 k1 k2 d1 d2 b1 b2 hk1
 refine leaves_cons (f:=180) (args:=#[.pointer (some ⟨w.heap.size,0,none⟩),.pointer (some ⟨w.heap.size+1,0,none⟩)]) (by simp) (by simp[go_sem]) ?_
 refine(catch_idle _ _ _).mono ?_
 rintro e u' w'' ⟨rfl,rfl,rfl⟩
 refine⟨.tuple #[.agg (fc x.d x.s x.k x.l x.n x.f),.int .i64 0],?_,rfl,kk⟩
 simp[results,Tryz.results128,go_sem,z0,z1,z2,z3,z4,z5,z6]
theorem decode_no(bb bo cap:Nat)(l:List Nat)(w:World)(hrow:Row w bb bo l)(hbb:bb<w.heap.size)(hcap:l.length≤cap)(hlen:l.length<140737488355328)(hb:∀x∈l,x<256)(hno:∀x,¬ReadOk l x):
 Calls Tryz.prog 128 #[.slice (some ⟨bb,bo,none⟩) l.length cap] w fun e w'=>e=.returned (.tuple #[.agg (fc false 0 0 0 0 false),.int .i64 9])∧Keep nil w w':=by
 have hmf:∀(fn:Fn) (first cap:Array Value) (w:World),(Instr.makeFunc fn first cap).run Tryz.prog w=.ok (.func fn first cap) w:=fun _ _ _ _=>rfl
 have HN:Hid (∀x,¬ReadOk l x):=hno
 clear hno
 go_enter_defers Tryz.func128,Tryz.ntmps128
 go_wp2_with fail
 have r1:=(hrow.keep ((Keep.refl nil w).alloc (.cells (fc false 0 0 0 0 false) 78)) hbb (fun e=>e)).keep ((Keep.refl nil _).alloc (.cells #[.int .i64 0] 32)) (by simp;omega) (fun e=>e)
 refine(read_no bb bo cap l _ r1 (by simp;omega) hcap hlen hb HN.out).mono ?_
 rintro e w1 ⟨rfl,hk1⟩
 have b1:=((Blk.new w (fc false 0 0 0 0 false) 78).old (.cells #[.int .i64 0] 32)).keep hk1 (fun e=>e)
 have b2:=(Blk.new' (w.alloc (.cells (fc false 0 0 0 0 false) 78)) #[.int .i64 0] 32 (w.heap.size+1) (by simp)).keep hk1 (fun e=>e)
 clear HN hrow hb r1
 refine leaves_cons (f:=180) (args:=#[.pointer (some ⟨w.heap.size,0,none⟩),.pointer (some ⟨w.heap.size+1,0,none⟩)]) (by simp) (by simp[go_sem]) ?_
 refine(catch_panicking w.heap.size (w.heap.size+1) Six.zero 0 _ b1 b2 (by omega) (by omega)).mono ?_
 rintro e u' w2 ⟨rfl,rfl,d1,d2,hk2⟩
 have z0:=d1.cell 0
 have z1:=d1.cell 1
 have z2:=d1.cell 2
 have z3:=d1.cell 3
 have z4:=d1.cell 4
 have z5:=d1.cell 5
 have z6:=d2.cell 0
 simp at z0 z1 z2 z3 z4 z5 z6
 refine⟨.tuple #[.agg (fc false 0 0 0 0 false),.int .i64 9],?_,rfl,?_⟩
 ·simp[results,Tryz.results128,go_sem,z0,z1,z2,z3,z4,z5,z6]
 ·exact((((Keep.refl nil w).alloc _).alloc _).trans hk1).trans' hk2 (fun i hi e=>by rcases e with e|e<;>omega)
end Go.Proofs.YtlfijfodklhplaaGreat
