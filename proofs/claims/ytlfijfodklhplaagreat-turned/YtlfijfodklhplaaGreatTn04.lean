import Derived.Test.YtlfijfodklhplaaGreatTn01
import Derived.Test.YtlfijfodklhplaaGreatTn03
set_option maxRecDepth 100000
set_option maxHeartbeats 1000000
set_option linter.unusedVariables false
set_option linter.unusedSimpArgs false
namespace Go.Proofs.YtlfijfodklhplaaGreat
open Go.RowKit
theorem cells_three(w:World)(x y z:Int)(a b d:Nat)(hx:x=(a:Int))(hy:y=(b:Int))(hz:z=(d:Int))(t:TypeId)(n:Nat)(hn:n=w.heap.size):
 ∀j u,([a,b,d].map bv)[j]?=some u→(w.alloc (.cells #[.int .u8 x,.int .u8 y,.int .u8 z] t)).drew.cell? ((⟨n,0,none⟩:Addr).add j)=some u:=by
 intro j u hu
 subst hx hy hz hn
 rw[Addr.add_lit,Nat.zero_add,World.cell?_drew,World.cell?_alloc_new]
 match j,hu with
 |0,hu=>simpa [bv]using hu
 |1,hu=>simpa [bv]using hu
 |2,hu=>simpa [bv]using hu
theorem appendMessage_true(g c:Nat)(l:List Nat)(nl:Nat)(hl:l.length=nl)(k lv n:Nat)(w:World)(hb:Buf w g l c)(hroom:nl+5≤c)(hk:k<256)(hlv:lv<256)(hn:n<65536):
 Calls Tryz.prog 178 #[.slice (some ⟨g,0,none⟩) nl c,.agg (mc (k:Int) (lv:Int) (n:Int) true)] w fun e w'=>
  e=.returned (.slice (some ⟨g,0,none⟩) (nl+5) c)∧Buf w' g (l++[k,lv,1]++[n / 256,n % 256]) c∧Keep (only g) w w':=by
 have hg:=hb.lt
 have HL:Hid (l.length=nl):=hl
 have e1:IntKind.u8.wrap (k:Int)=(k:Int):=by rw[IntKind.wrap_u8'];omega
 have e2:IntKind.u8.wrap (lv:Int)=(lv:Int):=by rw[IntKind.wrap_u8'];omega
 clear hl
 go_enter Tryz.func178,Tryz.ntmps178
 go_wp2
 go_region_law (first|(refine step_append_buf rfl (.tmp 8) (.tmp 16) rfl g c l nl HL.out rfl (((hb.alloc _).alloc _).drew) ⟨w.heap.size+1,0,none⟩ 3 3 rfl [k,lv,1] rfl (cells_three (w.alloc (.cells (mc (k:Int) (lv:Int) (n:Int) true) 76)) (k:Int) (lv:Int) 1 k lv 1 rfl rfl rfl 5 (w.heap.size+1) (World.size_alloc _ _).symm) (by omega) ?_;intro w1 hb1 hk1;have q2:=hk1.cell w.heap.size 2 (by simp only[World.size_alloc,World.size_drew];omega) (by simp only[only];omega))|(go_simp;refine(appendTwo_at g c (l++[k,lv,1]) (nl+3) (by simp[HL.out]) n _ hb1 (by omega) hn).mono ?_;rintro e w2 ⟨rfl,hb2,hk2⟩))
 all_goals
  go_wp2
  go_ret
  exact⟨rfl,hb2,((((Keep.refl (only g) w).alloc _).alloc _).drew.trans hk1).trans hk2⟩
theorem appendMessage_false(g c:Nat)(l:List Nat)(nl:Nat)(hl:l.length=nl)(k lv n:Nat)(w:World)(hb:Buf w g l c)(hroom:nl+5≤c)(hk:k<256)(hlv:lv<256)(hn:n<65536):
 Calls Tryz.prog 178 #[.slice (some ⟨g,0,none⟩) nl c,.agg (mc (k:Int) (lv:Int) (n:Int) false)] w fun e w'=>
  e=.returned (.slice (some ⟨g,0,none⟩) (nl+5) c)∧Buf w' g (l++[k,lv,0]++[n / 256,n % 256]) c∧Keep (only g) w w':=by
 have hg:=hb.lt
 have HL:Hid (l.length=nl):=hl
 have e1:IntKind.u8.wrap (k:Int)=(k:Int):=by rw[IntKind.wrap_u8'];omega
 have e2:IntKind.u8.wrap (lv:Int)=(lv:Int):=by rw[IntKind.wrap_u8'];omega
 clear hl
 go_enter Tryz.func178,Tryz.ntmps178
 go_wp2
 go_region_law (first|(refine step_append_buf rfl (.tmp 8) (.tmp 16) rfl g c l nl HL.out rfl (((hb.alloc _).alloc _).drew) ⟨w.heap.size+1,0,none⟩ 3 3 rfl [k,lv,0] rfl (cells_three (w.alloc (.cells (mc (k:Int) (lv:Int) (n:Int) false) 76)) (k:Int) (lv:Int) 0 k lv 0 rfl rfl rfl 5 (w.heap.size+1) (World.size_alloc _ _).symm) (by omega) ?_;intro w1 hb1 hk1;have q2:=hk1.cell w.heap.size 2 (by simp only[World.size_alloc,World.size_drew];omega) (by simp only[only];omega))|(go_simp;refine(appendTwo_at g c (l++[k,lv,0]) (nl+3) (by simp[HL.out]) n _ hb1 (by omega) hn).mono ?_;rintro e w2 ⟨rfl,hb2,hk2⟩))
 all_goals
  go_wp2
  go_ret
  exact⟨rfl,hb2,((((Keep.refl (only g) w).alloc _).alloc _).drew.trans hk1).trans hk2⟩
theorem appendMessage_any(g c:Nat)(l:List Nat)(nl:Nat)(hl:l.length=nl)(k lv n:Nat)(f:Bool)(w:World)(hb:Buf w g l c)(hroom:nl+5≤c)(hk:k<256)(hlv:lv<256)(hn:n<65536):
 Calls Tryz.prog 178 #[.slice (some ⟨g,0,none⟩) nl c,.agg (mc (k:Int) (lv:Int) (n:Int) f)] w fun e w'=>
  e=.returned (.slice (some ⟨g,0,none⟩) (nl+5) c)∧Buf w' g (l++[k,lv,f.toNat]++[n / 256,n % 256]) c∧Keep (only g) w w':=by
 cases f
 ·exact appendMessage_false g c l nl hl k lv n w hb hroom hk hlv hn
 ·exact appendMessage_true g c l nl hl k lv n w hb hroom hk hlv hn
end Go.Proofs.YtlfijfodklhplaaGreat
