import Derived.Test.YtlfijfodklhplaaGreatSf02
import Derived.Test.YtlfijfodklhplaaGreatSf01
set_option linter.unusedVariables false
set_option linter.unusedSimpArgs false
namespace Go.Proofs.YtlfijfodklhplaaGreat
open Go.RowKit
set_option maxHeartbeats 400000 in
theorem two_yes (rb bb bo cap:Nat) (l:List Nat) (k:Nat) (w:World) (hr:Rd w rb bb bo cap l k) (hk:k + 1 < l.length) :
    Calls Tryz.prog 211 #[.pointer (some ⟨rb,0,none⟩)] w fun e w'=>e=.returned (.int .i64 ((l[k] * 256 + l[k + 1]:Nat):Int))∧Rd w' rb bb bo cap l (k + 2)∧Keep (only rb) w w':=by
  have hx:=hr.byte _ (List.getElem_mem (show k < l.length by omega))
  have hy:=hr.byte _ (List.getElem_mem hk)
  go_enter Tryz.func211,Tryz.ntmps211
  go_wp2_with fail
  refine (one_yes rb bb bo cap l k _ hr (by omega)).mono ?_
  rintro e w1 ⟨rfl,hr1,hk1⟩
  go_wp2_with fail
  refine (one_yes rb bb bo cap l (k + 1) _ hr1 hk).mono ?_
  rintro e w2 ⟨rfl,hr2,hk2⟩
  go_wp2
  go_ret
  exact ⟨ret_int (Fr.or_bytes _ _ hx hy),hr2,hk1.trans hk2⟩
set_option maxHeartbeats 400000 in
theorem two_no (rb bb bo cap:Nat) (l:List Nat) (k:Nat) (w:World) (hr:Rd w rb bb bo cap l k) (hk:l.length≤k + 1) :
    Calls Tryz.prog 211 #[.pointer (some ⟨rb,0,none⟩)] w fun e w'=>e=.panicked noFrame∧Keep (only rb) w w':=by
  by_cases h:k < l.length
  · go_enter Tryz.func211,Tryz.ntmps211
    go_wp2_with fail
    refine (one_yes rb bb bo cap l k _ hr h).mono ?_
    rintro e w1 ⟨rfl,hr1,hk1⟩
    go_wp2_with fail
    refine (one_no rb bb bo cap l (k + 1) _ hr1 hk).mono ?_
    rintro e w2 ⟨rfl,hk2⟩
    exact ⟨rfl,rfl,hk1.trans hk2⟩
  · go_enter Tryz.func211,Tryz.ntmps211
    go_wp2_with fail
    refine (one_no rb bb bo cap l k _ hr (by omega)).mono ?_
    rintro e w1 ⟨rfl,hk1⟩
    exact ⟨rfl,rfl,hk1⟩
set_option maxHeartbeats 400000 in
theorem flag_yes (rb bb bo cap:Nat) (l:List Nat) (k:Nat) (w:World) (hr:Rd w rb bb bo cap l k) (hk:k < l.length) (h1:l[k]≤1) :
    Calls Tryz.prog 227 #[.pointer (some ⟨rb,0,none⟩)] w fun e w'=>e=.returned (.bool (l[k] == 1))∧Rd w' rb bb bo cap l (k + 1)∧Keep (only rb) w w':=by
  go_enter Tryz.func227,Tryz.ntmps227
  go_wp2_with fail
  refine (one_yes rb bb bo cap l k _ hr hk).mono ?_
  rintro e w1 ⟨rfl,hr1,hk1⟩
  have hd:decide ((l[k]:Int)≤1)=true:=by simp; omega
  go_wp2_with fail
  refine (must_yes _).mono ?_
  rintro e w2 ⟨rfl,rfl⟩
  go_wp2
  go_ret
  exact ⟨ret_bool (by rw [Bool.eq_iff_iff,beq_iff_eq,beq_iff_eq]; omega),hr1,hk1⟩
set_option maxHeartbeats 400000 in
theorem flag_no (rb bb bo cap:Nat) (l:List Nat) (k:Nat) (w:World) (hr:Rd w rb bb bo cap l k) (hk:∀ h:k < l.length,¬ l[k]≤1) :
    Calls Tryz.prog 227 #[.pointer (some ⟨rb,0,none⟩)] w fun e w'=>e=.panicked noFrame∧Keep (only rb) w w':=by
  by_cases h:k < l.length
  · have hx:=hk h
    clear hk
    go_enter Tryz.func227,Tryz.ntmps227
    go_wp2_with fail
    refine (one_yes rb bb bo cap l k _ hr h).mono ?_
    rintro e w1 ⟨rfl,hr1,hk1⟩
    generalize l[k]=x at *
    have hd:decide ((x:Int)≤1)=false:=by simp; omega
    go_wp2_with fail
    refine (must_no _).mono ?_
    rintro e w2 ⟨rfl,rfl⟩
    exact ⟨rfl,rfl,hk1⟩
  · clear hk
    go_enter Tryz.func227,Tryz.ntmps227
    go_wp2_with fail
    refine (one_no rb bb bo cap l k _ hr (by omega)).mono ?_
    rintro e w1 ⟨rfl,hk1⟩
    exact ⟨rfl,rfl,hk1⟩
theorem one_at (rb bb bo cap:Nat) (l:List Nat) (k:Nat) (w:World) (hr:Rd w rb bb bo cap l k) (x:Nat) (hx:l[k]?=some x) :
    Calls Tryz.prog 225 #[.pointer (some ⟨rb,0,none⟩)] w fun e w'=>e=.returned (.int .i64 (x:Int))∧Rd w' rb bb bo cap l (k + 1)∧Keep (only rb) w w':=by
  obtain ⟨h,e⟩:=List.getElem?_eq_some_iff.1 hx
  subst e
  exact one_yes rb bb bo cap l k w hr h
theorem two_at (rb bb bo cap:Nat) (l:List Nat) (k:Nat) (w:World) (hr:Rd w rb bb bo cap l k) (x y:Nat) (hx:l[k]?=some x) (hy:l[k + 1]?=some y) :
    Calls Tryz.prog 211 #[.pointer (some ⟨rb,0,none⟩)] w fun e w'=>e=.returned (.int .i64 ((x:Int) * 256 + (y:Int)))∧Rd w' rb bb bo cap l (k + 2)∧Keep (only rb) w w':=by
  obtain ⟨h,e⟩:=List.getElem?_eq_some_iff.1 hx
  obtain ⟨h',e'⟩:=List.getElem?_eq_some_iff.1 hy
  subst e e'
  have:=two_yes rb bb bo cap l k w hr h'
  have c:((l[k] * 256 + l[k + 1]:Nat):Int)=(l[k]:Int) * 256 + (l[k + 1]:Int):=by omega
  rw [c] at this
  exact this
theorem flag_at (rb bb bo cap:Nat) (l:List Nat) (k:Nat) (w:World) (hr:Rd w rb bb bo cap l k) (x:Nat) (hx:l[k]?=some x) (h1:x≤1) :
    Calls Tryz.prog 227 #[.pointer (some ⟨rb,0,none⟩)] w fun e w'=>e=.returned (.bool (x == 1))∧Rd w' rb bb bo cap l (k + 1)∧Keep (only rb) w w':=by
  obtain ⟨h,e⟩:=List.getElem?_eq_some_iff.1 hx
  subst e
  exact flag_yes rb bb bo cap l k w hr h h1
def bL (k:Int):Int:=if k=1∨k=2∨k=3 then 9 else 0
def bm (k:Int):Int:=if k=2 then 1 else 0
def bM (k:Int):Int:=if k=2∨k=3∨k=6 then 1000 else 0
def bF (k:Int):Bool:=decide (k=2)
def bK (k:Int):Bool:=decide (1≤k∧k≤7)
def may (k l n:Int) (f:Bool):Bool:=decide ((1≤k∧k≤7)∧0≤l∧l≤bL k∧bm k≤n∧n≤bM k∧(f=true→k=2))
set_option maxHeartbeats 1000000 in
theorem boundsOf_any (k:Int) (w:World) :
    Calls Tryz.prog 192 #[.int .i64 k] w fun e w'=>e=.returned (.tuple #[.agg #[.int .i64 (bL k),.int .i64 (bm k),.int .i64 (bM k),.bool (bF k)],.bool (bK k)])∧Keep nil w w':=by
  by_cases h:1≤k∧k≤7
  · have hk:k=1∨k=2∨k=3∨k=4∨k=5∨k=6∨k=7:=by omega
    rcases hk with rfl | rfl | rfl | rfl | rfl | rfl | rfl
    all_goals
      go_enter Tryz.func192,Tryz.ntmps192
      go_wp2
      refine bodyPost_ret (v:=.tuple #[.agg #[.int .i64 _,.int .i64 _,.int .i64 _,.bool _],.bool true]) (by simp [results,Tryz.results192,go_sem,bL,bm,bM,bF]) rfl ⟨rfl,(Keep.refl _ _).alloc _⟩
  · have h1:(k == 1)=false:=beq_eq_false_iff_ne.2 (by omega)
    have h2:(k == 2)=false:=beq_eq_false_iff_ne.2 (by omega)
    have h3:(k == 3)=false:=beq_eq_false_iff_ne.2 (by omega)
    have h4:(k == 4)=false:=beq_eq_false_iff_ne.2 (by omega)
    have h5:(k == 5)=false:=beq_eq_false_iff_ne.2 (by omega)
    have h6:(k == 6)=false:=beq_eq_false_iff_ne.2 (by omega)
    have h7:(k == 7)=false:=beq_eq_false_iff_ne.2 (by omega)
    have e1:bL k=0:=by unfold bL; rw [if_neg (by omega)]
    have e2:bm k=0:=by unfold bm; rw [if_neg (by omega)]
    have e3:bM k=0:=by unfold bM; rw [if_neg (by omega)]
    have e4:bF k=false:=by simp [bF]; omega
    have e5:bK k=false:=by simp [bK]; omega
    rw [e1,e2,e3,e4,e5]
    clear e1 e2 e3 e4 e5 h
    go_enter Tryz.func192,Tryz.ntmps192
    go_wp2
    refine bodyPost_ret (v:=.tuple #[.agg #[.int .i64 0,.int .i64 0,.int .i64 0,.bool false],.bool false]) (by simp [results,Tryz.results192,go_sem]) rfl ⟨rfl,(Keep.refl _ _).alloc _⟩
theorem may_yes {k l n:Int} {f:Bool} (h1:bK k=true) (h2:0≤l) (h3:l≤bL k) (h4:bm k≤n) (h5:n≤bM k) (h6:f=true→bF k=true):may k l n f=true:=by
  simp only [bK,bF,decide_eq_true_eq] at h1 h6
  simp only [may,decide_eq_true_eq]
  exact ⟨h1,h2,h3,h4,h5,h6⟩
theorem may_no {k l n:Int} {f:Bool} (h:¬ (bK k=true∧0≤l∧l≤bL k∧bm k≤n∧n≤bM k∧(f=true→bF k=true))):may k l n f=false:=by
  simp only [bK,bF,decide_eq_true_eq] at h
  simp only [may,decide_eq_false_iff_not]
  exact h
theorem may_ways (k l n:Int) (f:Bool) :
    (bK k=false∧Hid (may k l n f=false))∨(bK k=true∧l < 0∧Hid (may k l n f=false))∨(bK k=true∧0≤l∧bL k < l∧Hid (may k l n f=false)) ∨
    (bK k=true∧0≤l∧l≤bL k∧n < bm k∧Hid (may k l n f=false))∨(bK k=true∧0≤l∧l≤bL k∧bm k≤n∧bM k < n∧Hid (may k l n f=false)) ∨
    (bK k=true∧0≤l∧l≤bL k∧bm k≤n∧n≤bM k∧bF k=true∧Hid (may k l n f=true)) ∨
    (bK k=true∧0≤l∧l≤bL k∧bm k≤n∧n≤bM k∧bF k=false∧f=false∧Hid (may k l n f=true)) ∨
    (bK k=true∧0≤l∧l≤bL k∧bm k≤n∧n≤bM k∧bF k=false∧f=true∧Hid (may k l n f=false)):=by
  by_cases g1:bK k=true
  · by_cases g2:0≤l
    · by_cases g3:l≤bL k
      · by_cases g4:bm k≤n
        · by_cases g5:n≤bM k
          · by_cases g6:bF k=true
            · exact Or.inr (Or.inr (Or.inr (Or.inr (Or.inr (Or.inl ⟨g1,g2,g3,g4,g5,g6,may_yes g1 g2 g3 g4 g5 (fun _=>g6)⟩)))))
            · by_cases g7:f=true
              · exact Or.inr (Or.inr (Or.inr (Or.inr (Or.inr (Or.inr (Or.inr ⟨g1,g2,g3,g4,g5,by simpa using g6,g7,may_no (fun h=>g6 (h.2.2.2.2.2 g7))⟩))))))
              · exact Or.inr (Or.inr (Or.inr (Or.inr (Or.inr (Or.inr (Or.inl ⟨g1,g2,g3,g4,g5,by simpa using g6,by simpa using g7,may_yes g1 g2 g3 g4 g5 (fun e=>absurd e g7)⟩))))))
          · exact Or.inr (Or.inr (Or.inr (Or.inr (Or.inl ⟨g1,g2,g3,g4,by omega,may_no (fun h=>g5 h.2.2.2.2.1)⟩))))
        · exact Or.inr (Or.inr (Or.inr (Or.inl ⟨g1,g2,g3,by omega,may_no (fun h=>g4 h.2.2.2.1)⟩)))
      · exact Or.inr (Or.inr (Or.inl ⟨g1,g2,by omega,may_no (fun h=>g3 h.2.2.1)⟩))
    · exact Or.inr (Or.inl ⟨g1,by omega,may_no (fun h=>g2 h.2.1)⟩)
  · exact Or.inl ⟨by simpa using g1,may_no (fun h=>g1 h.1)⟩
set_option maxHeartbeats 1000000 in
theorem mayBe_any (k l n:Int) (f:Bool) (w:World) :
    Calls Tryz.prog 161 #[.agg #[.int .i64 k,.int .i64 l,.int .i64 n,.bool f]] w fun e w'=>e=.returned (.bool (may k l n f))∧Keep nil w w':=by
  go_enter Tryz.func161,Tryz.ntmps161
  go_wp2_with fail
  refine (boundsOf_any k _).mono ?_
  rintro e w1 ⟨rfl,hk1⟩
  have hs:w.heap.size < w1.heap.size:=by have:=hk1.size; simp at this; omega
  have c0:=fun i=>hk1.cell w.heap.size i (by simp) (fun e=>e)
  simp only [World.cell?_alloc_new] at c0
  rcases may_ways k l n f with ⟨g1,HM⟩ | ⟨g1,g2,HM⟩ | ⟨g1,g2,g3,HM⟩ | ⟨g1,g2,g3,g4,HM⟩ | ⟨g1,g2,g3,g4,g5,HM⟩ | ⟨g1,g2,g3,g4,g5,g6,HM⟩ | ⟨g1,g2,g3,g4,g5,g6,g7,HM⟩ | ⟨g1,g2,g3,g4,g5,g6,g7,HM⟩
  all_goals
    go_wp2
    go_ret
    exact ⟨ret_bool HM.out.symm,(((Keep.refl _ _).alloc _).trans hk1).alloc _⟩
abbrev mc (k l n:Int) (f:Bool):Array Value:=#[.int .i64 k,.int .i64 l,.int .i64 n,.bool f]
structure MS (w0 w : World) (rb bb bo cap : Nat) (l : List Nat) (k : Nat) (c : Array Value) : Prop where
  rd:Rd w rb bb bo cap l k
  m:Blk w (w0.heap.size + 1) c 76
  r:Blk w w0.heap.size (mc 0 0 0 false) 76
  keep:Keep (only rb) w0 w
  rbl:rb < w0.heap.size
  bbl:bb < w0.heap.size
theorem MS.call {w0 w w1:World} {rb bb bo cap:Nat} {l:List Nat} {k k':Nat} {c:Array Value} (s:MS w0 w rb bb bo cap l k c) (hr:Rd w1 rb bb bo cap l k') (hk:Keep (only rb) w w1):MS w0 w1 rb bb bo cap l k' c:=by
  have h1:=s.rbl
  exact ⟨hr,s.m.keep hk (by simp only [only]; omega),s.r.keep hk (by simp only [only]; omega),s.keep.trans hk,s.rbl,s.bbl⟩
theorem MS.store {w0 w:World} {rb bb bo cap:Nat} {l:List Nat} {k:Nat} {c:Array Value} (s:MS w0 w rb bb bo cap l k c) (i:Nat) (v:Value):MS w0 (w.setCell ⟨w0.heap.size + 1,i,none⟩ v) rb bb bo cap l k (c.setIfInBounds i v):=by
  have h1:=s.rbl
  have h2:=s.bbl
  have hk:Keep (only (w0.heap.size + 1)) w (w.setCell ⟨w0.heap.size + 1,i,none⟩ v):=(Keep.refl (only (w0.heap.size + 1)) w).setCell (p:=⟨w0.heap.size + 1,i,none⟩) (fun _=>rfl) v
  exact ⟨s.rd.setCell _ _ (by simp; omega) (by simp; omega),s.m.set i v,s.r.keep hk (by simp only [only]; omega),s.keep.setCell (p:=⟨w0.heap.size + 1,i,none⟩) (fun h=>by simp at h; omega) v,s.rbl,s.bbl⟩
theorem MS.start {w:World} {rb bb bo cap:Nat} {l:List Nat} {k:Nat} (hr:Rd w rb bb bo cap l k):MS w ((w.alloc (.cells (mc 0 0 0 false) 76)).alloc (.cells (mc 0 0 0 false) 76)) rb bb bo cap l k (mc 0 0 0 false) :=
  ⟨(hr.alloc _).alloc _,Blk.new' _ _ _ _ (by simp),(Blk.new _ _ _).old _,((Keep.refl _ _).alloc _).alloc _,hr.lt,hr.bb⟩
theorem MS.res {w0 w:World} {rb bb bo cap:Nat} {l:List Nat} {k:Nat} {c:Array Value} (s:MS w0 w rb bb bo cap l k c) (a b n:Int) (f:Bool) :
    Rd ((((w.setCell ⟨w0.heap.size,0,none⟩ (.int .i64 a)).setCell ⟨w0.heap.size,1,none⟩ (.int .i64 b)).setCell ⟨w0.heap.size,2,none⟩ (.int .i64 n)).setCell ⟨w0.heap.size,3,none⟩ (.bool f)) rb bb bo cap l k ∧
    Keep (only rb) w0 ((((w.setCell ⟨w0.heap.size,0,none⟩ (.int .i64 a)).setCell ⟨w0.heap.size,1,none⟩ (.int .i64 b)).setCell ⟨w0.heap.size,2,none⟩ (.int .i64 n)).setCell ⟨w0.heap.size,3,none⟩ (.bool f)) ∧
    Blk ((((w.setCell ⟨w0.heap.size,0,none⟩ (.int .i64 a)).setCell ⟨w0.heap.size,1,none⟩ (.int .i64 b)).setCell ⟨w0.heap.size,2,none⟩ (.int .i64 n)).setCell ⟨w0.heap.size,3,none⟩ (.bool f)) w0.heap.size (mc a b n f) 76:=by
  have h1:=s.rbl
  have h2:=s.bbl
  refine ⟨?_,?_,(((s.r.set 0 (.int .i64 a)).set 1 (.int .i64 b)).set 2 (.int .i64 n)).set 3 (.bool f)⟩
  · exact (((s.rd.setCell _ _ (by simp; omega) (by simp; omega)).setCell _ _ (by simp; omega) (by simp; omega)).setCell _ _ (by simp; omega) (by simp; omega)).setCell _ _ (by simp; omega) (by simp; omega)
  · exact (((s.keep.setCell (fun h=>by simp at h) _).setCell (fun h=>by simp at h) _).setCell (fun h=>by simp at h) _).setCell (fun h=>by simp at h) _
set_option maxHeartbeats 1000000 in
theorem message_yes (rb bb bo cap : Nat) (l : List Nat) (k : Nat) (w : World) (hr : Rd w rb bb bo cap l k) (x1 x2 x3 x4 x5 : Nat) (h1 : l[k]? = some x1) (h2 : l[k + 1]? = some x2) (h3 : l[k + 2]? = some x3) (h4 : l[k + 3]? = some x4) (h5 : l[k + 4]? = some x5)
    (hf:x3≤1) (hm:may (x1:Int) (x2:Int) ((x4:Int) * 256 + (x5:Int)) (x3 == 1)=true) :
    Calls Tryz.prog 226 #[.pointer (some ⟨rb,0,none⟩)] w fun e w' =>
      e=.returned (.agg (mc (x1:Int) (x2:Int) ((x4:Int) * 256 + (x5:Int)) (x3 == 1)))∧Rd w' rb bb bo cap l (k + 5)∧Keep (only rb) w w':=by
  have s0:=MS.start hr
  clear hr
  go_enter Tryz.func226,Tryz.ntmps226
  go_wp2_with fail
  refine (one_at rb bb bo cap l k _ s0.rd x1 h1).mono ?_
  rintro e w1 ⟨rfl,hr1,hk1⟩
  have s1:=s0.call hr1 hk1
  have q1:=s1.m.cell 0
  have q2:=s1.m.frozen 0
  simp at q1
  go_wp2_with fail
  have s1':MS w _ rb bb bo cap l (k + 1) (mc (x1:Int) 0 0 false):=s1.store 0 (.int .i64 (x1:Int))
  refine (one_at rb bb bo cap l (k + 1) _ s1'.rd x2 h2).mono ?_
  rintro e w2 ⟨rfl,hr2,hk2⟩
  have s2:=s1'.call hr2 hk2
  clear q1 q2 s0 s1 s1' hr1 hk1 hr2 hk2
  have q1:=s2.m.cell 1
  have q2:=s2.m.frozen 1
  simp at q1
  go_wp2_with fail
  have s2':MS w _ rb bb bo cap l (k + 2) (mc (x1:Int) (x2:Int) 0 false):=s2.store 1 (.int .i64 (x2:Int))
  refine (flag_at rb bb bo cap l (k + 2) _ s2'.rd x3 h3 hf).mono ?_
  rintro e w3 ⟨rfl,hr3,hk3⟩
  have s3:=s2'.call hr3 hk3
  clear q1 q2 s2 s2' hr3 hk3
  have q1:=s3.m.cell 3
  have q2:=s3.m.frozen 3
  simp at q1
  go_wp2_with fail
  have s3':MS w _ rb bb bo cap l (k + 3) (mc (x1:Int) (x2:Int) 0 (x3 == 1)):=s3.store 3 (.bool (x3 == 1))
  refine (two_at rb bb bo cap l (k + 3) _ s3'.rd x4 x5 h4 h5).mono ?_
  rintro e w4 ⟨rfl,hr4,hk4⟩
  have s4:=s3'.call hr4 hk4
  clear q1 q2 s3 s3' hr4 hk4
  have q0:=s4.m.cell 0
  have q1:=s4.m.cell 1
  have q2:=s4.m.cell 2
  have q3:=s4.m.cell 3
  have q4:=s4.m.frozen 2
  simp at q0 q1 q2 q3
  go_wp2_with fail
  have s5:MS w (w4.setCell ⟨w.heap.size + 1,2,none⟩ (.int .i64 ((x4:Int) * 256 + (x5:Int)))) rb bb bo cap l (k + 5) (mc (x1:Int) (x2:Int) ((x4:Int) * 256 + (x5:Int)) (x3 == 1)):=s4.store 2 _
  refine (mayBe_any _ _ _ _ _).mono ?_
  rintro e w6 ⟨rfl,hk6⟩
  have s6:=s5.call (s5.rd.keep hk6 (fun e=>e) (fun e=>e)) (hk6.mono (fun _ _ e=>e.elim))
  clear q0 q1 q2 q3 q4 s4 s5 hk6
  have q0:=s6.m.cell 0
  have q1:=s6.m.cell 1
  have q2:=s6.m.cell 2
  have q3:=s6.m.cell 3
  have q4:=fun i=>s6.r.frozen i
  have r0:=s6.r.cell 0
  have r1:=s6.r.cell 1
  have r2:=s6.r.cell 2
  have r3:=s6.r.cell 3
  simp at q0 q1 q2 q3 r0 r1 r2 r3
  go_wp2_with fail
  refine (must_yes _).mono ?_
  rintro e w7 ⟨rfl,rfl⟩
  go_wp2
  obtain ⟨t1,t2,t3⟩:=s6.res (x1:Int) (x2:Int) ((x4:Int) * 256 + (x5:Int)) (x3 == 1)
  have z0:=t3.cell 0
  have z1:=t3.cell 1
  have z2:=t3.cell 2
  have z3:=t3.cell 3
  simp at z0 z1 z2 z3
  exact bodyPost_ret (v:=.agg (mc (x1:Int) (x2:Int) ((x4:Int) * 256 + (x5:Int)) (x3 == 1))) (by simp [results,Tryz.results226,go_sem,z0,z1,z2,z3]) rfl ⟨rfl,t1,t2⟩
def MsgOk (l:List Nat) (k:Nat):Prop:=∃ x1 x2 x3 x4 x5:Nat,l[k]?=some x1∧l[k + 1]?=some x2∧l[k + 2]?=some x3∧l[k + 3]?=some x4∧l[k + 4]?=some x5∧x3≤1∧may (x1:Int) (x2:Int) ((x4:Int) * 256 + (x5:Int)) (x3 == 1)=true
theorem at_some (l:List Nat) (k:Nat) (h:k < l.length):∃ x,l[k]?=some x:=⟨l[k],List.getElem?_eq_getElem h⟩
set_option maxHeartbeats 1000000 in
theorem message_no (rb bb bo cap:Nat) (l:List Nat) (k:Nat) (w:World) (hr:Rd w rb bb bo cap l k) (hno:¬ MsgOk l k) :
    Calls Tryz.prog 226 #[.pointer (some ⟨rb,0,none⟩)] w fun e w'=>e=.panicked noFrame∧Keep (only rb) w w':=by
  have s0:=MS.start hr
  clear hr
  go_enter Tryz.func226,Tryz.ntmps226
  go_wp2_with fail
  by_cases g1:l.length≤k
  · refine (one_no rb bb bo cap l k _ s0.rd g1).mono ?_
    rintro e w1 ⟨rfl,hk1⟩
    exact ⟨rfl,rfl,s0.keep.trans hk1⟩
  obtain ⟨x1,h1⟩:=at_some l k (by omega)
  clear g1
  refine (one_at rb bb bo cap l k _ s0.rd x1 h1).mono ?_
  rintro e w1 ⟨rfl,hr1,hk1⟩
  have s1:=s0.call hr1 hk1
  have q1:=s1.m.cell 0
  have q2:=s1.m.frozen 0
  simp at q1
  go_wp2_with fail
  have s1':MS w _ rb bb bo cap l (k + 1) (mc (x1:Int) 0 0 false):=s1.store 0 (.int .i64 (x1:Int))
  by_cases g1:l.length≤k + 1
  · refine (one_no rb bb bo cap l (k + 1) _ s1'.rd g1).mono ?_
    rintro e w2 ⟨rfl,hk2⟩
    exact ⟨rfl,rfl,s1'.keep.trans hk2⟩
  obtain ⟨x2,h2⟩:=at_some l (k + 1) (by omega)
  clear g1
  refine (one_at rb bb bo cap l (k + 1) _ s1'.rd x2 h2).mono ?_
  rintro e w2 ⟨rfl,hr2,hk2⟩
  have s2:=s1'.call hr2 hk2
  clear q1 q2 s0 s1 s1' hr1 hk1 hr2 hk2
  have q1:=s2.m.cell 1
  have q2:=s2.m.frozen 1
  simp at q1
  go_wp2_with fail
  have s2':MS w _ rb bb bo cap l (k + 2) (mc (x1:Int) (x2:Int) 0 false):=s2.store 1 (.int .i64 (x2:Int))
  by_cases g1:∃ h:k + 2 < l.length,l[k + 2]≤1
  · obtain ⟨g1,hf⟩:=g1
    obtain ⟨x3,h3⟩:=at_some l (k + 2) g1
    replace hf:x3≤1:=by rw [List.getElem?_eq_getElem g1] at h3; cases h3; exact hf
    clear g1
    refine (flag_at rb bb bo cap l (k + 2) _ s2'.rd x3 h3 hf).mono ?_
    rintro e w3 ⟨rfl,hr3,hk3⟩
    have s3:=s2'.call hr3 hk3
    clear q1 q2 s2 s2' hr3 hk3
    have q1:=s3.m.cell 3
    have q2:=s3.m.frozen 3
    simp at q1
    go_wp2_with fail
    have s3':MS w _ rb bb bo cap l (k + 3) (mc (x1:Int) (x2:Int) 0 (x3 == 1)):=s3.store 3 (.bool (x3 == 1))
    by_cases g1:l.length≤k + 3 + 1
    · refine (two_no rb bb bo cap l (k + 3) _ s3'.rd g1).mono ?_
      rintro e w4 ⟨rfl,hk4⟩
      exact ⟨rfl,rfl,s3'.keep.trans hk4⟩
    obtain ⟨x4,h4⟩:=at_some l (k + 3) (by omega)
    obtain ⟨x5,h5⟩:=at_some l (k + 4) (by omega)
    clear g1
    refine (two_at rb bb bo cap l (k + 3) _ s3'.rd x4 x5 h4 h5).mono ?_
    rintro e w4 ⟨rfl,hr4,hk4⟩
    have s4:=s3'.call hr4 hk4
    clear q1 q2 s3 s3' hr4 hk4
    have hm:may (x1:Int) (x2:Int) ((x4:Int) * 256 + (x5:Int)) (x3 == 1)=false:=by
      cases h:may (x1:Int) (x2:Int) ((x4:Int) * 256 + (x5:Int)) (x3 == 1) with
      | false=>rfl
      | true=>exact absurd ⟨x1,x2,x3,x4,x5,h1,h2,h3,h4,h5,hf,h⟩ hno
    have q0:=s4.m.cell 0
    have q1:=s4.m.cell 1
    have q2:=s4.m.cell 2
    have q3:=s4.m.cell 3
    have q4:=s4.m.frozen 2
    simp at q0 q1 q2 q3
    go_wp2_with fail
    have s5:MS w (w4.setCell ⟨w.heap.size + 1,2,none⟩ (.int .i64 ((x4:Int) * 256 + (x5:Int)))) rb bb bo cap l (k + 5) (mc (x1:Int) (x2:Int) ((x4:Int) * 256 + (x5:Int)) (x3 == 1)):=s4.store 2 _
    refine (mayBe_any _ _ _ _ _).mono ?_
    rintro e w6 ⟨rfl,hk6⟩
    have s6:=s5.keep.trans (hk6.mono (fun _ _ e=>e.elim))
    clear q0 q1 q2 q3 q4 s4 s5 hk6
    go_wp2_with fail
    refine (must_no _).mono ?_
    rintro e w7 ⟨rfl,rfl⟩
    exact ⟨rfl,rfl,s6⟩
  · refine (flag_no rb bb bo cap l (k + 2) _ s2'.rd (fun h hx=>g1 ⟨h,hx⟩)).mono ?_
    rintro e w3 ⟨rfl,hk3⟩
    exact ⟨rfl,rfl,s2'.keep.trans hk3⟩
end Go.Proofs.YtlfijfodklhplaaGreat
