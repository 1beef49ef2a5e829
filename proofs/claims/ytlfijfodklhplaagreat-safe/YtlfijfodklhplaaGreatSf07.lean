import Derived.Test.YtlfijfodklhplaaGreatSf06
import Derived.Test.YtlfijfodklhplaaGreatSf02
set_option linter.unusedVariables false
set_option linter.unusedSimpArgs false
namespace Go.Proofs.YtlfijfodklhplaaGreat
open Go.RowKit
theorem read_ok (bb bo cap:Nat) (l:List Nat) (w:World) (hrow:Row w bb bo l) (hbb:bb < w.heap.size) (hcap:l.length≤cap) (hlen:l.length < 140737488355328) (hb:∀ x ∈ l,x < 256) (x:Six) (hx:ReadOk l x) :
    Calls Tryz.prog 181 #[.slice (some ⟨bb,bo,none⟩) l.length cap] w fun e w'=>e=.returned (.agg (fc x.d x.s x.k x.l x.n x.f))∧Keep nil w w':=by
  obtain ⟨k,c1,c2,hx,h1,h2,hc,hl⟩:=hx
  exact read_yes bb bo cap l w hrow hbb hcap hlen hb k x hx c1 c2 h1 h2 hc hl
set_option maxHeartbeats 1000000 in
theorem decode_yes (bb bo cap:Nat) (l:List Nat) (w:World) (hrow:Row w bb bo l) (hbb:bb < w.heap.size) (hcap:l.length≤cap) (hlen:l.length < 140737488355328) (hb:∀ x ∈ l,x < 256) (x:Six) (hx:ReadOk l x) :
    Calls Tryz.prog 128 #[.slice (some ⟨bb,bo,none⟩) l.length cap] w fun e w'=>e=.returned (.tuple #[.agg (fc x.d x.s x.k x.l x.n x.f),.int .i64 0])∧Keep nil w w':=by
  have hmf:∀ (fn:Fn) (first cap:Array Value) (w:World),(Instr.makeFunc fn first cap).run Tryz.prog w=.ok (.func fn first cap) w:=fun _ _ _ _=>rfl
  go_enter_defers Tryz.func128,Tryz.ntmps128
  go_wp2_with fail
  have r1:=(hrow.keep ((Keep.refl nil w).alloc (.cells (fc false 0 0 0 0 false) 78)) hbb (fun e=>e)).keep ((Keep.refl nil _).alloc (.cells #[.int .i64 0] 32)) (by simp; omega) (fun e=>e)
  refine (read_ok bb bo cap l _ r1 (by simp; omega) hcap hlen hb x hx).mono ?_
  rintro e w1 ⟨rfl,hk1⟩
  have b1:=((Blk.new w (fc false 0 0 0 0 false) 78).old (.cells #[.int .i64 0] 32)).keep hk1 (fun e=>e)
  have b2:=(Blk.new' (w.alloc (.cells (fc false 0 0 0 0 false) 78)) #[.int .i64 0] 32 (w.heap.size + 1) (by simp)).keep hk1 (fun e=>e)
  have q0:=b1.cell 0
  have q1:=b1.cell 1
  have q2:=b1.cell 2
  have q3:=b1.cell 3
  have q4:=b1.cell 4
  have q5:=b1.cell 5
  have q6:=fun i=>b1.frozen i
  have q7:=b2.cell 0
  have q8:=fun i=>b2.frozen i
  simp at q0 q1 q2 q3 q4 q5 q7
  clear hx hrow hb r1
  go_wp2
  have k1:Keep (only w.heap.size) w1 (put6 w1 w.heap.size x.d x.s x.k x.l x.n x.f):=(Keep.refl (only w.heap.size) w1).put6 w.heap.size (fun _=>rfl) x.d x.s x.k x.l x.n x.f
  have k2:Keep (only (w.heap.size + 1)) (put6 w1 w.heap.size x.d x.s x.k x.l x.n x.f) ((put6 w1 w.heap.size x.d x.s x.k x.l x.n x.f).setCell ⟨w.heap.size + 1,0,none⟩ (.int .i64 0)):=(Keep.refl (only (w.heap.size + 1)) _).setCell (p:=⟨w.heap.size + 1,0,none⟩) (fun _=>rfl) _
  have d1:=(b1.put6 x.d x.s x.k x.l x.n x.f).keep k2 (by simp only [only]; omega)
  have d2:Blk _ (w.heap.size + 1) #[.int .i64 0] 32:=(b2.keep k1 (by simp only [only]; omega)).set 0 (.int .i64 0)
  have kk:Keep nil w ((put6 w1 w.heap.size x.d x.s x.k x.l x.n x.f).setCell ⟨w.heap.size + 1,0,none⟩ (.int .i64 0)) :=
    (((((Keep.refl nil w).alloc _).alloc _).trans hk1).put6 w.heap.size (fun h=>by omega) x.d x.s x.k x.l x.n x.f).setCell (p:=⟨w.heap.size + 1,0,none⟩) (fun h=>by simp only at h; omega) _
  have z0:=d1.cell 0
  have z1:=d1.cell 1
  have z2:=d1.cell 2
  have z3:=d1.cell 3
  have z4:=d1.cell 4
  have z5:=d1.cell 5
  have z6:=d2.cell 0
  simp only [List.getElem?_toArray] at z0 z1 z2 z3 z4 z5 z6
  clear q0 q1 q2 q3 q4 q5 q6 q7 q8 k1 k2 d1 d2 b1 b2 hk1
  refine leaves_cons (f:=180) (args:=#[.pointer (some ⟨w.heap.size,0,none⟩),.pointer (some ⟨w.heap.size + 1,0,none⟩)]) (by simp) (by simp [go_sem]) ?_
  refine (catch_idle _ _ _).mono ?_
  rintro e u' w'' ⟨rfl,rfl,rfl⟩
  refine ⟨.tuple #[.agg (fc x.d x.s x.k x.l x.n x.f),.int .i64 0],?_,rfl,kk⟩
  simp [results,Tryz.results128,go_sem,z0,z1,z2,z3,z4,z5,z6]
set_option maxHeartbeats 1000000 in
theorem decode_no (bb bo cap:Nat) (l:List Nat) (w:World) (hrow:Row w bb bo l) (hbb:bb < w.heap.size) (hcap:l.length≤cap) (hlen:l.length < 140737488355328) (hb:∀ x ∈ l,x < 256) (hno:∀ x,¬ ReadOk l x) :
    Calls Tryz.prog 128 #[.slice (some ⟨bb,bo,none⟩) l.length cap] w fun e w'=>e=.returned (.tuple #[.agg (fc false 0 0 0 0 false),.int .i64 9])∧Keep nil w w':=by
  have hmf:∀ (fn:Fn) (first cap:Array Value) (w:World),(Instr.makeFunc fn first cap).run Tryz.prog w=.ok (.func fn first cap) w:=fun _ _ _ _=>rfl
  have HN:Hid (∀ x,¬ ReadOk l x):=hno
  clear hno
  go_enter_defers Tryz.func128,Tryz.ntmps128
  go_wp2_with fail
  have r1:=(hrow.keep ((Keep.refl nil w).alloc (.cells (fc false 0 0 0 0 false) 78)) hbb (fun e=>e)).keep ((Keep.refl nil _).alloc (.cells #[.int .i64 0] 32)) (by simp; omega) (fun e=>e)
  refine (read_no bb bo cap l _ r1 (by simp; omega) hcap hlen hb HN.out).mono ?_
  rintro e w1 ⟨rfl,hk1⟩
  have b1:=((Blk.new w (fc false 0 0 0 0 false) 78).old (.cells #[.int .i64 0] 32)).keep hk1 (fun e=>e)
  have b2:=(Blk.new' (w.alloc (.cells (fc false 0 0 0 0 false) 78)) #[.int .i64 0] 32 (w.heap.size + 1) (by simp)).keep hk1 (fun e=>e)
  clear HN hrow hb r1
  refine leaves_cons (f:=180) (args:=#[.pointer (some ⟨w.heap.size,0,none⟩),.pointer (some ⟨w.heap.size + 1,0,none⟩)]) (by simp) (by simp [go_sem]) ?_
  refine (catch_panicking w.heap.size (w.heap.size + 1) Six.zero 0 _ b1 b2 (by omega) (by omega)).mono ?_
  rintro e u' w2 ⟨rfl,rfl,d1,d2,hk2⟩
  have z0:=d1.cell 0
  have z1:=d1.cell 1
  have z2:=d1.cell 2
  have z3:=d1.cell 3
  have z4:=d1.cell 4
  have z5:=d1.cell 5
  have z6:=d2.cell 0
  simp at z0 z1 z2 z3 z4 z5 z6
  refine ⟨.tuple #[.agg (fc false 0 0 0 0 false),.int .i64 9],?_,rfl,?_⟩
  · simp [results,Tryz.results128,go_sem,z0,z1,z2,z3,z4,z5,z6]
  · exact ((((Keep.refl nil w).alloc _).alloc _).trans hk1).trans' hk2 (fun i hi e=>by rcases e with e | e <;> omega)
abbrev fv (f:Fr.Frm):Array Value:=fc f.data (f.seq:Int) (f.m.kind:Int) (f.m.level:Int) (f.m.name:Int) f.m.finding
def FrOk (f:Fr.Frm):Prop:=f.seq < 65536∧((f.data=true∧f.m.kind < 256∧f.m.level < 256∧f.m.name < 65536∧may (f.m.kind:Int) (f.m.level:Int) (f.m.name:Int) f.m.finding=true)∨(f.data=false∧f.m=Fr.none0))
def flen (f:Fr.Frm):Nat:=if f.data then 10 else 5
theorem encode_any (f:Fr.Frm) (hf:FrOk f) (w:World) :
    Calls Tryz.prog 124 #[.agg (fv f)] w fun e w' =>
      ∃ g,e=.returned (.tuple #[.slice (some ⟨g,0,none⟩) (flen f) 10,.int .i64 0])∧w.heap.size≤g∧Buf w' g (Fr.enc f) 10∧Keep nil w w':=by
  obtain ⟨d,s,m⟩:=f
  obtain ⟨h0,⟨h1,h2,h3,h4,h5⟩ | ⟨h1,h2⟩⟩:=hf
  · simp only at h0 h1 h2 h3 h4 h5
    subst h1
    exact encode_msg s h0 m h2 h3 h4 h5 w
  · simp only at h0 h1 h2
    subst h1 h2
    exact encode_ack s h0 w
def six (f:Fr.Frm):Six:=⟨f.data,(f.seq:Int),(f.m.kind:Int),(f.m.level:Int),(f.m.name:Int),f.m.finding⟩
theorem enc_len (f:Fr.Frm):(Fr.enc f).length=flen f:=by
  obtain ⟨d,s,m⟩:=f
  cases d <;> simp [Fr.enc,Fr.sealed,Fr.body,flen]
theorem body_len (f:Fr.Frm):(Fr.body f).length=flen f - 2:=by
  obtain ⟨d,s,m⟩:=f
  cases d <;> simp [Fr.body,flen]
theorem flen_two (f:Fr.Frm):flen f=5∨flen f=10:=by
  unfold flen; cases f.data <;> simp
theorem toNat_lt (f:Bool):f.toNat < 256:=by cases f <;> simp
theorem body_byte (f:Fr.Frm) (hf:FrOk f):∀ x ∈ Fr.body f,x < 256:=by
  obtain ⟨d,s,m⟩:=f
  obtain ⟨h0,⟨h1,h2,h3,h4,h5⟩ | ⟨h1,h2⟩⟩:=hf
  · simp only at h0 h1 h2 h3 h4
    subst h1
    intro x hx
    simp only [Fr.body,if_true,List.mem_cons,List.not_mem_nil,or_false] at hx
    have:=toNat_lt m.finding
    omega
  · simp only at h0 h1
    subst h1
    intro x hx
    simp [Fr.body] at hx
    omega
theorem enc_byte (f:Fr.Frm) (hf:FrOk f):∀ x ∈ Fr.enc f,x < 256:=by
  have hb:=body_byte f hf
  have hc:=Fr.crc_lt (Fr.body f) hb
  intro x hx
  simp only [Fr.enc,Fr.sealed,List.mem_append,List.mem_cons,List.not_mem_nil,or_false] at hx
  rcases hx with hx | hx | hx
  · exact hb x hx
  · omega
  · omega
theorem enc_read (f:Fr.Frm) (hf:FrOk f):ReadOk (Fr.enc f) (six f):=by
  have hb:=body_byte f hf
  have hc:=Fr.crc_lt (Fr.body f) hb
  obtain ⟨d,s,m⟩:=f
  obtain ⟨h0,⟨h1,h2,h3,h4,h5⟩ | ⟨h1,h2⟩⟩:=hf
  · simp only at h0 h1 h2 h3 h4 h5
    subst h1
    have e:Fr.enc ⟨true,s,m⟩=[1,s / 256,s % 256,m.kind,m.level,m.finding.toNat,m.name / 256,m.name % 256]++[Fr.crc (Fr.body ⟨true,s,m⟩) / 256,Fr.crc (Fr.body ⟨true,s,m⟩) % 256]:=by simp [Fr.enc,Fr.sealed,Fr.body]
    have e':Fr.body ⟨true,s,m⟩=[1,s / 256,s % 256,m.kind,m.level,m.finding.toNat,m.name / 256,m.name % 256]:=by simp [Fr.body]
    rw [e]
    generalize hq:Fr.crc (Fr.body ⟨true,s,m⟩)=q at *
    rw [e'] at hq
    refine ⟨8,q / 256,q % 256,⟨s / 256,s % 256,rfl,rfl,Or.inr ⟨rfl,rfl,m.kind,m.level,m.finding.toNat,m.name / 256,m.name % 256,rfl,rfl,rfl,rfl,rfl,?_,?_,?_⟩⟩,rfl,rfl,?_,rfl⟩
    · cases m.finding <;> simp
    · have e1:((m.name / 256:Nat):Int) * 256 + ((m.name % 256:Nat):Int)=(m.name:Int):=by omega
      have e2:(m.finding.toNat == 1)=m.finding:=by cases m.finding <;> rfl
      rw [e1,e2]; exact h5
    · have e1:((m.name / 256:Nat):Int) * 256 + ((m.name % 256:Nat):Int)=(m.name:Int):=by omega
      have e2:(m.finding.toNat == 1)=m.finding:=by cases m.finding <;> rfl
      have e3:((s / 256:Nat):Int) * 256 + ((s % 256:Nat):Int)=(s:Int):=by omega
      rw [e1,e2,e3]; rfl
    · show q / 256 * 256 + q % 256=Fr.crc [1,s / 256,s % 256,m.kind,m.level,m.finding.toNat,m.name / 256,m.name % 256]
      rw [hq]; omega
  · simp only at h0 h1 h2
    subst h1 h2
    have e:Fr.enc ⟨false,s,Fr.none0⟩=[2,s / 256,s % 256]++[Fr.crc (Fr.body ⟨false,s,Fr.none0⟩) / 256,Fr.crc (Fr.body ⟨false,s,Fr.none0⟩) % 256]:=by simp [Fr.enc,Fr.sealed,Fr.body]
    have e':Fr.body ⟨false,s,Fr.none0⟩=[2,s / 256,s % 256]:=by simp [Fr.body]
    rw [e]
    generalize hq:Fr.crc (Fr.body ⟨false,s,Fr.none0⟩)=q at *
    rw [e'] at hq
    refine ⟨3,q / 256,q % 256,⟨s / 256,s % 256,rfl,rfl,Or.inl ⟨rfl,rfl,?_⟩⟩,rfl,rfl,?_,rfl⟩
    · have e3:((s / 256:Nat):Int) * 256 + ((s % 256:Nat):Int)=(s:Int):=by omega
      rw [e3]; rfl
    · show q / 256 * 256 + q % 256=Fr.crc [2,s / 256,s % 256]
      rw [hq]; omega
theorem sealed_set (b : List Nat) (hb : ∀ x ∈ b, x < 256) (k : Nat) (hk : k < b.length + 2) (y : Nat) (hy : y < 256) (c1 c2 : Nat)
    (h1:((Fr.sealed b).set k y)[b.length]?=some c1) (h2:((Fr.sealed b).set k y)[b.length + 1]?=some c2) (hc:c1 * 256 + c2=Fr.crc (((Fr.sealed b).set k y).take b.length)):(Fr.sealed b)[k]?=some y:=by
  have hq:=Fr.crc_lt b hb
  by_cases hkb:k < b.length
  · have e1:(Fr.sealed b).set k y=b.set k y++[Fr.crc b / 256,Fr.crc b % 256]:=List.set_append_left _ _ hkb
    have e0:(Fr.sealed b)[k]?=b[k]?:=List.getElem?_append_left hkb
    rw [e1,List.getElem?_append_right (by simp)] at h1 h2
    rw [e1,List.take_left' (by simp)] at hc
    simp at h1 h2
    subst h1 h2
    have:=Fr.crc_set b k hkb y hy hb (by omega)
    rw [e0,List.getElem?_eq_getElem hkb,this]
  · have e1:(Fr.sealed b).set k y=b++([Fr.crc b / 256,Fr.crc b % 256].set (k - b.length) y):=List.set_append_right _ _ (by omega)
    have e0:(Fr.sealed b)[k]?=[Fr.crc b / 256,Fr.crc b % 256][k - b.length]?:=List.getElem?_append_right (by omega)
    rw [e1,List.getElem?_append_right (by simp)] at h1 h2
    rw [e1,List.take_left' rfl] at hc
    rw [e0]
    generalize Fr.crc b=q at *
    have hkk:k - b.length=0∨k - b.length=1:=by omega
    rcases hkk with e | e
    · rw [e] at h1 h2 ⊢
      simp at h1 h2 ⊢
      omega
    · rw [e] at h1 h2 ⊢
      simp at h1 h2 ⊢
      omega
theorem enc_seen (f:Fr.Frm) (hf:FrOk f) (k y:Nat) (hk:k < flen f) (hy:y < 256) (hne:(Fr.enc f)[k]?≠some y):∀ x,¬ ReadOk ((Fr.enc f).set k y) x:=by
  rintro x ⟨kk,c1,c2,hB,h1,h2,hc,hl⟩
  have hlen:((Fr.enc f).set k y).length=flen f:=by rw [List.length_set,enc_len]
  have hbl:=body_len f
  have ht:=flen_two f
  have hkk:kk=(Fr.body f).length:=by omega
  subst hkk
  exact hne (sealed_set (Fr.body f) (body_byte f hf) k (by omega) y hy c1 c2 h1 h2 hc)
structure En where
  first:Nat
  wait:List Fr.Msg
  await:Nat
  kept:List (Option Fr.Msg)
  out:List Fr.Frm
namespace En
def new:En:=⟨0,[],0,[none,none,none,none],[]⟩
def frames (n : Nat) : List Fr.Msg → List Fr.Frm
  | []=>[]
  | m :: r=>⟨true,n,m⟩ :: frames (n + 1) r
def shown (e:En):Nat:=min e.wait.length 4
def showFrom (e:En) (k:Nat):En:={ e with out:=e.out++frames (e.first + k) ((e.wait.take 4).drop k) }
def put (e:En) (m:Fr.Msg):En:={ e with wait:=e.wait++[m] }
def send (e:En) (m:Fr.Msg):En:=(e.put m).showFrom e.shown
def drop (e:En) (n:Nat):En:={ e with first:=e.first + n,wait:=e.wait.drop n }
def ack (e:En) (n:Nat):En:=if e.first < n∧n≤e.first + e.shown then (e.drop (n - e.first)).showFrom (e.shown - (n - e.first)) else e
def keep (e:En) (n:Nat) (m:Fr.Msg):En:=if e.await≤n then (match e.kept[n - e.await]? with | some none=>{ e with kept:=e.kept.set (n - e.await) (some m) } | _=>e) else e
def ready : List (Option Fr.Msg) → List Fr.Msg
  | some m :: r=>m :: ready r
  | _=>[]
def take (e:En):En:={ e with await:=e.await + (ready e.kept).length,kept:=e.kept.drop (ready e.kept).length++List.replicate (ready e.kept).length none }
def answer (e:En):En:=if e.await < 65536 then { e with out:=e.out++[⟨false,e.await,Fr.none0⟩] } else e
def came (e:En) (n:Nat) (m:Fr.Msg):En:=(e.keep n m).take.answer
def told (e:En) (n:Nat) (m:Fr.Msg):List Fr.Msg:=ready (e.keep n m).kept
def tick (e:En):En:=e.showFrom 0
def outs (e:En):En:={ e with out:=[] }
end En
theorem frames_len (n:Nat) (l:List Fr.Msg):(En.frames n l).length=l.length:=by
  induction l generalizing n with
  | nil=>rfl
  | cons m r ih=>simp [En.frames,ih]
theorem frames_append (n:Nat) (l k:List Fr.Msg):En.frames n (l++k)=En.frames n l++En.frames (n + l.length) k:=by
  induction l generalizing n with
  | nil=>simp [En.frames]
  | cons m r ih=>simp only [List.cons_append,En.frames,ih,List.length_cons]; rw [Nat.add_right_comm,← Nat.add_assoc]
def mcell (m:Fr.Msg):List Value:=[.int .i64 (m.kind:Int),.int .i64 (m.level:Int),.int .i64 (m.name:Int),.bool m.finding]
def mcells (l:List Fr.Msg):List Value:=l.flatMap mcell
theorem mcells_len (l:List Fr.Msg):(mcells l).length=l.length * 4:=by
  induction l with
  | nil=>rfl
  | cons e t ih=>simp only [mcells,List.flatMap_cons,List.length_append,List.length_cons] at ih ⊢; rw [ih]; simp [mcell]; omega
theorem mcells_append (l m:List Fr.Msg):mcells (l++m)=mcells l++mcells m:=by simp [mcells]
theorem mcells_drop (l:List Fr.Msg) (n:Nat):(mcells l).drop (n * 4)=mcells (l.drop n):=by
  induction l generalizing n with
  | nil=>simp [mcells]
  | cons m r ih =>
    cases n with
    | zero=>simp
    | succ n =>
      have:=ih n
      simp only [mcells,List.flatMap_cons,List.drop_succ_cons] at this ⊢
      rw [← this,List.drop_append,List.drop_of_length_le (by simp [mcell]; omega),List.nil_append]
      congr 1
      simp [mcell]; omega
theorem mcells_one (l:List Fr.Msg):∀ u ∈ mcells l,u.oneCell'=true:=by
  intro u hu
  obtain ⟨e,_,h⟩:=List.mem_flatMap.1 hu
  simp only [mcell,List.mem_cons,List.not_mem_nil,or_false] at h
  rcases h with rfl | rfl | rfl | rfl <;> rfl
theorem mcells_get (l:List Fr.Msg) (i:Nat) (m:Fr.Msg) (h:l[i]?=some m) (j:Nat) (hj:j < 4):(mcells l)[i * 4 + j]?=(mcell m)[j]?:=by
  have h1:(mcells l).drop (i * 4)=mcell m++mcells (l.drop (i + 1)):=by
    rw [mcells_drop]
    obtain ⟨hi,rfl⟩:=List.getElem?_eq_some_iff.1 h
    rw [List.drop_eq_getElem_cons hi]; rfl
  have h2:(mcells l)[i * 4 + j]?=((mcells l).drop (i * 4))[j]?:=by rw [List.getElem?_drop]
  rw [h2,h1,List.getElem?_append_left (by simpa [mcell] using hj)]
def mof : Option Fr.Msg → Fr.Msg
  | some m=>m
  | none=>Fr.none0
def slot (x:Option Fr.Msg):List Value:=mcell (mof x)++[.bool x.isSome]
def slots (l:List (Option Fr.Msg)):List Value:=l.flatMap slot
theorem slots_len (l:List (Option Fr.Msg)):(slots l).length=l.length * 5:=by
  induction l with
  | nil=>rfl
  | cons e t ih=>simp only [slots,List.flatMap_cons,List.length_append,List.length_cons] at ih ⊢; rw [ih]; simp [slot,mcell]; omega
def fval (g:Nat) (f:Fr.Frm):Value:=.slice (some ⟨g,0,none⟩) (flen f) 10
def ovals (gs:List Nat) (l:List Fr.Frm):List Value:=List.zipWith fval gs l
structure Pl where
  wa:Option Addr
  wc:Nat
  oa:Option Addr
  oc:Nat
  gs:List Nat
def En.cells (e:En) (p:Pl):List Value:=.int .i64 (e.first:Int) :: .slice p.wa e.wait.length p.wc :: .int .i64 (e.await:Int) :: (slots e.kept++[.slice p.oa e.out.length p.oc])
theorem cells_len (e:En) (p:Pl) (h:e.kept.length=4):(e.cells p).length=24:=by simp [En.cells,slots_len,h]
def MOk (m:Fr.Msg):Prop:=m.kind < 256∧m.level < 256∧m.name < 65536∧may (m.kind:Int) (m.level:Int) (m.name:Int) m.finding=true
def Mine (b:Nat) (p:Pl) (k:Nat):Prop:=k=b∨inB p.wa k∨inB p.oa k∨k ∈ p.gs
def Wri (b:Nat) (p:Pl) (k:Nat):Prop:=k=b∨inB p.wa k∨inB p.oa k
structure Rep (w : World) (c : Array Value) (t : TypeId) (b o : Nat) (e : En) (p : Pl) : Prop where
  blk:Blk w b (put c o (e.cells p)) t
  fit:o + 24≤c.size
  four:e.kept.length=4
  wrow:RV w 76 4 p.wa e.wait.length p.wc (mcells e.wait)
  orow:RV w 56 1 p.oa e.out.length p.oc (ovals p.gs e.out)
  gl:p.gs.length=e.out.length
  bufs:∀ (i g:Nat) (f:Fr.Frm),p.gs[i]?=some g→e.out[i]?=some f→Buf w g (Fr.enc f) 10
  wb:¬ inB p.wa b
  ob:¬ inB p.oa b
  wo:∀ k,inB p.wa k→¬ inB p.oa k
  gw:∀ k,k ∈ p.gs→¬ Wri b p k
  gn:p.gs.Nodup
  wok:∀ m ∈ e.wait,MOk m
  most:e.first + e.wait.length≤65536
  awt:e.await≤65536
  kn:∀ (i:Nat) (m:Fr.Msg),e.kept[i]?=some (some m)→e.await + i < 65536
  fok:∀ f ∈ e.out,FrOk f
theorem Rep.keep {ex : Nat → Prop} {w w' : World} {c : Array Value} {t : TypeId} {b o : Nat} {e : En} {p : Pl} (h : Rep w c t b o e p) (k : Keep ex w w') (hn : ∀ i, Mine b p i → ¬ ex i) : Rep w' c t b o e p where
  blk:=h.blk.keep k (hn b (Or.inl rfl))
  fit:=h.fit
  four:=h.four
  wrow:=h.wrow.keep k (fun g hg=>hn g (Or.inr (Or.inl hg)))
  orow:=h.orow.keep k (fun g hg=>hn g (Or.inr (Or.inr (Or.inl hg))))
  gl:=h.gl
  bufs:=fun i g f hg hf=>(h.bufs i g f hg hf).keep k (hn g (Or.inr (Or.inr (Or.inr (List.mem_of_getElem? hg)))))
  wb:=h.wb
  ob:=h.ob
  wo:=h.wo
  gw:=h.gw
  gn:=h.gn
  wok:=h.wok
  most:=h.most
  awt:=h.awt
  kn:=h.kn
  fok:=h.fok
theorem Rep.lt {w:World} {c:Array Value} {t:TypeId} {b o:Nat} {e:En} {p:Pl} (h:Rep w c t b o e p):∀ i,Mine b p i→i < w.heap.size:=by
  rintro i (rfl | hi | hi | hi)
  · exact h.blk.lt
  · exact h.wrow.lt i hi
  · exact h.orow.lt i hi
  · obtain ⟨j,hj,rfl⟩:=List.getElem_of_mem hi
    have hj':j < e.out.length:=by have:=h.gl; omega
    exact (h.bufs j p.gs[j] e.out[j] (List.getElem?_eq_getElem hj) (List.getElem?_eq_getElem hj')).lt
theorem Rep.len {w:World} {c:Array Value} {t:TypeId} {b o:Nat} {e:En} {p:Pl} (h:Rep w c t b o e p):o + (e.cells p).length≤c.size:=by rw [cells_len e p h.four]; exact h.fit
theorem Rep.cell {w:World} {c:Array Value} {t:TypeId} {b o:Nat} {e:En} {p:Pl} (h:Rep w c t b o e p) (i:Nat) (v:Value) (hv:(e.cells p)[i]?=some v):w.cell? ⟨b,o + i,none⟩=some v:=h.blk.at h.len i v hv
theorem Rep.frozen {w:World} {c:Array Value} {t:TypeId} {b o:Nat} {e:En} {p:Pl} (h:Rep w c t b o e p) (i:Nat):w.frozen? ⟨b,i,none⟩=false:=h.blk.frozen i
theorem Rep.c0 {w:World} {c:Array Value} {t:TypeId} {b o:Nat} {e:En} {p:Pl} (h:Rep w c t b o e p):w.cell? ⟨b,o,none⟩=some (.int .i64 (e.first:Int)):=h.cell 0 _ rfl
theorem Rep.c1 {w:World} {c:Array Value} {t:TypeId} {b o:Nat} {e:En} {p:Pl} (h:Rep w c t b o e p):w.cell? ⟨b,o + 1,none⟩=some (.slice p.wa e.wait.length p.wc):=h.cell 1 _ rfl
theorem Rep.c2 {w:World} {c:Array Value} {t:TypeId} {b o:Nat} {e:En} {p:Pl} (h:Rep w c t b o e p):w.cell? ⟨b,o + 2,none⟩=some (.int .i64 (e.await:Int)):=h.cell 2 _ rfl
theorem cells_23 (e:En) (p:Pl) (h:e.kept.length=4):(e.cells p)[23]?=some (.slice p.oa e.out.length p.oc):=by
  have h1:(slots e.kept).length=20:=by rw [slots_len,h]
  simp only [En.cells,List.getElem?_cons_succ]
  rw [List.getElem?_append_right (by omega),h1]; rfl
theorem Rep.c23 {w:World} {c:Array Value} {t:TypeId} {b o:Nat} {e:En} {p:Pl} (h:Rep w c t b o e p):w.cell? ⟨b,o + 23,none⟩=some (.slice p.oa e.out.length p.oc):=h.cell 23 _ (cells_23 e p h.four)
theorem cells_set23 (e:En) (p:Pl) (h:e.kept.length=4) (l:List Fr.Frm) (a:Option Addr) (c:Nat) (gs:List Nat):(e.cells p).set 23 (.slice a l.length c)=({ e with out:=l }:En).cells { p with oa:=a,oc:=c,gs:=gs }:=by
  have h1:(slots e.kept).length=20:=by rw [slots_len,h]
  simp only [En.cells,List.set_cons_succ]
  rw [List.set_append_right _ _ (by omega),h1]; rfl
theorem msg_info:(Tryz.prog.info? 76).map (fun i=>(i.zero,i.size,i.bytes))=some (some (.agg #[.int .i64 0,.int .i64 0,.int .i64 0,.bool false]),4,32):=by kernel_rfl
theorem list_info:(Tryz.prog.info? 56).map (fun i=>(i.zero,i.size,i.bytes))=some (some (.slice none 0 0),1,24):=by kernel_rfl
end Go.Proofs.YtlfijfodklhplaaGreat
