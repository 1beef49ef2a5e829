import Derived.Test.YtlfijfodklhplaaGreatSf33
import Derived.Test.YtlfijfodklhplaaGreatSf29
import Derived.Shelf.SlLaysF0
import Derived.Test.YtlfijfodklhplaaGreatProg
set_option linter.unusedVariables false
set_option linter.unusedSimpArgs false
namespace Go.Proofs.YtlfijfodklhplaaGreat
open Go.Shelf
def sortE_ren:Go.Shelf.Ren:=⟨fun | 6=>58 | 15=>105 | 14=>104 | 28=>157 | 29=>158 | 20=>149 | 21=>150 | 22=>151 | 23=>152 | 24=>153 | 25=>154 | 26=>155 | 27=>156 | 46=>187 | 47=>188 | 48=>189 | 49=>190 | 50=>191 | 57=>221 | n=>n,fun | 22=>26 | 24=>30 | 25=>121 | 3=>3 | 39=>179 | 0=>0 | 53=>249 | 55=>251 | 4=>4 | 46=>242 | 45=>241 | 50=>246 | 5=>5 | 9=>9 | 66=>295 | 70=>299 | 76=>335 | 77=>336 | n=>n,fun | n=>n⟩
theorem sortE : Go.Proofs.SlLaysF0.n6 Tryz.prog sortE_ren := {
  mixed:=by kernel_rfl
  f6:=⟨Tryz.f58.name,by decide,Tryz.func58.trans (congrArg some (by kernel_rfl))⟩
  f14:=⟨Tryz.f104.name,by decide,Tryz.func104.trans (congrArg some (by kernel_rfl))⟩
  f15:=Tryz.func105.trans (congrArg some (by kernel_rfl))
  f20:=⟨Tryz.f149.name,by decide,Tryz.func149.trans (congrArg some (by kernel_rfl))⟩
  f21:=⟨Tryz.f150.name,by decide,Tryz.func150.trans (congrArg some (by kernel_rfl))⟩
  f22:=⟨Tryz.f151.name,by decide,Tryz.func151.trans (congrArg some (by kernel_rfl))⟩
  f23:=⟨Tryz.f152.name,by decide,Tryz.func152.trans (congrArg some (by kernel_rfl))⟩
  f24:=⟨Tryz.f153.name,by decide,Tryz.func153.trans (congrArg some (by kernel_rfl))⟩
  f25:=⟨Tryz.f154.name,by decide,Tryz.func154.trans (congrArg some (by kernel_rfl))⟩
  f26:=⟨Tryz.f155.name,by decide,Tryz.func155.trans (congrArg some (by kernel_rfl))⟩
  f27:=⟨Tryz.f156.name,by decide,Tryz.func156.trans (congrArg some (by kernel_rfl))⟩
  f28:=Tryz.func157.trans (congrArg some (by kernel_rfl))
  f29:=Tryz.func158.trans (congrArg some (by kernel_rfl))
  f46:=⟨Tryz.f187.name,by decide,Tryz.func187.trans (congrArg some (by kernel_rfl))⟩
  f47:=Tryz.func188.trans (congrArg some (by kernel_rfl))
  f48:=Tryz.func189.trans (congrArg some (by kernel_rfl))
  f49:=⟨Tryz.f190.name,by decide,Tryz.func190.trans (congrArg some (by kernel_rfl))⟩
  f50:=⟨Tryz.f191.name,by decide,Tryz.func191.trans (congrArg some (by kernel_rfl))⟩
  f57:=⟨Tryz.f221.name,by decide,Tryz.func221.trans (congrArg some (by kernel_rfl))⟩
  t0:=Tryz.underlying0
  a0:=Tryz.isAgg0
  z0:=Tryz.sizeOf0
  v0:=Tryz.zeroValue0
  t3:=Tryz.underlying3
  a3:=Tryz.isAgg3
  z3:=Tryz.sizeOf3
  v3:=Tryz.zeroValue3
  t4:=Tryz.underlying4
  a4:=Tryz.isAgg4
  z4:=Tryz.sizeOf4
  v4:=Tryz.zeroValue4
  t5:=Tryz.underlying5
  a5:=Tryz.isAgg5
  z5:=Tryz.sizeOf5
  v5:=Tryz.zeroValue5
  t9:=Tryz.underlying9
  a9:=Tryz.isAgg9
  z9:=Tryz.sizeOf9
  v9:=Tryz.zeroValue9
  t22:=Tryz.underlying26
  a22:=Tryz.isAgg26
  z22:=Tryz.sizeOf26
  v22:=Tryz.zeroValue26
  t25:=Tryz.underlying121
  a25:=Tryz.isAgg121
  z25:=Tryz.sizeOf121
  v25:=Tryz.zeroValue121
  t39:=Tryz.underlying179
  a39:=Tryz.isAgg179
  z39:=Tryz.sizeOf179
  v39:=Tryz.zeroValue179
  t45:=Tryz.underlying241
  a45:=Tryz.isAgg241
  z45:=Tryz.sizeOf241
  v45:=Tryz.zeroValue241
  t46:=Tryz.underlying242
  a46:=Tryz.isAgg242
  z46:=Tryz.sizeOf242
  v46:=Tryz.zeroValue242
  t50:=Tryz.underlying246
  a50:=Tryz.isAgg246
  z50:=Tryz.sizeOf246
  v50:=Tryz.zeroValue246
  t53:=Tryz.underlying249
  a53:=Tryz.isAgg249
  z53:=Tryz.sizeOf249
  v53:=Tryz.zeroValue249
  t55:=Tryz.underlying251
  a55:=Tryz.isAgg251
  z55:=Tryz.sizeOf251
  v55:=Tryz.zeroValue251
  t66:=Tryz.underlying295
  a66:=Tryz.isAgg295
  z66:=Tryz.sizeOf295
  v66:=Tryz.zeroValue295
  t70:=Tryz.underlying299
  a70:=Tryz.isAgg299
  z70:=Tryz.sizeOf299
  v70:=Tryz.zeroValue299
  t76:=Tryz.underlying335
  a76:=Tryz.isAgg335
  z76:=Tryz.sizeOf335
  v76:=Tryz.zeroValue335
  t77:=Tryz.underlying336
  a77:=Tryz.isAgg336
  z77:=Tryz.sizeOf336
  v77:=Tryz.zeroValue336 }
open Go.RowKit
set_option maxRecDepth 100000 in
set_option maxHeartbeats 400000 in
theorem reach_new (ex : Nat → Prop) (W0 w : World) (gb cp : Nat) (sa : Option Addr) (es : List Ed) (R : Nat → Bool) (cnt : Nat) (a : Option Addr) (n c : Nat) (L : List Th) (k : Nat) (h : Gw ex W0 w gb (.slice sa es.length cp) R cnt a n c L) (hk : k < 10) (hR : R k = false)
    (hsl:ESl W0 sa es) (hsx:∀ bb bo,0 < es.length→sa=some ⟨bb,bo,none⟩→¬ ex bb) (hes:es.length≤30) (hn:(n:Int) < 1000) (hcnt:(cnt:Int) < 1000) :
    Calls Tryz.prog 102 #[.pointer (some ⟨gb,0,none⟩),.int .i64 (k:Int)] w fun r w'=>r=.returned (.tuple #[])∧∃ a' n' c' L',Gw ex W0 w' gb (.slice sa es.length cp) (mark R k) (cnt + 1) a' n' c' L' ∧
      n'≤n + es.length∧∀ x,x ∈ L' ↔ x ∈ L∨touch es (k:Int) x:=by
  have hc:=h.heap.blk.cell (1 + k)
  rw [gcs_get _ _ _ _ _ hk,hR] at hc
  have hf:=h.heap.blk.frozen (1 + k)
  have hc0:=h.heap.blk.cell 0
  have hc11:=h.heap.blk.cell 11
  have hf11:=h.heap.blk.frozen 11
  simp [gcs] at hc0 hc11
  have hkI:(k:Int) < 10:=by omega
  have hk11:¬ (1 + k=11):=by omega
  have hk0:¬ (1 + k=0):=by omega
  have HG:Unit→Gw ex W0 w gb (.slice sa es.length cp) R cnt a n c L:=fun _=>h
  have HB:Unit→ESl W0 sa es∧es.length≤30∧(n:Int) < 1000∧(cnt:Int) < 1000∧k < 10:=fun _=>⟨hsl,hes,hn,hcnt,hk⟩
  have HSX:Unit→∀ bb bo,0 < es.length→sa=some ⟨bb,bo,none⟩→¬ ex bb:=fun _=>hsx
  have hwc:wrap64 ((cnt:Int) + 1)=(cnt:Int) + 1:=by unfold wrap64; omega
  clear h hR hsl hes hn hcnt hsx
  go_enter Tryz.func102,Tryz.ntmps102
  go_wp2_with fail
  try simp only [hwc]
  clear hwc
  obtain ⟨W1,hW1⟩:∃ W1,W1=(w.setCell ⟨gb,1 + k,none⟩ (.bool true)).setCell ⟨gb,11,none⟩ (.int .i64 ((cnt:Int) + 1)):=⟨_,rfl⟩
  rw [← hW1]
  have HG1:Unit→Gw ex W0 W1 gb (.slice sa es.length cp) (mark R k) (cnt + 1) a n c L:=fun _=>by rw [hW1]; exact (HG ()).mark k (HB ()).2.2.2.2
  clear hW1 hc hf hc0 hc11 hf11
  go_loopw [29] (fun v wr=>∃ (i:Nat) (a':Option Addr) (n' c':Nat) (L':List Th),i≤es.length∧v=.int .i64 (i:Int)∧Gw ex W0 wr gb (.slice sa es.length cp) (mark R k) (cnt + 1) a' n' c' L'∧n'≤n + i∧∀ x,x ∈ L' ↔ x ∈ L∨touch (es.take i) (k:Int) x) (fun v _=>es.length - (intOf v).toNat)
  case atStart=>exact ⟨0,a,n,c,L,by omega,rfl,HG1 (),by omega,fun x=>⟨Or.inl,fun h=>h.elim id (fun ⟨e,he,_⟩=>by simp at he)⟩⟩
  case round =>
    obtain ⟨i,a',n',c',L',hi,rfl,hg,hn',hmem⟩:=hrel
    have HR:Unit→Gw ex W0 wr gb (.slice sa es.length cp) (mark R k) (cnt + 1) a' n' c' L'∧n'≤n + i∧∀ x,x ∈ L' ↔ x ∈ L∨touch (es.take i) (k:Int) x:=fun _=>⟨hg,hn',hmem⟩
    clear hg hn' hmem
    by_cases hil:i < es.length
    · obtain ⟨e,he⟩:∃ e,es[i]?=some e:=⟨_,List.getElem?_eq_getElem hil⟩
      obtain ⟨bb,bo,rfl,hbb,hrow⟩:=(HB ()).1.some hil
      obtain ⟨q0,q1,q2⟩:=erow_get (hrow.keep (HR ()).1.keep hbb (HSX () _ _ (by omega) rfl)) i e he
      have hbw:bb < wr.heap.size:=Nat.lt_of_lt_of_le hbb (HR ()).1.keep.size
      have hiI:(i:Int) < (es.length:Int):=by omega
      have hwi:(i:Int) < 1000:=by have:=HB (); omega
      obtain ⟨ea,eb,ew⟩:=e
      simp only at q0 q1 q2
      have HE:Unit→es[i]?=some ⟨ea,eb,ew⟩:=fun _=>he
      clear he hrow hbb
      by_cases h1:ea=(k:Int)
      · as_aux_lemma =>
        subst h1
        have HM:Unit→∀ x,touch (es.take (i + 1)) (k:Int) x ↔ touch (es.take i) (k:Int) x∨x=⟨⟨(k:Int),eb,ew⟩,ew⟩:=fun _ x=>by
          rw [touch_succ (HE ())]
          exact ⟨fun h=>h.imp id (fun h=>h.2),fun h=>h.imp id (fun h=>⟨Or.inl rfl,h⟩)⟩
        go_wp2_with fail
        obtain ⟨W2,hW2⟩:∃ W2,W2=wr.alloc (.cells #[.int .i64 (k:Int),.int .i64 eb,.int .i64 ew] 30):=⟨_,rfl⟩
        have hbx:Blk W2 wr.heap.size #[.int .i64 (k:Int),.int .i64 eb,.int .i64 ew] 30:=by rw [hW2]; exact Blk.new _ _ _
        have hk2:Keep nil wr W2:=by rw [hW2]; exact (Keep.refl nil wr).alloc _
        rw [← hW2]
        obtain ⟨xb,hxb⟩:∃ xb,xb=wr.heap.size:=⟨_,rfl⟩
        rw [← hxb] at hbx ⊢
        have z0:=hbx.cell 0
        have z1:=hbx.cell 1
        have z2:=hbx.cell 2
        simp at z0 z1 z2
        have HG2:Unit→Gw ex W0 W2.drew gb (.slice (some ⟨bb,bo,none⟩) es.length cp) (mark R k) (cnt + 1) a' n' c' L':=fun _=>(HR ()).1.same hk2.drew
        clear hW2 hbx hxb q0 q1 q2
        have HA:Unit→Calls Tryz.prog 147 #[.pointer (some ⟨gb,12,none⟩),.agg #[.int .i64 (k:Int),.int .i64 eb,.int .i64 ew],.int .i64 ew] W2.drew fun r w'=>r=.returned (.tuple #[])∧HeapTo W2.drew w' gb 12 (gcs (.slice (some ⟨bb,bo,none⟩) es.length cp) (mark R k) (cnt + 1) (.slice a' n' c')) 174 a' (fun L''=>SameT L'' (L'++[⟨⟨(k:Int),eb,ew⟩,ew⟩])):=fun _=>add_any gb 12 _ 174 a' n' c' L' ⟨(k:Int),eb,ew⟩ ew W2.drew (HG2 ()).heap (by have:=(HR ()).2.1; have:=HB (); omega)
        go_still_tail 6,(by kernel_rfl)
        go_wp2_with fail
        refine (HA ()).mono ?_
        rintro r w3 ⟨rfl,h3⟩
        obtain ⟨a2,n2,c2,L2,hg2,hs2⟩:=(HG2 ()).to h3
        have HP:Unit→Gw ex W0 w3 gb (.slice (some ⟨bb,bo,none⟩) es.length cp) (mark R k) (cnt + 1) a2 n2 c2 L2∧SameT L2 (L'++[⟨⟨(k:Int),eb,ew⟩,ew⟩]):=fun _=>⟨hg2,hs2⟩
        clear h3 hg2 hs2 HA z0 z1 z2
        go_wp2
        go_roundw
        case rel =>
          refine ⟨i + 1,a2,n2,c2,L2,by omega,by go_num,(HP ()).1,?_,fun x=>?_⟩
          · have h1:=(HP ()).1.heap.len
            have h2:=(HP ()).2.1
            have h3:=(HR ()).1.heap.len
            have h4:=(HR ()).2.1
            rw [List.length_append] at h2
            simp at h2
            omega
          · rw [(HP ()).2.2 x,List.mem_append,(HR ()).2.2 x,HM () x,or_assoc]
            simp
        case measure=>simp [intOf]; omega
      · by_cases h2:eb=(k:Int)
        · as_aux_lemma =>
          subst h2
          have HM:Unit→∀ x,touch (es.take (i + 1)) (k:Int) x ↔ touch (es.take i) (k:Int) x∨x=⟨⟨ea,(k:Int),ew⟩,ew⟩:=fun _ x=>by
            rw [touch_succ (HE ())]
            exact ⟨fun h=>h.imp id (fun h=>h.2),fun h=>h.imp id (fun h=>⟨Or.inr rfl,h⟩)⟩
          go_wp2_with fail
          clear h1
          obtain ⟨W2,hW2⟩:∃ W2,W2=wr.alloc (.cells #[.int .i64 ea,.int .i64 (k:Int),.int .i64 ew] 30):=⟨_,rfl⟩
          have hbx:Blk W2 wr.heap.size #[.int .i64 ea,.int .i64 (k:Int),.int .i64 ew] 30:=by rw [hW2]; exact Blk.new _ _ _
          have hk2:Keep nil wr W2:=by rw [hW2]; exact (Keep.refl nil wr).alloc _
          rw [← hW2]
          obtain ⟨xb,hxb⟩:∃ xb,xb=wr.heap.size:=⟨_,rfl⟩
          rw [← hxb] at hbx ⊢
          have z0:=hbx.cell 0
          have z1:=hbx.cell 1
          have z2:=hbx.cell 2
          simp at z0 z1 z2
          have HG2:Unit→Gw ex W0 W2.drew gb (.slice (some ⟨bb,bo,none⟩) es.length cp) (mark R k) (cnt + 1) a' n' c' L':=fun _=>(HR ()).1.same hk2.drew
          clear hW2 hbx hxb q0 q1 q2
          have HA:Unit→Calls Tryz.prog 147 #[.pointer (some ⟨gb,12,none⟩),.agg #[.int .i64 ea,.int .i64 (k:Int),.int .i64 ew],.int .i64 ew] W2.drew fun r w'=>r=.returned (.tuple #[])∧HeapTo W2.drew w' gb 12 (gcs (.slice (some ⟨bb,bo,none⟩) es.length cp) (mark R k) (cnt + 1) (.slice a' n' c')) 174 a' (fun L''=>SameT L'' (L'++[⟨⟨ea,(k:Int),ew⟩,ew⟩])):=fun _=>add_any gb 12 _ 174 a' n' c' L' ⟨ea,(k:Int),ew⟩ ew W2.drew (HG2 ()).heap (by have:=(HR ()).2.1; have:=HB (); omega)
          go_still_tail 6,(by kernel_rfl)
          go_wp2_with fail
          refine (HA ()).mono ?_
          rintro r w3 ⟨rfl,h3⟩
          obtain ⟨a2,n2,c2,L2,hg2,hs2⟩:=(HG2 ()).to h3
          have HP:Unit→Gw ex W0 w3 gb (.slice (some ⟨bb,bo,none⟩) es.length cp) (mark R k) (cnt + 1) a2 n2 c2 L2∧SameT L2 (L'++[⟨⟨ea,(k:Int),ew⟩,ew⟩]):=fun _=>⟨hg2,hs2⟩
          clear h3 hg2 hs2 HA z0 z1 z2
          go_wp2
          go_roundw
          case rel =>
            refine ⟨i + 1,a2,n2,c2,L2,by omega,by go_num,(HP ()).1,?_,fun x=>?_⟩
            · have h1:=(HP ()).1.heap.len
              have h2:=(HP ()).2.1
              have h3:=(HR ()).1.heap.len
              have h4:=(HR ()).2.1
              rw [List.length_append] at h2
              simp at h2
              omega
            · rw [(HP ()).2.2 x,List.mem_append,(HR ()).2.2 x,HM () x,or_assoc]
              simp
          case measure=>simp [intOf]; omega
        · as_aux_lemma =>
          have HM:Unit→∀ x,touch (es.take (i + 1)) (k:Int) x ↔ touch (es.take i) (k:Int) x:=fun _ x=>by
            rw [touch_succ (HE ())]
            exact ⟨fun h=>h.elim id (fun h=>(h.1.elim h1 h2).elim),Or.inl⟩
          go_wp2_with fail
          · rename_i h; simp [h1,h2] at h
          · clear h1 h2
            go_roundw
            case rel=>exact ⟨i + 1,a',n',c',L',by omega,by go_num,(HR ()).1.same ((Keep.refl nil wr).alloc _),by have:=(HR ()).2.1; omega,fun x=>by rw [HM ()]; exact (HR ()).2.2 x⟩
            case measure=>simp [intOf]; omega
    · have ei:i=es.length:=by omega
      subst ei
      go_wp2
      go_end0
      refine ⟨rfl,a',n',c',L',(HR ()).1,(HR ()).2.1,fun x=>?_⟩
      have:=(HR ()).2.2 x
      rwa [List.take_length] at this
def InN (N:Nat) (es:List Ed):Prop:=∀ e ∈ es,0≤e.a∧e.a < (N:Int)∧0≤e.b∧e.b < (N:Int)
structure Jn (ex : Nat → Prop) (W0 w : World) (gb cp : Nat) (sa : Option Addr) (es : List Ed) (N : Nat) (X : Ed → Prop) (R : Nat → Bool) (cnt : Nat) (a : Option Addr) (n c : Nat) (L : List Th) : Prop where
  gw:Gw ex W0 w gb (.slice sa es.length cp) R cnt a n c L
  crd:cnt=card R 10
  far:∀ k,N≤k→R k=false
  sound:Sound es R
  edge:∀ e ∈ es,R e.a.toNat=R e.b.toNat∨(⟨e,e.wt⟩:Th) ∈ L∨X e
  heap:∀ x ∈ L,x.e ∈ es∧(R x.e.a.toNat=true∨R x.e.b.toNat=true)
  num:n≤30 * cnt
theorem Jn.same {ex:Nat→Prop} {W0 w w1:World} {gb cp:Nat} {sa:Option Addr} {es:List Ed} {N:Nat} {X:Ed→Prop} {R:Nat→Bool} {cnt:Nat} {a:Option Addr} {n c:Nat} {L:List Th} (h:Jn ex W0 w gb cp sa es N X R cnt a n c L) (k:Keep nil w w1):Jn ex W0 w1 gb cp sa es N X R cnt a n c L :=
  ⟨h.gw.same k,h.crd,h.far,h.sound,h.edge,h.heap,h.num⟩
theorem Jn.here {ex:Nat→Prop} {W0 w:World} {gb cp:Nat} {sa:Option Addr} {es:List Ed} {N:Nat} {X:Ed→Prop} {R:Nat→Bool} {cnt:Nat} {a:Option Addr} {n c:Nat} {L:List Th} (h:Jn ex W0 w gb cp sa es N X R cnt a n c L):Jn (fun b=>b=gb∨a=some ⟨b,0,none⟩) w w gb cp sa es N X R cnt a n c L :=
  ⟨h.gw.here,h.crd,h.far,h.sound,h.edge,h.heap,h.num⟩
theorem Jn.back {ex : Nat → Prop} {W0 w w' : World} {gb cp : Nat} {sa : Option Addr} {es : List Ed} {N : Nat} {X : Ed → Prop} {R : Nat → Bool} {cnt : Nat} {a : Option Addr} {n c : Nat} {L : List Th} {R' : Nat → Bool} {cnt' : Nat} {a' : Option Addr} {n' c' : Nat} {L' : List Th}
    (h:Jn ex W0 w gb cp sa es N X R cnt a n c L) (h':Jn (fun b=>b=gb∨a=some ⟨b,0,none⟩) w w' gb cp sa es N X R' cnt' a' n' c' L'):Jn ex W0 w' gb cp sa es N X R' cnt' a' n' c' L' :=
  ⟨h.gw.back h'.gw,h'.crd,h'.far,h'.sound,h'.edge,h'.heap,h'.num⟩
theorem Gw.pile_lt {ex:Nat→Prop} {W0 w:World} {gb:Nat} {esv:Value} {R:Nat→Bool} {cnt:Nat} {a:Option Addr} {n c:Nat} {L:List Th} (h:Gw ex W0 w gb esv R cnt a n c L):∀ b,a=some ⟨b,0,none⟩→b < w.heap.size:=fun b e=>by
  rcases h.heap.row with ⟨e',_⟩ | ⟨pb,e',_,ht⟩
  · rw [e'] at e; cases e
  · rw [e'] at e; cases e; exact ht.lt
def meas (w:World) (gb:Nat):Nat :=
  (match w.cell? ⟨gb,11,none⟩ with | some (.int _ z)=>(10 - z.toNat) * 31 | _=>0) + (match w.cell? ⟨gb,12,none⟩ with | some (.slice _ n _)=>n | _=>0)
theorem Jn.meas {ex:Nat→Prop} {W0 w:World} {gb cp:Nat} {sa:Option Addr} {es:List Ed} {N:Nat} {X:Ed→Prop} {R:Nat→Bool} {cnt:Nat} {a:Option Addr} {n c:Nat} {L:List Th} (h:Jn ex W0 w gb cp sa es N X R cnt a n c L):Go.Proofs.YtlfijfodklhplaaGreat.meas w gb=(10 - cnt) * 31 + n:=by
  have h1:=h.gw.heap.blk.cell 11
  have h2:=h.gw.heap.blk.cell 12
  have e1:(gcs (.slice sa es.length cp) R cnt (.slice a n c))[11]?=some (.int .i64 (cnt:Int)):=rfl
  have e2:(gcs (.slice sa es.length cp) R cnt (.slice a n c))[12]?=some (.slice a n c):=rfl
  rw [e1] at h1
  rw [e2] at h2
  unfold Go.Proofs.YtlfijfodklhplaaGreat.meas
  rw [h1,h2]
  simp
theorem reach_jn {ex : Nat → Prop} {W0 w : World} {gb cp : Nat} {sa : Option Addr} {es : List Ed} {N : Nat} {X : Ed → Prop} {R : Nat → Bool} {cnt : Nat} {a : Option Addr} {n c : Nat} {L : List Th} (h : Jn ex W0 w gb cp sa es N X R cnt a n c L) (k : Nat) (hk : k < N) (hN : N ≤ 10)
    (hS:Sound es (mark R k)) (hsl:ESl W0 sa es) (hsx:∀ bb bo,0 < es.length→sa=some ⟨bb,bo,none⟩→¬ ex bb) (hes:es.length≤30) (hin:InN N es) :
    Calls Tryz.prog 102 #[.pointer (some ⟨gb,0,none⟩),.int .i64 (k:Int)] w fun r w'=>r=.returned (.tuple #[])∧∃ R' cnt' a' n' c' L',Jn ex W0 w' gb cp sa es N X R' cnt' a' n' c' L'∧R' k=true∧(∀ j,R j=true→R' j=true)∧(10 - cnt') * 31 + n'≤(10 - cnt) * 31 + n:=by
  have hcl:=card_le R 10
  cases hR:R k with
  | true =>
    refine (reach_old ex W0 w gb _ R cnt a n c L k h.gw (by omega) hR).mono ?_
    rintro r w' ⟨rfl,rfl⟩
    exact ⟨rfl,R,cnt,a,n,c,L,h,hR,fun j hj=>hj,Nat.le_refl _⟩
  | false =>
    have hcm:=card_mark R 10 k (by omega) hR
    have hcl2:=card_le (mark R k) 10
    have hcr:=h.crd
    have hnm:=h.num
    refine (reach_new ex W0 w gb cp sa es R cnt a n c L k h.gw (by omega) hR hsl hsx hes (by omega) (by omega)).mono ?_
    rintro r w' ⟨rfl,a',n',c',L',hg,hn,hm⟩
    refine ⟨rfl,mark R k,cnt + 1,a',n',c',L',⟨hg,by omega,?_,hS,?_,?_,by omega⟩,by simp [mark],fun j hj=>mark_le R k j hj,by omega⟩
    · intro j hj
      have:j≠k:=by omega
      simp [mark,this]
      exact h.far j hj
    · intro e he
      by_cases ht:e.a=(k:Int)∨e.b=(k:Int)
      · exact Or.inr (Or.inl ((hm _).2 (Or.inr ⟨e,he,ht,rfl⟩)))
      · have hb:=hin e he
        have h1:e.a.toNat≠k:=by omega
        have h2:e.b.toNat≠k:=by omega
        rcases h.edge e he with hh | hh | hh
        · exact Or.inl (by simp [mark,h1,h2,hh])
        · exact Or.inr (Or.inl ((hm _).2 (Or.inl hh)))
        · exact Or.inr (Or.inr hh)
    · intro x hx
      rcases (hm x).1 hx with hx | ⟨e,he,ht,rfl⟩
      · exact ⟨(h.heap x hx).1,(h.heap x hx).2.imp (mark_le R k _) (mark_le R k _)⟩
      · refine ⟨he,ht.imp (fun e1=>?_) (fun e1=>?_)⟩
        · have:e.a.toNat=k:=by omega
          simp [mark,this]
        · have:e.b.toNat=k:=by omega
          simp [mark,this]
theorem Jn.joined {ex:Nat→Prop} {W0 w:World} {gb cp:Nat} {sa:Option Addr} {es:List Ed} {N:Nat} {R:Nat→Bool} {cnt:Nat} {a:Option Addr} {c:Nat} {L:List Th} (h:Jn ex W0 w gb cp sa es N (fun _=>False) R cnt a 0 c L) (h0:R 0=true) (hN:N≤10):(cnt:Int)=(N:Int) ↔ Joined N es:=by
  have hL:L=[]:=List.eq_nil_of_length_eq_zero h.gw.heap.len
  have hc:Closed es R:=fun e he=>by
    rcases h.edge e he with hh | hh | hh
    · exact hh
    · rw [hL] at hh; cases hh
    · exact hh.elim
  rw [joined_iff h0 h.sound hc]
  have e1:card R 10=card R N:=by
    have:=card_far R N (10 - N) h.far
    rwa [show N + (10 - N)=10 by omega] at this
  have:=h.crd
  constructor
  · intro hh
    exact card_full R N (by omega)
  · intro hh
    have:=card_all R N hh
    omega
set_option maxRecDepth 100000 in
set_option maxHeartbeats 400000 in
theorem joinAll_any (N cp:Nat) (sa:Option Addr) (es:List Ed) (w:World) (hsl:ESl w sa es) (hes:es.length≤30) (hin:InN N es) (hN0:0 < N) (hN:N≤10) :
    Calls Tryz.prog 56 #[.int .i64 (N:Int),.slice sa es.length cp] w fun r w'=>∃ b:Bool,r=.returned (.bool b)∧(b=true ↔ Joined N es)∧Keep nil w w':=by
  have HB:Unit→ESl w sa es∧es.length≤30∧InN N es∧0 < N∧N≤10:=fun _=>⟨hsl,hes,hin,hN0,hN⟩
  clear hsl hes hin hN0 hN
  go_enter Tryz.func56,Tryz.ntmps56
  go_wp2_with fail
  obtain ⟨W1,hW1⟩:∃ W1,W1=w.alloc (.cells (gcs (.slice sa es.length cp) (fun _=>false) 0 (.slice none 0 0)) 174):=⟨_,rfl⟩
  have hbx:Blk W1 w.heap.size (gcs (.slice sa es.length cp) (fun _=>false) 0 (.slice none 0 0)) 174:=by rw [hW1]; exact Blk.new _ _ _
  have hk1:Keep nil w W1:=by rw [hW1]; exact (Keep.refl nil w).alloc _
  unfold gcs at hW1
  simp only [Int.natCast_zero] at hW1
  rw [← hW1]
  obtain ⟨gb,hgb⟩:∃ gb,gb=w.heap.size:=⟨_,rfl⟩
  rw [← hgb] at hbx ⊢
  have HJ0:Unit→Jn nil w W1 gb cp sa es N (fun _=>False) (fun _=>false) 0 none 0 0 []:=fun _=>by
    refine ⟨⟨hk1,Or.inr (by omega),⟨hbx,rfl,rfl,Nat.le_refl _,Or.inl ⟨rfl,rfl,rfl⟩⟩,fun b e=>by cases e⟩,by simp [card],fun _ _=>rfl,fun S h0 hS k hk=>(Bool.noConfusion hk),fun e he=>Or.inl rfl,fun x hx=>(List.not_mem_nil hx).elim,by omega⟩
  clear hW1 hbx hgb hk1
  have HR0:Unit→Calls Tryz.prog 102 #[.pointer (some ⟨gb,0,none⟩),.int .i64 ((0:Nat):Int)] W1 fun r w'=>r=.returned (.tuple #[])∧∃ R' cnt' a' n' c' L',Jn nil w w' gb cp sa es N (fun _=>False) R' cnt' a' n' c' L'∧R' 0=true∧(∀ j,(fun _=>false) j=true→R' j=true)∧(10 - cnt') * 31 + n'≤(10 - 0) * 31 + 0:=fun _ =>
    reach_jn (HJ0 ()) 0 (HB ()).2.2.2.1 (HB ()).2.2.2.2 (zero0_sound es) (HB ()).1 (fun _ _ _ _ e=>e) (HB ()).2.1 (HB ()).2.2.1
  refine Calls.mono (HR0 ()) ?_
  rintro r w2 ⟨rfl,R1,cnt1,a1,n1,c1,L1,hj1,hr1,_,_⟩
  have HJ1:Unit→Jn nil w w2 gb cp sa es N (fun _=>False) R1 cnt1 a1 n1 c1 L1∧R1 0=true:=fun _=>⟨hj1,hr1⟩
  clear hj1 hr1 HR0 HJ0
  go_wp2_with fail
  go_loopw [] (fun wr=>∃ (R:Nat→Bool) (cnt:Nat) (a:Option Addr) (n c:Nat) (L:List Th),Jn nil w wr gb cp sa es N (fun _=>False) R cnt a n c L∧R 0=true) (fun wr=>meas wr gb)
  case atStart=>exact ⟨R1,cnt1,a1,n1,c1,L1,(HJ1 ()).1,(HJ1 ()).2⟩
  case round =>
    obtain ⟨R,cnt,a,n,c,L,hj,hr⟩:=hrel
    have HJ:Unit→Jn nil w wr gb cp sa es N (fun _=>False) R cnt a n c L∧R 0=true:=fun _=>⟨hj,hr⟩
    have hgl:gb < wr.heap.size:=hj.gw.heap.blk.lt
    clear hr HJ1
    cases n with
    | zero =>
      as_aux_lemma =>
      have h12:=(hj.gw.heap.blk.cell 12).trans hj.gw.heap.at_
      have HT:Unit→_:=fun _=>take_none gb 12 a c wr h12
      clear hj h12
      go_wp2_with fail
      refine Calls.mono (HT ()) ?_
      rintro r w3 ⟨rfl,hk3⟩
      clear HT
      have h11:=((HJ ()).1.gw.heap.blk.keep hk3 (fun e=>e)).cell 11
      have hgl3:gb < w3.heap.size:=((HJ ()).1.gw.heap.blk.keep hk3 (fun e=>e)).lt
      simp [gcs] at h11
      have HK:Unit→Keep nil w w3:=fun _=>(HJ ()).1.gw.keep.trans hk3
      clear hk3 hgl
      go_wp2
      go_ret
      refine ⟨_,rfl,?_,(HK ()).alloc _⟩
      rw [← (HJ ()).1.joined (HJ ()).2 (HB ()).2.2.2.2]
      simp
    | succ n =>
      as_aux_lemma =>
      have HT:Unit→_:=fun _=>take_some gb 12 _ 174 a n c L wr (HJ ()).1.gw.heap (by have:=(HJ ()).1.num; have:=(HJ ()).1.crd; have:=card_le R 10; omega)
      clear hj
      go_wp2_with fail
      refine Calls.mono (HT ()) ?_
      rintro r w3 ⟨⟨⟨ta,tb,tw⟩,tww⟩,rfl,h3⟩
      clear HT
      obtain ⟨a2,n2,c2,L2,hg2,hl2,hs1,hs2,hs3⟩:=(HJ ()).1.gw.to h3
      have HG:Unit→Gw nil w w3 gb (.slice sa es.length cp) R cnt a2 n2 c2 L2∧n2=n∧(∀ x,x ∈ L→x=⟨⟨ta,tb,tw⟩,tww⟩∨x ∈ L2)∧(∀ x,x ∈ L2→x ∈ L)∧(⟨⟨ta,tb,tw⟩,tww⟩:Th) ∈ L:=fun _=>⟨hg2,by have:=hg2.heap.len; omega,hs1,hs2,hs3⟩
      have hgl3:gb < w3.heap.size:=hg2.heap.blk.lt
      clear h3 hg2 hl2 hs1 hs2 hs3 hgl
      simp only at *
      have HE:Unit→(⟨ta,tb,tw⟩:Ed) ∈ es∧(R ta.toNat=true∨R tb.toNat=true)∧0≤ta∧ta < (N:Int)∧0≤tb∧tb < (N:Int):=fun _ =>
        ⟨((HJ ()).1.heap _ (HG ()).2.2.2.2).1,((HJ ()).1.heap _ (HG ()).2.2.2.2).2,(HB ()).2.2.1 _ ((HJ ()).1.heap _ (HG ()).2.2.2.2).1⟩
      obtain ⟨na,hna⟩:∃ na:Nat,ta=(na:Int):=⟨ta.toNat,by have:=HE (); omega⟩
      obtain ⟨nb,hnb⟩:∃ nb:Nat,tb=(nb:Int):=⟨tb.toNat,by have:=HE (); omega⟩
      subst hna hnb
      go_wp2_with fail
      obtain ⟨W4,hW4⟩:∃ W4,W4=w3.alloc (.cells #[.int .i64 (na:Int),.int .i64 (nb:Int),.int .i64 tw] 30):=⟨_,rfl⟩
      have hbx:Blk W4 w3.heap.size #[.int .i64 (na:Int),.int .i64 (nb:Int),.int .i64 tw] 30:=by rw [hW4]; exact Blk.new _ _ _
      have hk4:Keep nil w3 W4:=by rw [hW4]; exact (Keep.refl nil w3).alloc _
      rw [← hW4]
      obtain ⟨xb,hxb⟩:∃ xb,xb=w3.heap.size:=⟨_,rfl⟩
      rw [← hxb] at hbx ⊢
      have HJ4:Unit→Jn nil w W4 gb cp sa es N (fun e=>e=⟨(na:Int),(nb:Int),tw⟩) R cnt a2 n c2 L2:=fun _=>by
        have g:=(HG ()).1.same hk4
        rw [(HG ()).2.1] at g
        refine ⟨g,(HJ ()).1.crd,(HJ ()).1.far,(HJ ()).1.sound,fun e he=>?_,fun x hx=>(HJ ()).1.heap x ((HG ()).2.2.2.1 x hx),by have:=(HJ ()).1.num; omega⟩
        rcases (HJ ()).1.edge e he with hh | hh | hh
        · exact Or.inl hh
        · rcases (HG ()).2.2.1 _ hh with h1 | h1
          · exact Or.inr (Or.inr (by injection h1))
          · exact Or.inr (Or.inl h1)
        · exact hh.elim
      have HX:Unit→Blk W4 xb #[.int .i64 (na:Int),.int .i64 (nb:Int),.int .i64 tw] 30:=fun _=>hbx
      have HL:Unit→gb < xb∧(∀ b,a2=some ⟨b,0,none⟩→b < xb)∧∀ bb bo,0 < es.length→sa=some ⟨bb,bo,none⟩→¬ (bb=gb∨a2=some ⟨bb,0,none⟩):=fun _=>by
        refine ⟨by rw [hxb]; exact (HG ()).1.heap.blk.lt,fun b e=>by rw [hxb]; exact (HG ()).1.pile_lt b e,fun bb bo he0 e=>?_⟩
        rcases (HB ()).1 with e1 | ⟨b1,o1,e1,h1,_⟩
        · rw [e1] at he0; simp at he0
        · rw [e1] at e
          cases e
          rintro (e2 | e2)
          · rcases (HG ()).1.g0 with e3 | e3
            · exact e3
            · omega
          · rcases (HG ()).1.pile _ e2 with e3 | e3
            · exact e3
            · omega
      clear hW4 hbx hxb hk4
      have z0:=(HX ()).cell 0
      simp at z0
      have HC1:Unit→Calls Tryz.prog 102 #[.pointer (some ⟨gb,0,none⟩),.int .i64 (na:Int)] W4 fun r w'=>r=.returned (.tuple #[])∧∃ R' cnt' a' n' c' L',Jn (fun b=>b=gb∨a2=some ⟨b,0,none⟩) W4 w' gb cp sa es N (fun e=>e=⟨(na:Int),(nb:Int),tw⟩) R' cnt' a' n' c' L'∧R' na=true∧(∀ j,R j=true→R' j=true)∧(10 - cnt') * 31 + n'≤(10 - cnt) * 31 + n:=fun _ =>
        reach_jn (HJ4 ()).here na (by have:=HE (); omega) (HB ()).2.2.2.2 ((HJ4 ()).sound.mark (HE ()).1 (HE ()).2.1 na (Or.inl (by simp))) ((HB ()).1.keep (HJ4 ()).gw.keep) (HL ()).2.2 (HB ()).2.1 (HB ()).2.2.1
      go_wp2_with fail
      refine Calls.mono (HC1 ()) ?_
      rintro r w5 ⟨rfl,R5,cnt5,a5,n5,c5,L5,hj5,hr5,hm5,hd5⟩
      have HJ5:Unit→Jn nil w w5 gb cp sa es N (fun e=>e=⟨(na:Int),(nb:Int),tw⟩) R5 cnt5 a5 n5 c5 L5∧R5 na=true∧(∀ j,R j=true→R5 j=true)∧(10 - cnt5) * 31 + n5≤(10 - cnt) * 31 + n:=fun _=>⟨(HJ4 ()).back hj5,hr5,hm5,hd5⟩
      have hb5:Blk w5 xb #[.int .i64 (na:Int),.int .i64 (nb:Int),.int .i64 tw] 30:=(HX ()).keep hj5.gw.keep (fun e=>by
        rcases e with e | e
        · have:=(HL ()).1; omega
        · have:=(HL ()).2.1 _ e; omega)
      have z1:=hb5.cell 1
      simp at z1
      have hxw:xb < w5.heap.size:=hb5.lt
      have hgw:gb < w5.heap.size:=hj5.gw.heap.blk.lt
      clear hj5 hr5 hm5 hd5 hb5 HC1 z0
      have HC2:Unit→Calls Tryz.prog 102 #[.pointer (some ⟨gb,0,none⟩),.int .i64 (nb:Int)] w5 fun r w'=>r=.returned (.tuple #[])∧∃ R' cnt' a' n' c' L',Jn nil w w' gb cp sa es N (fun e=>e=⟨(na:Int),(nb:Int),tw⟩) R' cnt' a' n' c' L'∧R' nb=true∧(∀ j,R5 j=true→R' j=true)∧(10 - cnt') * 31 + n'≤(10 - cnt5) * 31 + n5:=fun _ =>
        reach_jn (HJ5 ()).1 nb (by have:=HE (); omega) (HB ()).2.2.2.2 ((HJ5 ()).1.sound.mark (HE ()).1 (Or.inl (by simpa using (HJ5 ()).2.1)) nb (Or.inr (by simp))) (HB ()).1 (fun _ _ _ _ e=>e) (HB ()).2.1 (HB ()).2.2.1
      go_wp2_with fail
      refine Calls.mono (HC2 ()) ?_
      rintro r w6 ⟨rfl,R6,cnt6,a6,n6,c6,L6,hj6,hr6,hm6,hd6⟩
      have HJ6:Unit→Jn nil w w6 gb cp sa es N (fun _=>False) R6 cnt6 a6 n6 c6 L6∧R6 0=true∧(10 - cnt6) * 31 + n6≤(10 - cnt) * 31 + n:=fun _=>by
        refine ⟨⟨hj6.gw,hj6.crd,hj6.far,hj6.sound,fun e he=>?_,hj6.heap,hj6.num⟩,hm6 0 ((HJ5 ()).2.2.1 0 (HJ ()).2),Nat.le_trans hd6 (HJ5 ()).2.2.2⟩
        rcases hj6.edge e he with hh | hh | hh
        · exact Or.inl hh
        · exact Or.inr (Or.inl hh)
        · refine Or.inl ?_
          rw [hh]
          simp [hr6,hm6 na (HJ5 ()).2.1]
      clear hj6 hr6 hm6 hd6 HC2 z1
      go_wp2
      go_roundw
      case rel=>exact ⟨R6,cnt6,a6,n6,c6,L6,(HJ6 ()).1,(HJ6 ()).2.1⟩
      case measure =>
        rw [(HJ6 ()).1.meas,(HJ ()).1.meas]
        have:=(HJ6 ()).2.2
        omega
theorem mkfn:∀ (fn:Fn) (first cap:Array Value) (w:World),(Instr.makeFunc fn first cap).run Tryz.prog w=.ok (.func fn first cap) w:=fun _ _ _ _=>rfl
set_option maxRecDepth 100000 in
set_option maxHeartbeats 400000 in
theorem index_strays (nb:Nat) (n:Int) (sa:Option Addr) (es:List Ed) (cp:Nat) (w:World) (hsl:ESl w sa es) (hlen:es.length≤30) (hn:w.cell? ⟨nb,0,none⟩=some (.int .i64 n)) :
    Calls Tryz.prog 101 #[.slice sa es.length cp,.func (.func 49) #[] #[.pointer (some ⟨nb,0,none⟩)]] w fun r w'=>∃ z:Int,r=.returned (.int .i64 z)∧(0≤z ↔ ∃ e ∈ es,strayB n e=true)∧Keep nil w w':=by
  have HB:Unit→ESl w sa es∧es.length≤30:=fun _=>⟨hsl,hlen⟩
  have HC:Unit→∀ e w1,Keep nil w w1→Calls Tryz.prog 49 #[edv e,.pointer (some ⟨nb,0,none⟩)] w1 fun r w'=>r=.returned (.bool (strayB n e))∧Keep nil w1 w':=fun _ e w1 k1=>strays_any nb n e w1 ((k1.cell nb 0 (World.block_lt_of_cell? w _ hn) (fun e=>e)).trans hn)
  clear hsl hlen
  go_enter Tryz.func101,Tryz.ntmps101
  go_wp2_with fail
  go_loopw [8] (fun v wr=>∃ k:Nat,k≤es.length∧v=.int .i64 (k:Int)∧Keep nil w wr∧∀ e ∈ es.take k,strayB n e=false) (fun v _=>es.length - (intOf v).toNat)
  case atStart=>exact ⟨0,by omega,rfl,Keep.refl _ _,fun e he=>by simp at he⟩
  case round =>
    obtain ⟨k,hk,rfl,hkw,hall⟩:=hrel
    have HR:Unit→Keep nil w wr∧∀ e ∈ es.take k,strayB n e=false:=fun _=>⟨hkw,hall⟩
    clear hkw hall
    by_cases hil:k < es.length
    · obtain ⟨e,he⟩:∃ e,es[k]?=some e:=⟨_,List.getElem?_eq_getElem hil⟩
      obtain ⟨bb,bo,rfl,hbb,hrow⟩:=(HB ()).1.some hil
      obtain ⟨q0,q1,q2⟩:=erow_get (hrow.keep (HR ()).1 hbb (fun e=>e)) k e he
      have hbw:bb < wr.heap.size:=Nat.lt_of_lt_of_le hbb (HR ()).1.size
      have hiI:(k:Int) < (es.length:Int):=by omega
      have hwi:(k:Int) < 1000:=by have:=HB (); omega
      have HE:Unit→es[k]?=some e:=fun _=>he
      have hc:=HC () e wr (HR ()).1
      obtain ⟨ea,eb,ew⟩:=e
      simp only at q0 q1 q2
      clear he hrow hbb
      generalize hp:strayB n ⟨ea,eb,ew⟩=pe at hc
      have HP:Unit→strayB n ⟨ea,eb,ew⟩=pe:=fun _=>hp
      clear hp
      go_wp2_with fail
      refine hc.mono ?_
      rintro r w' ⟨rfl,hk2⟩
      have HK:Unit→Keep nil w w':=fun _=>(HR ()).1.trans hk2
      clear hk2 hc q0 q1 q2
      cases pe
      · go_wp2
        go_roundw
        case rel =>
          refine ⟨k + 1,by omega,by go_num,HK (),fun x hx=>?_⟩
          rcases (mem_take_succ (HE ())).1 hx with hx | rfl
          · exact (HR ()).2 x hx
          · exact HP ()
        case measure=>simp [intOf]; omega
      · go_wp2
        go_ret
        exact ⟨k,rfl,⟨fun _=>⟨_,List.mem_of_getElem? (HE ()),HP ()⟩,fun _=>by omega⟩,HK ()⟩
    · have ek:k=es.length:=by omega
      subst ek
      go_wp2
      go_ret
      refine ⟨-1,rfl,⟨fun h=>by omega,fun ⟨e,he,hp⟩=>?_⟩,(HR ()).1⟩
      rw [(HR ()).2 e (by rw [List.take_length]; exact he)] at hp
      cases hp
theorem contains_strays (nb:Nat) (n:Int) (sa:Option Addr) (es:List Ed) (cp:Nat) (w:World) (hsl:ESl w sa es) (hlen:es.length≤30) (hn:w.cell? ⟨nb,0,none⟩=some (.int .i64 n)) :
    Calls Tryz.prog 51 #[.slice sa es.length cp,.func (.func 49) #[] #[.pointer (some ⟨nb,0,none⟩)]] w fun r w'=>∃ b:Bool,r=.returned (.bool b)∧(b=true ↔ ∃ e ∈ es,strayB n e=true)∧Keep nil w w':=by
  have HI:Unit→_:=fun _=>index_strays nb n sa es cp w hsl hlen hn
  clear hsl hlen
  go_enter Tryz.func51,Tryz.ntmps51
  go_wp2_with fail
  refine Calls.mono (HI ()) ?_
  rintro r w' ⟨z,rfl,hz,hk⟩
  clear HI
  have HZ:Unit→(0≤z ↔ ∃ e ∈ es,strayB n e=true)∧Keep nil w w':=fun _=>⟨hz,hk⟩
  clear hz hk
  go_wp2
  go_ret
  exact ⟨_,rfl,by rw [← (HZ ()).1]; simp,(HZ ()).2⟩
set_option maxRecDepth 100000 in
set_option maxHeartbeats 400000 in
theorem index_heavy (sa:Option Addr) (es:List Ed) (cp:Nat) (w:World) (hsl:ESl w sa es) (hlen:es.length≤30) :
    Calls Tryz.prog 101 #[.slice sa es.length cp,.func (.func 52) #[] #[]] w fun r w'=>∃ z:Int,r=.returned (.int .i64 z)∧(0≤z ↔ ∃ e ∈ es,heavyB e=true)∧Keep nil w w':=by
  have HB:Unit→ESl w sa es∧es.length≤30:=fun _=>⟨hsl,hlen⟩
  have HC:Unit→∀ e w1,Keep nil w w1→Calls Tryz.prog 52 #[edv e] w1 fun r w'=>r=.returned (.bool (heavyB e))∧Keep nil w1 w':=fun _ e w1 k1=>weighsWrong_any e w1
  clear hsl hlen
  go_enter Tryz.func101,Tryz.ntmps101
  go_wp2_with fail
  go_loopw [8] (fun v wr=>∃ k:Nat,k≤es.length∧v=.int .i64 (k:Int)∧Keep nil w wr∧∀ e ∈ es.take k,heavyB e=false) (fun v _=>es.length - (intOf v).toNat)
  case atStart=>exact ⟨0,by omega,rfl,Keep.refl _ _,fun e he=>by simp at he⟩
  case round =>
    obtain ⟨k,hk,rfl,hkw,hall⟩:=hrel
    have HR:Unit→Keep nil w wr∧∀ e ∈ es.take k,heavyB e=false:=fun _=>⟨hkw,hall⟩
    clear hkw hall
    by_cases hil:k < es.length
    · obtain ⟨e,he⟩:∃ e,es[k]?=some e:=⟨_,List.getElem?_eq_getElem hil⟩
      obtain ⟨bb,bo,rfl,hbb,hrow⟩:=(HB ()).1.some hil
      obtain ⟨q0,q1,q2⟩:=erow_get (hrow.keep (HR ()).1 hbb (fun e=>e)) k e he
      have hbw:bb < wr.heap.size:=Nat.lt_of_lt_of_le hbb (HR ()).1.size
      have hiI:(k:Int) < (es.length:Int):=by omega
      have hwi:(k:Int) < 1000:=by have:=HB (); omega
      have HE:Unit→es[k]?=some e:=fun _=>he
      have hc:=HC () e wr (HR ()).1
      obtain ⟨ea,eb,ew⟩:=e
      simp only at q0 q1 q2
      clear he hrow hbb
      generalize hp:heavyB ⟨ea,eb,ew⟩=pe at hc
      have HP:Unit→heavyB ⟨ea,eb,ew⟩=pe:=fun _=>hp
      clear hp
      go_wp2_with fail
      refine hc.mono ?_
      rintro r w' ⟨rfl,hk2⟩
      have HK:Unit→Keep nil w w':=fun _=>(HR ()).1.trans hk2
      clear hk2 hc q0 q1 q2
      cases pe
      · go_wp2
        go_roundw
        case rel =>
          refine ⟨k + 1,by omega,by go_num,HK (),fun x hx=>?_⟩
          rcases (mem_take_succ (HE ())).1 hx with hx | rfl
          · exact (HR ()).2 x hx
          · exact HP ()
        case measure=>simp [intOf]; omega
      · go_wp2
        go_ret
        exact ⟨k,rfl,⟨fun _=>⟨_,List.mem_of_getElem? (HE ()),HP ()⟩,fun _=>by omega⟩,HK ()⟩
    · have ek:k=es.length:=by omega
      subst ek
      go_wp2
      go_ret
      refine ⟨-1,rfl,⟨fun h=>by omega,fun ⟨e,he,hp⟩=>?_⟩,(HR ()).1⟩
      rw [(HR ()).2 e (by rw [List.take_length]; exact he)] at hp
      cases hp
theorem contains_heavy (sa:Option Addr) (es:List Ed) (cp:Nat) (w:World) (hsl:ESl w sa es) (hlen:es.length≤30) :
    Calls Tryz.prog 51 #[.slice sa es.length cp,.func (.func 52) #[] #[]] w fun r w'=>∃ b:Bool,r=.returned (.bool b)∧(b=true ↔ ∃ e ∈ es,heavyB e=true)∧Keep nil w w':=by
  have HI:Unit→_:=fun _=>index_heavy sa es cp w hsl hlen
  clear hsl hlen
  go_enter Tryz.func51,Tryz.ntmps51
  go_wp2_with fail
  refine Calls.mono (HI ()) ?_
  rintro r w' ⟨z,rfl,hz,hk⟩
  clear HI
  have HZ:Unit→(0≤z ↔ ∃ e ∈ es,heavyB e=true)∧Keep nil w w':=fun _=>⟨hz,hk⟩
  clear hz hk
  go_wp2
  go_ret
  exact ⟨_,rfl,by rw [← (HZ ()).1]; simp,(HZ ()).2⟩
end Go.Proofs.YtlfijfodklhplaaGreat
