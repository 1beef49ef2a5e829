import Derived.Test.YtlfijfodklhplaaGreatFd28
import Derived.Test.YtlfijfodklhplaaGreatFd33
set_option maxRecDepth 100000
set_option maxHeartbeats 2000000
set_option linter.unusedVariables false
set_option linter.unusedSimpArgs false
namespace Go.Proofs.YtlfijfodklhplaaGreat
open Go.RowKit
theorem opened_far(nodes:Int)(raw:List Int)(ra:Option Addr)(rc:Nat)(w:World)(hnb:-9223372036854775808≤nodes∧nodes≤9223372036854775807)(hraw:Raws w ra raw)(hrl:(raw.length:Int)<35184372088832):
 Calls Tryz.prog 20 #[.int .i64 nodes,.slice ra raw.length rc] w fun r w'=>∃(N:Nt) (a:Option Addr) (c:Nat),r=.returned (.tuple #[.pointer (some ⟨N.nb,0,none⟩),.int .i64 (gn nodes:Int),.slice a (ges nodes raw).length c])∧NtOk w' N 0∧N.abs=AN.fresh (gn nodes) (srt (ges nodes raw))∧Keep nil w w'∧(∀k,N.Own k→w.heap.size≤k)∧Tre w w' (ges nodes raw) a c∧∀g,inB a g→¬N.Own g:=by
 have HG:Unit→_:=fun _=>graph_any nodes raw ra rc w hnb hraw hrl
 clear hnb hraw hrl
 have HC:Unit→Chk (gn nodes:Int) (ges nodes raw) 0:=fun _=>ges_chk nodes raw
 obtain⟨es,hes⟩:∃es,es=ges nodes raw:=⟨_,rfl⟩
 obtain⟨n,hn⟩:∃n,n=gn nodes:=⟨_,rfl⟩
 rw[←hes,←hn]at HG HC⊢
 clear hes hn
 go_enter Tryz.func20,Tryz.ntmps20
 go_wp2_with fail
 refine Calls.mono (HG ()) ?_
 rintro r w1 ⟨a,c,rfl,ht,h0⟩
 have HE:Unit→∀w',Keep nil w1 w'→ESl w' a es∧es.length≤c∧((a=none∧c=0)∨es≠[]):=fun _ w' k=>by
  have hr:=ht.row.keep k (fun _ _ e=>e)
  refine⟨?_,hr.2.1,?_⟩
  ·by_cases hl:0<es.length
   ·obtain⟨g,o,h1,h2⟩:=rv_pos hr hl
    exact Or.inr ⟨g,o,h1,h2.lt,fun j u hu=>h2.cell j u hu⟩
   ·exact Or.inl (List.eq_nil_of_length_eq_zero (by omega))
  ·by_cases he:es=[]
   ·exact Or.inl (h0 he)
   ·exact Or.inr he
 have HT:Unit→Tre w w1 es a c:=fun _=>ht
 clear ht h0 HG
 go_wp2_with fail
 refine Calls.mono (by obtain⟨q1,q2,q3⟩:=HE () w1 (Keep.refl nil _);exact arborNew_any n es a c w1 q1 q2 q3 (HC ())) ?_
 rintro r w2 ⟨N,rfl,h1,h2,h3,h4⟩
 have HN:Unit→NtOk w2 N 0∧N.abs=AN.fresh n (srt es)∧Keep nil w1 w2∧∀k,N.Own k→w1.heap.size≤k:=fun _=>⟨h1,h2,h3,h4⟩
 obtain⟨nb,hnb⟩:∃nb,nb=N.nb:=⟨_,rfl⟩
 rw[←hnb]
 have HNB:Unit→nb=N.nb:=fun _=>hnb
 clear h1 h2 h3 h4 hnb
 go_wp2_with fail
 refine Calls.mono (by obtain⟨q1,q2,q3⟩:=HE () w2 (HN ()).2.2.1;exact arborCheck_any n a es c w2 q1 q2) ?_
 rintro r w3 ⟨z,rfl,hz,hk⟩
 have hz0:z=0:=Chk.uniq hz (HC ())
 subst hz0
 have HK:Unit→Keep nil w2 w3:=fun _=>hk
 clear hz hk HE
 go_wp2
 refine bodyPost_ret (v:=.tuple #[.pointer (some ⟨nb,0,none⟩),.int .i64 (n:Int),.slice a es.length c]) (by simp[results,Tryz.results20,go_sem]) rfl ?_
 obtain⟨h1,h2,h3,h4⟩:=HN ()
 have ht:=HT ()
 refine⟨N,a,c,by rw[HNB ()],h1.keepN (HK ()),h2,(ht.keep.trans h3).trans (HK ()),fun k e=>Nat.le_trans ht.keep.size (h4 k e),(ht.keepN h3).keepN (HK ()),fun g hg e=>?_⟩
 have:=ht.row.lt g hg
 have:=h4 g e
 omega
end Go.Proofs.YtlfijfodklhplaaGreat
