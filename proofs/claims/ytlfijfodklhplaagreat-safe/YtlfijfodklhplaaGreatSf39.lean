import Derived.Test.YtlfijfodklhplaaGreatSf38
import Derived.Test.YtlfijfodklhplaaGreatSf34
import Derived.Test.YtlfijfodklhplaaGreatSf29
set_option linter.unusedVariables false
set_option linter.unusedSimpArgs false
namespace Go.Proofs.YtlfijfodklhplaaGreat
open Go.RowKit
set_option maxRecDepth 100000 in
set_option maxHeartbeats 2000000 in
theorem arborNew_any (n:Nat) (es:List Ed) (sa:Option Addr) (cp:Nat) (w:World) (hsl:ESl w sa es) (hcp:es.length≤cp) (hnl:(sa=none∧cp=0)∨es≠[]) (hck:Chk (n:Int) es 0) :
    Calls Tryz.prog 14 #[.int .i64 (n:Int),.slice sa es.length cp] w fun r w'=>∃ N:Nt,r=.returned (.tuple #[.pointer (some ⟨N.nb,0,none⟩),.int .i64 0])∧NtOk w' N 0∧N.abs=AN.fresh n (srt es)∧Keep nil w w'∧∀ k,N.Own k→w.heap.size≤k:=by
  have H:Unit→Chk (n:Int) es 0:=fun _=>hck
  have HM:Unit→∀ w1,Keep nil w w1→_:=fun _ w1 k1=>meshNew_any n es sa cp w1 (hsl.keep k1) hcp hnl hck
  clear hsl hcp hnl hck
  go_enter Tryz.func14,Tryz.ntmps14
  go_wp2_with fail
  refine Calls.mono (HM () w (Keep.refl nil w)) ?_
  rintro r w2 ⟨vb,ea,ec,sps,pa,pc,rfl,hn⟩
  have HN:Unit→Nwk w w2 n vb (srt es) ea ec sps pa pc:=fun _=>hn
  obtain ⟨L,hL⟩:∃ L,L=(srt es).length:=⟨_,rfl⟩
  obtain ⟨k,hk⟩:∃ k,k=sps.length:=⟨_,rfl⟩
  have HL:Unit→L=(srt es).length∧k=sps.length:=fun _=>⟨hL,hk⟩
  rw [← hL,← hk]
  clear hn hL hk HM
  go_wp2
  refine bodyPost_ret (v:=.tuple #[.pointer (some ⟨w2.heap.size + 1,0,none⟩),.int .i64 0]) (by simp [results,Tryz.results14,go_sem]) rfl ?_
  obtain ⟨e1,e2⟩:=HL ()
  have hn:=HN ()
  obtain ⟨hs,h1,h10⟩:=srt_ses (H ())
  have k1:Keep nil w2 (w2.alloc (.cells #[.slice ea L ec,.slice pa k pc,.slice none 0 0] 87)):=(Keep.refl nil w2).alloc _
  have hR:=(hn.rep.keep k1 (fun _ _ e=>e)).rebox (nb:=w2.heap.size + 1) (ty:=91) ((Keep.refl nil _).alloc (.cells #[.slice ea L ec,.slice pa k pc,.slice none 0 0] 91)) (by simp) (by
    have:=Blk.new' (w2.alloc (.cells #[.slice ea L ec,.slice pa k pc,.slice none 0 0] 87)) #[.slice ea L ec,.slice pa k pc,.slice none 0 0] 91 (w2.heap.size + 1) (by simp)
    rw [e1,e2] at this ⊢
    exact this)
  have hab:({ NwN vb (srt es) ea ec sps pa pc with nb:=w2.heap.size + 1,ty:=91 }:Nt).abs=AN.fresh n (srt es):=hn.abs
  refine ⟨{ NwN vb (srt es) ea ec sps pa pc with nb:=w2.heap.size + 1,ty:=91 },rfl,⟨hR,by rw [hab]; exact aok_fresh hs h10,by rw [hab]; exact ast_fresh n _,by rw [hab]; exact eok_fresh hs,?_⟩,hab,(hn.keep.alloc _).alloc _,?_⟩
  · have:=hn.len
    show 0 < sps.length
    omega
  · rintro g ⟨i,hw,hg⟩
    have hz:=hn.keep.size
    cases i with
    | net=>rw [show g=w2.heap.size + 1 from hg]; omega
    | edges=>exact hn.new g ⟨.edges,by simp,hg⟩
    | spots=>exact hn.new g ⟨.spots,by simp,hg⟩
    | bag=>exact hn.new g ⟨.bag,by simp,hg⟩
    | pks=>exact hn.new g ⟨.pks,by simp,hg⟩
    | way=>exact (hw rfl).elim
    | spot i a=>exact hn.new g ⟨.spot i a,by simp,hg⟩
set_option maxRecDepth 100000 in
set_option maxHeartbeats 2000000 in
theorem opened_any (nodes:Int) (raw:List Int) (ra:Option Addr) (rc:Nat) (w:World) (hnb:-9223372036854775808≤nodes∧nodes≤9223372036854775807) (hraw:Raws w ra raw) (hrl:(raw.length:Int) < 35184372088832) :
    Calls Tryz.prog 20 #[.int .i64 nodes,.slice ra raw.length rc] w fun r w'=>∃ (N:Nt) (a:Option Addr) (c:Nat),r=.returned (.tuple #[.pointer (some ⟨N.nb,0,none⟩),.int .i64 (gn nodes:Int),.slice a (ges nodes raw).length c])∧NtOk w' N 0∧N.abs=AN.fresh (gn nodes) (srt (ges nodes raw))∧Keep nil w w'∧(∀ k,N.Own k→w.heap.size≤k)∧Tre w w' (ges nodes raw) a c:=by
  have HG:Unit→_:=fun _=>graph_any nodes raw ra rc w hnb hraw hrl
  clear hnb hraw hrl
  have HC:Unit→Chk (gn nodes:Int) (ges nodes raw) 0:=fun _=>ges_chk nodes raw
  obtain ⟨es,hes⟩:∃ es,es=ges nodes raw:=⟨_,rfl⟩
  obtain ⟨n,hn⟩:∃ n,n=gn nodes:=⟨_,rfl⟩
  rw [← hes,← hn] at HG HC ⊢
  clear hes hn
  go_enter Tryz.func20,Tryz.ntmps20
  go_wp2_with fail
  refine Calls.mono (HG ()) ?_
  rintro r w1 ⟨a,c,rfl,ht,h0⟩
  have HE:Unit→∀ w',Keep nil w1 w'→ESl w' a es∧es.length≤c∧((a=none∧c=0)∨es≠[]):=fun _ w' k=>by
    have hr:=ht.row.keep k (fun _ _ e=>e)
    refine ⟨?_,hr.2.1,?_⟩
    · by_cases hl:0 < es.length
      · obtain ⟨g,o,h1,h2⟩:=rv_pos hr hl
        exact Or.inr ⟨g,o,h1,h2.lt,fun j u hu=>h2.cell j u hu⟩
      · exact Or.inl (List.eq_nil_of_length_eq_zero (by omega))
    · by_cases he:es=[]
      · exact Or.inl (h0 he)
      · exact Or.inr he
  have HT:Unit→Tre w w1 es a c:=fun _=>ht
  clear ht h0 HG
  go_wp2_with fail
  refine Calls.mono (by obtain ⟨q1,q2,q3⟩:=HE () w1 (Keep.refl nil _); exact arborNew_any n es a c w1 q1 q2 q3 (HC ())) ?_
  rintro r w2 ⟨N,rfl,h1,h2,h3,h4⟩
  have HN:Unit→NtOk w2 N 0∧N.abs=AN.fresh n (srt es)∧Keep nil w1 w2∧∀ k,N.Own k→w1.heap.size≤k:=fun _=>⟨h1,h2,h3,h4⟩
  obtain ⟨nb,hnb⟩:∃ nb,nb=N.nb:=⟨_,rfl⟩
  rw [← hnb]
  have HNB:Unit→nb=N.nb:=fun _=>hnb
  clear h1 h2 h3 h4 hnb
  go_wp2_with fail
  refine Calls.mono (by obtain ⟨q1,q2,q3⟩:=HE () w2 (HN ()).2.2.1; exact arborCheck_any n a es c w2 q1 q2) ?_
  rintro r w3 ⟨z,rfl,hz,hk⟩
  have hz0:z=0:=Chk.uniq hz (HC ())
  subst hz0
  have HK:Unit→Keep nil w2 w3:=fun _=>hk
  clear hz hk HE
  go_wp2
  refine bodyPost_ret (v:=.tuple #[.pointer (some ⟨nb,0,none⟩),.int .i64 (n:Int),.slice a es.length c]) (by simp [results,Tryz.results20,go_sem]) rfl ?_
  obtain ⟨h1,h2,h3,h4⟩:=HN ()
  have ht:=HT ()
  refine ⟨N,a,c,by rw [HNB ()],h1.keepN (HK ()),h2,(ht.keep.trans h3).trans (HK ()),fun k e=>Nat.le_trans ht.keep.size (h4 k e),(ht.keepN h3).keepN (HK ())⟩
end Go.Proofs.YtlfijfodklhplaaGreat
