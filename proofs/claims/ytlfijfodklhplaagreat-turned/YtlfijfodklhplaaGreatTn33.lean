import Derived.Test.YtlfijfodklhplaaGreatTn32
import Derived.Test.YtlfijfodklhplaaGreatTn28
import Derived.Test.YtlfijfodklhplaaGreatTn23
set_option maxRecDepth 100000
set_option maxHeartbeats 2000000
set_option linter.unusedVariables false
set_option linter.unusedSimpArgs false
namespace Go.Proofs.YtlfijfodklhplaaGreat
open Go.RowKit
theorem arborNew_any(n:Nat)(es:List Ed)(sa:Option Addr)(cp:Nat)(w:World)(hsl:ESl w sa es)(hcp:es.length≤cp)(hnl:(sa=none∧cp=0)∨es≠[])(hck:Chk (n:Int) es 0):
 Calls Tryz.prog 14 #[.int .i64 (n:Int),.slice sa es.length cp] w fun r w'=>∃N:Nt,r=.returned (.tuple #[.pointer (some ⟨N.nb,0,none⟩),.int .i64 0])∧NtOk w' N 0∧N.abs=AN.fresh n (srt es)∧Keep nil w w'∧∀k,N.Own k→w.heap.size≤k:=by
 have H:Unit→Chk (n:Int) es 0:=fun _=>hck
 have HM:Unit→∀w1,Keep nil w w1→_:=fun _ w1 k1=>meshNew_any n es sa cp w1 (hsl.keep k1) hcp hnl hck
 clear hsl hcp hnl hck
 go_enter Tryz.func14,Tryz.ntmps14
 go_wp2_with fail
 refine Calls.mono (HM () w (Keep.refl nil w)) ?_
 rintro r w2 ⟨vb,ea,ec,sps,pa,pc,rfl,hn⟩
 have HN:Unit→Nwk w w2 n vb (srt es) ea ec sps pa pc:=fun _=>hn
 obtain⟨L,hL⟩:∃L,L=(srt es).length:=⟨_,rfl⟩
 obtain⟨k,hk⟩:∃k,k=sps.length:=⟨_,rfl⟩
 have HL:Unit→L=(srt es).length∧k=sps.length:=fun _=>⟨hL,hk⟩
 rw[←hL,←hk]
 clear hn hL hk HM
 go_wp2
 refine bodyPost_ret (v:=.tuple #[.pointer (some ⟨w2.heap.size+1,0,none⟩),.int .i64 0]) (by simp[results,Tryz.results14,go_sem]) rfl ?_
 obtain⟨e1,e2⟩:=HL ()
 have hn:=HN ()
 obtain⟨hs,h1,h10⟩:=srt_ses (H ())
 have k1:Keep nil w2 (w2.alloc (.cells #[.slice ea L ec,.slice pa k pc,.slice none 0 0] 87)):=(Keep.refl nil w2).alloc _
 have hR:=(hn.rep.keep k1 (fun _ _ e=>e)).rebox (nb:=w2.heap.size+1) (ty:=91) ((Keep.refl nil _).alloc (.cells #[.slice ea L ec,.slice pa k pc,.slice none 0 0] 91)) (by simp) (by
  have:=Blk.new' (w2.alloc (.cells #[.slice ea L ec,.slice pa k pc,.slice none 0 0] 87)) #[.slice ea L ec,.slice pa k pc,.slice none 0 0] 91 (w2.heap.size+1) (by simp)
  rw[e1,e2]at this⊢
  exact this)
 have hab:({ NwN vb (srt es) ea ec sps pa pc with nb:=w2.heap.size+1,ty:=91}:Nt).abs=AN.fresh n (srt es):=hn.abs
 refine⟨{ NwN vb (srt es) ea ec sps pa pc with nb:=w2.heap.size+1,ty:=91},rfl,⟨hR,by rw[hab];exact aok_fresh hs h10,by rw[hab];exact ast_fresh n _,by rw[hab];exact eok_fresh hs,?_⟩,hab,(hn.keep.alloc _).alloc _,?_⟩
 ·have:=hn.len
  show 0<sps.length
  omega
 ·rintro g ⟨i,hw,hg⟩
  have hz:=hn.keep.size
  cases i with
  |net=>rw[show g=w2.heap.size+1 from hg];omega
  |edges=>exact hn.new g ⟨.edges,by simp,hg⟩
  |spots=>exact hn.new g ⟨.spots,by simp,hg⟩
  |bag=>exact hn.new g ⟨.bag,by simp,hg⟩
  |pks=>exact hn.new g ⟨.pks,by simp,hg⟩
  |way=>exact(hw rfl).elim
  |spot i a=>exact hn.new g ⟨.spot i a,by simp,hg⟩
theorem same_yes(l:List Ed)(a b:Option Addr)(ca cb:Nat)(w:World)(ha:RV w 30 3 a l.length ca (ecells l))(hb:RV w 30 3 b l.length cb (ecells l))(hl:(l.length:Int)<1000000):
 Calls Tryz.prog 19 #[.slice a l.length ca,.slice b l.length cb] w fun r w'=>r=.returned (.bool true)∧Keep nil w w':=by
 have H:Unit→RV w 30 3 a l.length ca (ecells l)∧RV w 30 3 b l.length cb (ecells l):=fun _=>⟨ha,hb⟩
 clear ha hb
 go_enter Tryz.func19,Tryz.ntmps19
 go_wp2_with fail
 go_loopw [5] (fun v wr=>∃i:Nat,i≤l.length∧v=.int .i64 (i:Int)∧Keep nil w wr) (fun v _=>l.length - (intOf v).toNat)
 case atStart=>exact⟨0,by omega,rfl,by repeat (first|exact Keep.refl _ _|apply Keep.drew)⟩
 case round=>
  obtain⟨i,hi,rfl,hkw⟩:=hrel
  have HQ:Unit→Keep nil w wr∧i≤l.length:=fun _=>⟨hkw,hi⟩
  by_cases hil:i<l.length
  ·have HIL:Unit→i<l.length:=fun _=>hil
   have hiI:(i:Int)<(l.length:Int):=by omega
   have hi9:(i:Int)<1000000:=by omega
   obtain⟨e,he⟩:∃e,l[i]?=some e:=⟨_,List.getElem?_eq_getElem hil⟩
   obtain⟨g,q,hga,hgl,e0,e1,e2⟩:=edge_at ((H ()).1.keep hkw (fun _ _ e=>e)) he hil
   obtain⟨g',q',hga',hgl',d0,d1,d2⟩:=edge_at ((H ()).2.keep hkw (fun _ _ e=>e)) he hil
   rw[hga,hga']
   obtain⟨x,y,z⟩:=e
   simp only at e0 e1 e2 d0 d1 d2
   clear hi hil hkw he hga hga'
   go_wp2_with fail
   go_quiet (fail)
   have HK:Unit→Keep nil w (wr.drewN nq):=fun _=>(HQ ()).1.drewN nq
   clear e0 e1 e2 d0 d1 d2 hgl hgl'
   go_wp2
   exact⟨⟨i+1,by have:=HIL ();omega,by go_num,HK ()⟩,by have:=HIL ();simp[intOf];omega⟩
  ·have hiI:¬((i:Int)<(l.length:Int)):=by omega
   clear hi hil hkw
   go_wp2
   go_ret
   exact⟨rfl,(HQ ()).1⟩
end Go.Proofs.YtlfijfodklhplaaGreat
