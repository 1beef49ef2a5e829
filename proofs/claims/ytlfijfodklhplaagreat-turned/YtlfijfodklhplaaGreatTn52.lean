import Derived.Test.YtlfijfodklhplaaGreatTn35
import Derived.Test.YtlfijfodklhplaaGreatTn51
import Derived.Test.YtlfijfodklhplaaGreatRows
import Derived.ProofKit
import Derived.ChangeSlices
import Derived.SizedLaws
import Derived.Deep.Slices
set_option maxRecDepth 100000
set_option linter.unusedVariables false
set_option linter.unusedSimpArgs false
namespace Go.Proofs.YtlfijfodklhplaaGreat
open Go.ChangeShapes Go.WideShapes Go.ChangeAt Go.RowKit Go.Deep
theorem turned_lifted(os:Os)(started:os.Started)(H:Type)(enc:TypeId×Value→H):
 ReturnsInHanded {} Tryz.checked os 5 .any (Rows.turnedSpec.pre6 enc Tryz.prog Tryz.f5 Rows.turnedRow.domain false) (Rows.turnedSpec.post enc Tryz.prog Tryz.f5 false true false false):=by
 refine returnsInHanded_of_change_sized (C:=Tryz.checked) alk_own started (by kernel_rfl) Tryz.func5
  (ChangeSpec.witness6 (enc:=enc) (C:=Tryz.checked) false ⟨#[],#[.int .i64 0,.slice none 0 0,.slice none 0 0,.int .i64 0],[]⟩ 8 (by kernel_rfl) (by kernel_rfl) (by kernel_rfl) (by kernel_rfl)) ?_
 intro W base args ds gs before hval0 hW hcnd0 hsz _
 have hval:∀(j:Nat) t v,Tryz.f5.params[j]?=some t→args[j]?=some v→Value.okWide Tryz.prog W .any base t v:=hval0
 have hW':=hW
 obtain⟨p,q,hA0,hV,rfl,_,_⟩:=hW
 have hA:DataW.TrodAll enc Tryz.prog W 0 (fun _=>true) true Tryz.f5.params.toList args.toList ds p:=hA0
 rw[Tryz.params5]at hA hval
 obtain⟨v0,v1,v2,v3,d0,d1,d2,d3,p0,p1,p2,p3,rfl,rfl,rfl,h0,h1,h2,h3⟩:=trodAll_four hA
 obtain⟨rfl,rfl⟩:=trodVars_none hV
 have h0k:=h0
 have h1k:=h1
 have h2k:=h2
 have h3k:=h3
 obtain⟨f0,hf0⟩:=h0
 obtain⟨f1,hf1⟩:=h1
 obtain⟨f2,hf2⟩:=h2
 obtain⟨f3,hf3⟩:=h3
 have hwt:∀x∈d1.weights Tryz.prog 25,x≤reachBytes:=fun x hx=>by
  have h1:(DataW.weightsEach Tryz.prog (Tryz.f5.params.toList++Rows.turnedSpec.plain.varTypes Tryz.prog) ([d0,d1,d2,d3]++[])).all (·≤reachBytes)=true:=hsz
  rw[Tryz.params5]at h1
  have h2:=List.all_eq_true.1 h1 x (DataW.weights_mem_each (j:=1) rfl rfl x hx)
  simpa using h2
 have hwt2:∀x∈d2.weights Tryz.prog 25,x≤reachBytes:=fun x hx=>by
  have h1:(DataW.weightsEach Tryz.prog (Tryz.f5.params.toList++Rows.turnedSpec.plain.varTypes Tryz.prog) ([d0,d1,d2,d3]++[])).all (·≤reachBytes)=true:=hsz
  rw[Tryz.params5]at h1
  have h2:=List.all_eq_true.1 h1 x (DataW.weights_mem_each (j:=2) rfl rfl x hx)
  simpa using h2
 clear hA0 hval0
 simp only[List.append_nil]at hW'
 have hlt:∀x∈p0++p1++p2++p3,x.block<W.heap.size:=fun x hx=>by simpa using hW'.lt x (by simpa using hx)
 obtain⟨z,rfl⟩:=okWide_int Tryz.underlying3 (hval 0 3 v0 rfl rfl)
 obtain⟨sa,n,cp,rfl⟩:=okWide_slice Tryz.underlying25 (hval 1 25 v1 rfl rfl)
 obtain⟨sb,m,cq,rfl⟩:=okWide_slice Tryz.underlying25 (hval 2 25 v2 rfl rfl)
 obtain⟨y,rfl⟩:=okWide_int Tryz.underlying3 (hval 3 3 v3 rfl rfl)
 have hyb:-9223372036854775808≤y∧y≤9223372036854775807:=by
  obtain⟨x,e,_,b⟩:=DataW.trod_int Tryz.underlying3 hf3
  have e2:[Value.int .i64 y]=[Value.int .i64 x]:=e
  simp at e2
  subst e2
  exact alk_bounds b
 have hzb:-9223372036854775808≤z∧z≤9223372036854775807:=by
  obtain⟨y,e,_,b⟩:=DataW.trod_int Tryz.underlying3 hf0
  have e2:[Value.int .i64 z]=[Value.int .i64 y]:=e
  simp at e2
  subst e2
  exact alk_bounds b
 obtain⟨raw,rfl,hraw,hrl⟩:=raws_of hf1 hwt
 obtain⟨odd,rfl,hodd,hol⟩:=raws_of hf2 hwt2
 refine(turned_walk z raw sa cp odd sb cq y W hzb hraw hrl hodd hyb).mono fun e W' ⟨he,hk⟩=>?_
 subst he
 have b0:∀x∈p0,x.block<W.heap.size:=fun x hx=>hlt x (by simp[hx])
 have b1:∀x∈p1,x.block<W.heap.size:=fun x hx=>hlt x (by simp[hx])
 have b3:∀x∈p3,x.block<W.heap.size:=fun x hx=>hlt x (by simp[hx])
 have b2:∀x∈p2,x.block<W.heap.size:=fun x hx=>hlt x (by simp[hx])
 exact⟨_,rfl,⟨_,_,_,[],_,[],hW',trodAll_mk1 (shut_bool Tryz.underlying4 true),trodAll_mk4 (Below.trod alk_laid (by kernel_rfl) (of_decide_eq_true (by kernel_rfl)) h0k hk.below b0) (Below.trod alk_laid (by kernel_rfl) (of_decide_eq_true (by kernel_rfl)) h1k hk.below b1) (Below.trod alk_laid (by kernel_rfl) (of_decide_eq_true (by kernel_rfl)) h2k hk.below b2) (Below.trod alk_laid (by kernel_rfl) (of_decide_eq_true (by kernel_rfl)) h3k hk.below b3),rfl,hk.below.frame _,fun h=>by cases h⟩⟩
theorem turned_over:Rows.turnedRow.holds Tryz.pinned (OpenSpec.ofChange Rows.turnedSpec):=
 OpenClaim.holds_of_wide 5 Tryz.f5 rfl rfl rfl rfl rfl rfl rfl ⟨rfl,rfl,rfl,rfl,rfl⟩ rfl rfl rfl rfl rfl (by kernel_rfl) Tryz.func5 (by kernel_rfl)
  (of_decide_eq_true (by kernel_rfl)) (by unfold Func.isWrapper;first|(rw[if_pos (by decide+kernel)];kernel_rfl)|(rw[if_neg (by decide+kernel)];exact⟨rfl,rfl⟩))
  (fun os started H enc _=>turned_lifted os started H enc)
theorem turned_holds:Rows.TurnedSaid:=
 turned_over
#print axioms turned_holds
end Go.Proofs.YtlfijfodklhplaaGreat
