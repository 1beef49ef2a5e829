import Derived.Test.YtlfijfodklhplaaGreatSf30
import Derived.Test.YtlfijfodklhplaaGreatSf02
import Derived.Test.YtlfijfodklhplaaGreatSf28
import Derived.Laws.BytesString
set_option linter.unusedVariables false
set_option linter.unusedSimpArgs false
namespace Go.Proofs.YtlfijfodklhplaaGreat
open Go.RowKit
theorem st_wake (n:Nod):n.wake.state≠0:=by
  unfold Nod.wake
  split
  · split <;> simp [Nod.setSt,Nod.send]
  · assumption
def Awk (i:Nat) (A:AN):Prop:=∀ n,A.nods[i]?=some n→n.state≠0
theorem awk_modN {i:Nat} {A:AN} (h:Awk i A) (k:Nat) (f:Nod→Nod) (hf:∀ n:Nod,n.state≠0→(f n).state≠0):Awk i (A.modN k f):=by
  intro n hn
  rw [nods_modN] at hn
  obtain ⟨x,hx,rfl⟩:=modify_get hn
  split
  · exact hf x (h x hx)
  · exact h x hx
theorem awk_nods {i:Nat} {A A':AN} (h:Awk i A) (e:A'.nods=A.nods):Awk i A':=by unfold Awk; rw [e]; exact h
theorem awk_post {i:Nat} {A:AN} (h:Awk i A) (k:Nat):Awk i (A.post k):=by
  unfold AN.post
  exact awk_nods (awk_modN h k (fun n=>{ n with sent:=[] }) (fun n hn=>hn)) (nods_sends _ _ _)
theorem awk_woken (i:Nat) (A:AN):Awk i (A.wake i):=by
  refine awk_post (A:=A.modN i Nod.wake) ?_ i
  intro n hn
  rw [nods_modN] at hn
  obtain ⟨x,hx,rfl⟩:=modify_get hn
  rw [if_pos rfl]
  exact st_wake x
theorem NtOk.keepE {ex:Nat→Prop} {w w':World} {N:Nt} {B:Nat} (h:NtOk w N B) (k:Keep ex w w') (hn:∀ i,N.Own i→¬ ex i):NtOk w' N B:=⟨h.rep.keep k hn,h.ok,h.st,h.es,h.some_⟩
structure Tw (W0 w : World) (N M : Nt) (A C : AN) (B D : Nat) : Prop where
  keep:Keep nil W0 w
  x:NtOk w N B
  y:NtOk w M D
  xa:N.abs=A
  ya:M.abs=C
  part:∀ k,N.Own k→M.Own k→False
  newx:∀ k,N.Own k→W0.heap.size≤k
  newy:∀ k,M.Own k→W0.heap.size≤k
theorem Tw.keepE {ex:Nat→Prop} {W0 w w':World} {N M:Nt} {A C:AN} {B D:Nat} (h:Tw W0 w N M A C B D) (k:Keep ex w w') (hx:∀ i,N.Own i→¬ ex i) (hy:∀ i,M.Own i→¬ ex i) (h0:∀ i,ex i→W0.heap.size≤i):Tw W0 w' N M A C B D :=
  ⟨h.keep.trans' k (fun i hi e=>by have:=h0 i e; omega),h.x.keepE k hx,h.y.keepE k hy,h.xa,h.ya,h.part,h.newx,h.newy⟩
theorem Tw.keepN {W0 w w':World} {N M:Nt} {A C:AN} {B D:Nat} (h:Tw W0 w N M A C B D) (k:Keep nil w w'):Tw W0 w' N M A C B D:=h.keepE k (fun _ _ e=>e) (fun _ _ e=>e) (fun _ e=>e.elim)
theorem Tw.young {ex:Nat→Prop} {W0 w w1 w':World} {N M:Nt} {A C:AN} {B D:Nat} (h:Tw W0 w N M A C B D) (k1:Keep nil w w1) (k:Keep ex w1 w') (h0:∀ i,ex i→w.heap.size≤i):Tw W0 w' N M A C B D :=
  (h.keepN k1).keepE k (fun i hi e=>by have:=h.x.rep.Olt hi; have:=h0 i e; omega) (fun i hi e=>by have:=h.y.rep.Olt hi; have:=h0 i e; omega) (fun i e=>by have:=h0 i e; have:=h.keep.size; omega)
theorem Tw.left {W0 w w':World} {N M N':Nt} {A C:AN} {B D B':Nat} (h:Tw W0 w N M A C B D) (a:NtOk w' N' B') (t:NtTo w w' N N'):Tw W0 w' N' M N'.abs C B' D:=by
  have hm:∀ k,N'.Own k→M.Own k→False:=fun k e e2=>by
    rcases t.mine k e with x | x
    · exact h.part k x e2
    · have:=h.y.rep.Olt e2; omega
  refine ⟨h.keep.trans' t.keep (fun i hi e=>by have:=h.newx i e; omega),a,h.y.keepE t.keep (fun i hi e=>h.part i e hi),rfl,h.ya,hm,fun k e=>?_,h.newy⟩
  rcases t.mine k e with x | x
  · exact h.newx k x
  · have:=h.keep.size; omega
theorem Tw.right {W0 w w':World} {N M M':Nt} {A C:AN} {B D D':Nat} (h:Tw W0 w N M A C B D) (a:NtOk w' M' D') (t:NtTo w w' M M'):Tw W0 w' N M' A M'.abs B D':=by
  have hm:∀ k,N.Own k→M'.Own k→False:=fun k e2 e=>by
    rcases t.mine k e with x | x
    · exact h.part k e2 x
    · have:=h.x.rep.Olt e2; omega
  refine ⟨h.keep.trans' t.keep (fun i hi e=>by have:=h.newy i e; omega),h.x.keepE t.keep (fun i hi e=>h.part i hi e),a,h.xa,rfl,hm,h.newx,fun k e=>?_⟩
  rcases t.mine k e with x | x
  · exact h.newy k x
  · have:=h.keep.size; omega
end Go.Proofs.YtlfijfodklhplaaGreat
