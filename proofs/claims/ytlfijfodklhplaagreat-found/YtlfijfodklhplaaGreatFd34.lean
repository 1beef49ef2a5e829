import Derived.Test.YtlfijfodklhplaaGreatFd25
import Derived.Test.YtlfijfodklhplaaGreatFd33
import Derived.Deep.DeepCutAuto
import Derived.Deep.CutBlock
set_option linter.unusedVariables false
set_option linter.unusedSimpArgs false
namespace Go.Proofs.YtlfijfodklhplaaGreat
open Go.RowKit
def Stps(W:World)(sa:Option Addr)(l:List Stp):Prop:=∀(i:Nat) (s:Stp),l[i]?=some s→s.ok∧∃bb bo,sa=some ⟨bb,bo,none⟩∧bb<W.heap.size∧W.cell? ⟨bb,bo+i * 3,none⟩=some (.int .i64 s.kind)∧W.cell? ⟨bb,bo+i * 3+1,none⟩=some (.int .i64 s.a)∧W.cell? ⟨bb,bo+i * 3+2,none⟩=some (.int .i64 s.b)
theorem Stps.keep{W W':World}{sa:Option Addr}{l:List Stp}(h:Stps W sa l)(k:Keep nil W W'):Stps W' sa l:=fun i s hi=>by
 obtain⟨h1,bb,bo,h2,h3,h4,h5,h6⟩:=h i s hi
 exact⟨h1,bb,bo,h2,Nat.lt_of_lt_of_le h3 k.size,(k.cell bb _ h3 id).trans h4,(k.cell bb _ h3 id).trans h5,(k.cell bb _ h3 id).trans h6⟩
theorem abs_sps{N:Nt}{A:AN}(h:N.abs=A):N.sps.length=A.sps.length:=by rw[←h];simp[Nt.abs]
end Go.Proofs.YtlfijfodklhplaaGreat
