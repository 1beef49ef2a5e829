import Derived.Test.YtlfijfodklhplaaGreatAl10
set_option maxRecDepth 100000
set_option maxHeartbeats 8000000
set_option linter.all false
open Go.RowKit Go.Proofs.Tryz
open Go.Value renaming bool->B
open Go.IntKind renaming i64->J
namespace Go.Proofs.YtlfijfodklhplaaGreat
def RJ(k c d e)(j:k=5\/k=6\/k=7)(h):
 Cr 125 #[.agg #[.int J k,.int J c,.int J d,B e]] h (B (bJ k c d e)) λl=>ae aa h l:=by
 have m:=Hb k c d e (by omega);obtain rfl|rfl|rfl:=j;all_goals
  obtain⟨f,a⟩|⟨f,a⟩|⟨r,f,n,a⟩|⟨f,n,s,⟨b,a⟩|⟨b,a⟩|⟨b,i,o,p,g,a⟩|⟨b,i,a⟩|⟨b,i,o,p,⟨g,a⟩|⟨g,q,a⟩|⟨g,q,a⟩⟩⟩:=m;all_goals first
   |(exfalso;omega)
   |(go_enter func125,ntmps125;go_wp2;go_ret;exact⟨pG a.out.symm,(ae.a _ _).b _⟩)
end Go.Proofs.YtlfijfodklhplaaGreat
