import Derived.Test.YtlfijfodklhplaaGreatTn25
import Derived.Test.YtlfijfodklhplaaGreatTn33
import Derived.Deep.DeepCutAuto
import Derived.Deep.CutBlock
set_option linter.unusedVariables false
set_option linter.unusedSimpArgs false
namespace Go.Proofs.YtlfijfodklhplaaGreat
open Go.RowKit
end Go.Proofs.YtlfijfodklhplaaGreat
