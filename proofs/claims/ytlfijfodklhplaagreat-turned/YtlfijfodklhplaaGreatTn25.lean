import Derived.Test.YtlfijfodklhplaaGreatTn02
import Derived.Test.YtlfijfodklhplaaGreatTn24
import Derived.Test.YtlfijfodklhplaaGreatTn22
import Derived.Laws.BytesString
set_option linter.unusedVariables false
set_option linter.unusedSimpArgs false
namespace Go.Proofs.YtlfijfodklhplaaGreat
open Go.RowKit
end Go.Proofs.YtlfijfodklhplaaGreat
