import Derived.Test.YtlfijfodklhplaaGreatFd02
import Derived.Test.YtlfijfodklhplaaGreatFd24
import Derived.Test.YtlfijfodklhplaaGreatFd22
import Derived.Laws.BytesString
set_option linter.unusedVariables false
set_option linter.unusedSimpArgs false
namespace Go.Proofs.YtlfijfodklhplaaGreat
open Go.RowKit
end Go.Proofs.YtlfijfodklhplaaGreat
