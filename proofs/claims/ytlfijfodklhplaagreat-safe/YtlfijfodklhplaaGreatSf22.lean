import Derived.Test.YtlfijfodklhplaaGreatSf20
set_option linter.unusedVariables false
set_option linter.unusedSimpArgs false
namespace Go.Proofs.YtlfijfodklhplaaGreat
open Go.RowKit
def Pl.new:Pl:=⟨none,0,none,0,[]⟩
abbrev zero24:Array Value:=#[.int .i64 0,.slice none 0 0,.int .i64 0,.int .i64 0,.int .i64 0,.int .i64 0,.bool false,.bool false,.int .i64 0,.int .i64 0,.int .i64 0,.bool false,.bool false,.int .i64 0,.int .i64 0,.int .i64 0,.bool false,.bool false,.int .i64 0,.int .i64 0,.int .i64 0,.bool false,.bool false,.slice none 0 0]
theorem cells_new:En.new.cells Pl.new=zero24.toList:=rfl
end Go.Proofs.YtlfijfodklhplaaGreat
