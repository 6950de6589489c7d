/- The laws' spoilWords: it writes into the list that it is given alone, and into memory of its own. -/
import Derived.Test.YtioaeijogjcghaaLay
set_option linter.unusedVariables false
set_option linter.unusedSimpArgs false
set_option linter.unnecessarySimpa false
namespace Go.Proofs.Ytioaeijogjcghaa
open Go.RowKit

end Go.Proofs.Ytioaeijogjcghaa
