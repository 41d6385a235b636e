/- The statements' own numbers and sectors. -/
import Derived.Test.YtbhaifdhmfmeoaaRsmall
import Derived.Test.YtbhaifdhmfmeoaaSown
import Derived.Deep.Upon
namespace Go.Proofs.Ytbhaifdhmfmeoaa
set_option linter.unusedSimpArgs false
set_option linter.unusedVariables false
open Go.RowKit




end Go.Proofs.Ytbhaifdhmfmeoaa
