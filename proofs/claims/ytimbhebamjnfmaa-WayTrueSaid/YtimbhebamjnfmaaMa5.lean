/- Ported: Walk -/
import Derived.Test.YtimbhebamjnfmaaMa1
set_option linter.unusedVariables false
set_option linter.unusedSimpArgs false
set_option maxRecDepth 100000
namespace Go.Q
open Go.V
end Go.Q
