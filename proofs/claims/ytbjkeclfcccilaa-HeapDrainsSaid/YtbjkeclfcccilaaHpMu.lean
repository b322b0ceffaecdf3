/- A heap in memory: the least is taken one by one, while another is not ahead of it. -/
import Derived.Test.YtbjkeclfcccilaaHpM
import Derived.Test.YtbjkeclfcccilaaHpJ
import Derived.Shelf.Abstract
import Derived.LoopIn
import Derived.Deep.OwnRows
namespace Go.Proofs.Ytbjkeclfcccilaa.Hp
open Go.RowKit Go.Proofs.Ytbjkeclfcccilaa Go.Proofs.Ytbjkeclfcccilaa.Mut
set_option linter.unusedVariables false
set_option maxRecDepth 100000

end Go.Proofs.Ytbjkeclfcccilaa.Hp
