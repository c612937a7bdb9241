/- Package rat: its own contracts, each said of fractions: all. Condition: as each says. -/
import Derived.Test.YtbebmknfecehnaaGreatRatPB
import Derived.Test.YtbebmknfecehnaaGreatRatPC
import Derived.Test.YtbebmknfecehnaaGreatRatPD
namespace Go.Proofs.YtbebmknfecehnaaGreat.rat
open Go.RowKit Go.Proofs.YtbebmknfecehnaaGreat.num Go.Proofs.YtbebmknfecehnaaGreat.mem Go.Proofs.YtbebmknfecehnaaGreat.nat Go.Proofs.YtbebmknfecehnaaGreat.txt Go.Proofs.YtbebmknfecehnaaGreat.str Go.Proofs.YtbebmknfecehnaaGreat.flow Go.Proofs.YtbebmknfecehnaaGreat.whl
set_option linter.unusedVariables false

end Go.Proofs.YtbebmknfecehnaaGreat.rat
