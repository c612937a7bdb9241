/- Package rat: its own contracts, each said of fractions: Inv, Mul, Div. Condition: as each says. -/
import Derived.Test.YtbebmknfecehnaaRatP0
namespace Go.Proofs.Ytbebmknfecehnaa.rat
open Go.RowKit Go.Proofs.Ytbebmknfecehnaa.num Go.Proofs.Ytbebmknfecehnaa.mem Go.Proofs.Ytbebmknfecehnaa.nat Go.Proofs.Ytbebmknfecehnaa.txt Go.Proofs.Ytbebmknfecehnaa.str Go.Proofs.Ytbebmknfecehnaa.flow Go.Proofs.Ytbebmknfecehnaa.whl
set_option linter.unusedVariables false
end Go.Proofs.Ytbebmknfecehnaa.rat
