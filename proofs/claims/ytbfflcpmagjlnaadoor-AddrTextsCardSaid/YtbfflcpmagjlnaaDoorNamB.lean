/- The document's Word. Condition: the text is of at most 1000000 bytes. -/
import Derived.Test.YtbfflcpmagjlnaaDoorNamA
namespace Go.Proofs.YtbfflcpmagjlnaaDoor.str
open Go.RowKit Go.Proofs.YtbfflcpmagjlnaaDoor.num Go.Proofs.YtbfflcpmagjlnaaDoor.mem Go.Proofs.YtbfflcpmagjlnaaDoor.txt
set_option linter.unusedVariables false
/-- The tests of a letter, as the walk asks them. -/
structure TestsL (cI : Int) (x : Bool) : Prop where
  yes : x = true → 97 ≤ cI ∧ cI ≤ 122
  no : x = false → ¬ (97 ≤ cI ∧ cI ≤ 122)
end Go.Proofs.YtbfflcpmagjlnaaDoor.str
