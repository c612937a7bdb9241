/- A variable that a region makes, as a word of a flow. Condition: as it says. -/
import Derived.Test.YtbfflcpmagjlnaaDoorAdrU
import Derived.Test.YtbfflcpmagjlnaaDoorFlow
namespace Go.Proofs.YtbfflcpmagjlnaaDoor.adr
open Go.RowKit Go.Proofs.YtbfflcpmagjlnaaDoor.num Go.Proofs.YtbfflcpmagjlnaaDoor.mem Go.Proofs.YtbfflcpmagjlnaaDoor.flow
set_option linter.unusedVariables false
def pn18 (t : TypeId) (cs : Array Value) (B : Nat) : Pd := ⟨fun w v => ∃ g, v = .pointer (some ⟨g, 0, none⟩) ∧ B ≤ g ∧ w.heap[g]? = some (.cells cs t (0, 0)), fun {w w' v} h hb => by
  obtain ⟨g, e, h1, h2⟩ := h
  exact ⟨g, e, h1, (hb.block g (Array.getElem?_eq_some_iff.1 h2).1).trans h2⟩⟩
end Go.Proofs.YtbfflcpmagjlnaaDoor.adr
