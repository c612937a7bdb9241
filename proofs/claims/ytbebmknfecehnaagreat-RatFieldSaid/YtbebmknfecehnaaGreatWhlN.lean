/- Texts with a sign ahead: strings.CutPrefix of "-", whole.Parse; the document's texts. Condition: as each says. -/
import Derived.Test.YtbebmknfecehnaaGreatWhlM
namespace Go.Proofs.YtbebmknfecehnaaGreat.whl
open Go.RowKit Go.Proofs.YtbebmknfecehnaaGreat.num Go.Proofs.YtbebmknfecehnaaGreat.mem Go.Proofs.YtbebmknfecehnaaGreat.nat Go.Proofs.YtbebmknfecehnaaGreat.txt Go.Proofs.YtbebmknfecehnaaGreat.str Go.Proofs.YtbebmknfecehnaaGreat.flow
set_option linter.unusedVariables false

/-- The text l is a sign (or none), and t. -/
def Cut (b : Bool) (l t : List UInt8) : Prop := (b = true ∧ l = 45 :: t) ∨ (b = false ∧ t = l ∧ l.head? ≠ some 45)
def RetCut (b : Bool) (t : List UInt8) (w : World) (e : Ending) (w' : World) : Prop := ∃ R, e = .returned (.tuple #[.string R, .bool b]) ∧ StrIs R t ∧ Below w.heap.size w w'
/-- A list of ints is kept while two cells of a variable without ints are written. -/
theorem off_set2 {w : World} {k : IntKind} {v : Value} {l : List Nat} {g : Nat} {e : TypeId} {cs : Array Value} (h : IsS w k v l) (hB : w.heap[g]? = some (.cells cs e (0, 0))) (hno : ∀ c ∈ cs, ∀ n, c ≠ .int k n) (x y : Value) :
    IsS ((w.setCell ⟨g, 0, none⟩ x).setCell ⟨g, 1, none⟩ y) k v l := by
  refine off h hB hno ?_
  have one : ∀ (w : World) (o : Nat) (v : Value), w.grownBy (w.setCell ⟨g, o, none⟩ v) (some g) := fun w o v => ⟨rfl, rfl, rfl, by simp [World.setCell], fun k _ hk => Below.heap_setCell w ⟨g, o, none⟩ v k (fun e => hk (by rw [e]))⟩
  exact grown_trans (one _ _ _) (one _ _ _)
/-- A whole number of a text, and an error's number. -/
def RetZP (b : Bool) (t : List UInt8) (w : World) (e : Ending) (w' : World) : Prop := ∃ x en, FromR 10 t x en ∧ ∃ v, e = .returned (.tuple #[v, .int .i64 en]) ∧ IsZ w' v (sg b x) ∧ Below w.heap.size w w'
end Go.Proofs.YtbebmknfecehnaaGreat.whl
