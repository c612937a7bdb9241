/-
  No cell of these rows narrows 'for every input' (looked for: loops, veiled, ifaces, maps, wideKeys, modest, calm, conditions, laid).
  DERIVED. THE GIVEN ROWS OF THIS SEAT. 4 by the template 'for every input the law returns true; each argument reads behind the call as it read before'; 0 by the template 'total and deterministic' (their statements: YtcgmbmiingppgaaTotals.lean).
  GIVEN WITH THE SEED: the statements are not yours to turn. If you find one false, say at which input.
  Laid BY PROGRAM, IN A SANDBOX (cutbox-rows.mjs): the forced cells as the released guide's own fill.sh prints them over the translation 075c770da2c304d6… (all of the seat's roots in one cut). By AI agents, Wed Nov 11 2026. No macro, syntax, notation, axiom, sorry.
-/
import Derived.Test.YtcgmbmiingppgaaChecked
import GoSem.Claim
import GoSem.ClaimJoined
import GoSem.ClaimMapViews
import Derived.JoinedTies
import Derived.KernelRfl
namespace Go.Proofs.Ytcgmbmiingppgaa
/- THE CELL 'sum', in the pinned program and in every row, IS THE sha256 OF THE DUMP (.gsa) THAT YtcgmbmiingppgaaProg.lean LOADS. Nothing in Lean hashes anything: it is a label: what it is worth is what the hold of that sum in a sandbox is worth. -/
noncomputable def Try.pinned : Pinned := { name := "ytcgmbmiingppgaa", sum := "075c770da2c304d6974c3edbb3d6b30bd886461d9c238d9c93686731a44d52a3", checked := Try.checked }
namespace Rows
def none {H : Type} : Left H := { results := [], args := [] }

/-- 'triviumlaw04.DivideDivs': WHATEVER THE INPUT: true; the input reads as it did. -/
def divideDivsSpec : ChangeSpec := { name := "divideDivs", fn := fun _ => fun
  | [d1, d2] => { results := [.lit (.bool true)], args := [d1, d2] }
  | _ => none }
def divideDivsRow : OpenClaim := { program := "ytcgmbmiingppgaa", sum := "075c770da2c304d6974c3edbb3d6b30bd886461d9c238d9c93686731a44d52a3", func := "trivium/triviumlaw04.DivideDivs", spec := "divideDivs", recurses := true, apart := false }
def DivideDivsSaid : Prop := divideDivsRow.holds Try.pinned (OpenSpec.ofChange divideDivsSpec)

/-- ITS FALSE NEIGHBOUR: 'it returns false'. Refute it at one input. -/
def divideDivsWrong : ChangeSpec := { name := "divideDivs", fn := fun _ => fun
  | [d1, d2] => { results := [.lit (.bool false)], args := [d1, d2] }
  | _ => none }
def DivideDivsWrongFalsely : Prop := divideDivsRow.holds Try.pinned (OpenSpec.ofChange divideDivsWrong)

/-- 'triviumlaw04.DivideSmalls': WHATEVER THE INPUT: true; the input reads as it did. -/
def divideSmallsSpec : ChangeSpec := { name := "divideSmalls", fn := fun _ => fun
  | [d1, d2] => { results := [.lit (.bool true)], args := [d1, d2] }
  | _ => none }
def divideSmallsRow : OpenClaim := { program := "ytcgmbmiingppgaa", sum := "075c770da2c304d6974c3edbb3d6b30bd886461d9c238d9c93686731a44d52a3", func := "trivium/triviumlaw04.DivideSmalls", spec := "divideSmalls", recurses := true, apart := false }
def DivideSmallsSaid : Prop := divideSmallsRow.holds Try.pinned (OpenSpec.ofChange divideSmallsSpec)

/-- ITS FALSE NEIGHBOUR: 'it returns false'. Refute it at one input. -/
def divideSmallsWrong : ChangeSpec := { name := "divideSmalls", fn := fun _ => fun
  | [d1, d2] => { results := [.lit (.bool false)], args := [d1, d2] }
  | _ => none }
def DivideSmallsWrongFalsely : Prop := divideSmallsRow.holds Try.pinned (OpenSpec.ofChange divideSmallsWrong)

/-- 'triviumlaw04.DivideExacts': WHATEVER THE INPUT: true; the input reads as it did. -/
def divideExactsSpec : ChangeSpec := { name := "divideExacts", fn := fun _ => fun
  | [d1, d2] => { results := [.lit (.bool true)], args := [d1, d2] }
  | _ => none }
def divideExactsRow : OpenClaim := { program := "ytcgmbmiingppgaa", sum := "075c770da2c304d6974c3edbb3d6b30bd886461d9c238d9c93686731a44d52a3", func := "trivium/triviumlaw04.DivideExacts", spec := "divideExacts", recurses := true, apart := false }
def DivideExactsSaid : Prop := divideExactsRow.holds Try.pinned (OpenSpec.ofChange divideExactsSpec)

/-- ITS FALSE NEIGHBOUR: 'it returns false'. Refute it at one input. -/
def divideExactsWrong : ChangeSpec := { name := "divideExacts", fn := fun _ => fun
  | [d1, d2] => { results := [.lit (.bool false)], args := [d1, d2] }
  | _ => none }
def DivideExactsWrongFalsely : Prop := divideExactsRow.holds Try.pinned (OpenSpec.ofChange divideExactsWrong)

/-- 'triviumlaw04.DivideWhole': WHATEVER THE INPUT: true; the input reads as it did. -/
def divideWholeSpec : ChangeSpec := { name := "divideWhole", fn := fun _ => fun
  | [d1, d2] => { results := [.lit (.bool true)], args := [d1, d2] }
  | _ => none }
def divideWholeRow : OpenClaim := { program := "ytcgmbmiingppgaa", sum := "075c770da2c304d6974c3edbb3d6b30bd886461d9c238d9c93686731a44d52a3", func := "trivium/triviumlaw04.DivideWhole", spec := "divideWhole", recurses := true, apart := false }
def DivideWholeSaid : Prop := divideWholeRow.holds Try.pinned (OpenSpec.ofChange divideWholeSpec)

/-- ITS FALSE NEIGHBOUR: 'it returns false'. Refute it at one input. -/
def divideWholeWrong : ChangeSpec := { name := "divideWhole", fn := fun _ => fun
  | [d1, d2] => { results := [.lit (.bool false)], args := [d1, d2] }
  | _ => none }
def DivideWholeWrongFalsely : Prop := divideWholeRow.holds Try.pinned (OpenSpec.ofChange divideWholeWrong)

/- THE SECOND FORM. 'bulk': how many values and letters a reading holds, each counted each time it is reached (what is shared counts as often as it is met; a slice's spare places count too). A statement '..UptoSaid' is the law's where the arguments, and the package variables that the reading takes, are together of bulk at most 1048576: NARROWER than '..Said'. Prove '..Said' where nothing that the law and all that it calls make is longer than what came in: it says more and counts as full. Else prove '..UptoSaid'. A law counts once. -/
mutual
def uptoBulk {H : Type} : DataW H → Nat
  | .lit (.string bytes) => bytes.length + 1
  | .lit _ => 1
  | .nil => 1
  | .ptr d => uptoBulk d + 1
  | .slice elems spare => uptoBulkAll elems + uptoBulkAll spare + 1
  | .agg parts => uptoBulkAll parts + 1
  | .iface _ d => uptoBulk d + 1
  | .map entries => uptoBulkEntries entries + 1
  | .held _ => 1
def uptoBulkAll {H : Type} : List (DataW H) → Nat
  | [] => 0
  | d :: r => uptoBulk d + uptoBulkAll r
def uptoBulkEntries {H : Type} : List (Lit × DataW H) → Nat
  | [] => 0
  | x :: r => uptoBulkEntry x + uptoBulkEntries r
def uptoBulkEntry {H : Type} : Lit × DataW H → Nat
  | (.string bytes, d) => bytes.length + uptoBulk d + 1
  | (_, d) => uptoBulk d + 1
 end
def uptoSmall : (H : Type) → List (DataW H) → Bool := fun _ ds => decide (uptoBulkAll ds ≤ 1048576)
def OpenSpec.upto (s : _root_.Go.ChangeSpec) : _root_.Go.OpenSpec := { _root_.Go.OpenSpec.ofChange s with cond := some uptoSmall }

/-- 'triviumlaw04.DivideDivs', WHERE WHAT IT READS IS OF BULK AT MOST 1048576: true; the input reads as it did. -/
def divideDivsUptoRow : OpenClaim := { program := "ytcgmbmiingppgaa", sum := "075c770da2c304d6974c3edbb3d6b30bd886461d9c238d9c93686731a44d52a3", func := "trivium/triviumlaw04.DivideDivs", spec := "divideDivs", recurses := true, apart := false, narrowed := true }
def DivideDivsUptoSaid : Prop := divideDivsUptoRow.holds Try.pinned (OpenSpec.upto divideDivsSpec)

/-- 'triviumlaw04.DivideSmalls', WHERE WHAT IT READS IS OF BULK AT MOST 1048576: true; the input reads as it did. -/
def divideSmallsUptoRow : OpenClaim := { program := "ytcgmbmiingppgaa", sum := "075c770da2c304d6974c3edbb3d6b30bd886461d9c238d9c93686731a44d52a3", func := "trivium/triviumlaw04.DivideSmalls", spec := "divideSmalls", recurses := true, apart := false, narrowed := true }
def DivideSmallsUptoSaid : Prop := divideSmallsUptoRow.holds Try.pinned (OpenSpec.upto divideSmallsSpec)

/-- 'triviumlaw04.DivideExacts', WHERE WHAT IT READS IS OF BULK AT MOST 1048576: true; the input reads as it did. -/
def divideExactsUptoRow : OpenClaim := { program := "ytcgmbmiingppgaa", sum := "075c770da2c304d6974c3edbb3d6b30bd886461d9c238d9c93686731a44d52a3", func := "trivium/triviumlaw04.DivideExacts", spec := "divideExacts", recurses := true, apart := false, narrowed := true }
def DivideExactsUptoSaid : Prop := divideExactsUptoRow.holds Try.pinned (OpenSpec.upto divideExactsSpec)

/-- 'triviumlaw04.DivideWhole', WHERE WHAT IT READS IS OF BULK AT MOST 1048576: true; the input reads as it did. -/
def divideWholeUptoRow : OpenClaim := { program := "ytcgmbmiingppgaa", sum := "075c770da2c304d6974c3edbb3d6b30bd886461d9c238d9c93686731a44d52a3", func := "trivium/triviumlaw04.DivideWhole", spec := "divideWhole", recurses := true, apart := false, narrowed := true }
def DivideWholeUptoSaid : Prop := divideWholeUptoRow.holds Try.pinned (OpenSpec.upto divideWholeSpec)

end Rows
end Go.Proofs.Ytcgmbmiingppgaa
