/- Structs within structs: a part of a variable loaded, a struct of a struct and a slice built. No program stands here. -/
import Derived.Test.YtbebmknfecehnaaGreatRatA
import Derived.Test.YtbebmknfecehnaaGreatWhlD
namespace Go.Proofs.YtbebmknfecehnaaGreat.flow
open Go.RowKit Go.Proofs.YtbebmknfecehnaaGreat.num Go.Proofs.YtbebmknfecehnaaGreat.mem
set_option linter.unusedVariables false
section
variable {P : Program}
theorem run_loadPart {t : TypeId} {g off : Nat} {cs es : List Value} {e : TypeId} {d : TypeDesc} {w : World} (hu : P.underlying t = some d) (hd : d.isRow = true) (hi : (P.info? t).map (·.size) = some cs.length) (hB : w.heap[g]? = some (.cells es.toArray e (0, 0))) (hsub : (es.drop off).take cs.length = cs) : (Instr.loadAt t (.pointer (some ⟨g, off, none⟩))).run P w = .ok (.agg cs.toArray) w :=
  run_loadAt_mid w g off t cs d (fun j v hj => by
    rw [cell_of_row w g (off + j) es.toArray e (0, 0) hB]
    have hj2 : j < cs.length := (List.getElem?_eq_some_iff.1 hj).1
    have h := congrArg (·[j]?) hsub
    simp only [List.getElem?_take_of_lt hj2, List.getElem?_drop] at h
    rw [hj] at h
    simpa using h) hu hd hi
end
section
variable {P : Program} {Q : Exit → Act → World → Prop} {ops : Array Oper} {L : List Oper} {Φ : List Pd} {w0 : World} {a0 : Act} {i : Nat} {o : Oper}
theorem ob_build1b {t : TypeId} {k : Nat} {x : Operand} {F : World → Value → Prop} (hop : o.op = .build t #[(k, x)]) (hw : Wt ops L Φ w0 a0 o true) (hx : Ev L Φ w0 a0 o x F)
    (hr : ∀ w u, Below w0.heap.size w0 w → F w u → ∃ v, (Instr.build t #[(k, u)]).run P w = .ok v w ∧ (ph Φ i).p w v) : Ob P Q ops L Φ w0 a0 i o :=
  ob_val hw (by unfold isA; rw [hop]) fun ms w hS => by
    obtain ⟨v, h1, h2⟩ := hr w _ hS.below (hx ms w hS)
    exact ⟨v, by unfold execOp; simp only [hop, Sem.run_bind, List.map_toArray, List.map_cons, List.map_nil, h1]; rfl, h2⟩
end
theorem one3 {x y z : Value} (hx : x.oneCell' = true) (hy : y.oneCell' = true) (hz : z.oneCell' = true) : ∀ c ∈ [x, y, z], c.oneCell' = true := by
  intro c hc
  rcases List.mem_cons.1 hc with rfl | hc
  · exact hx
  · exact one2 hy hz c hc
theorem no_ints3 {k : IntKind} {b : Bool} {A D : Option Addr} {n m i j : Nat} : ∀ c ∈ (#[.bool b, .slice A n m, .slice D i j] : Array Value), ∀ i, c ≠ .int k i := by
  intro c hc i
  simp at hc
  rcases hc with rfl | rfl | rfl <;> simp
end Go.Proofs.YtbebmknfecehnaaGreat.flow
namespace Go.Proofs.YtbebmknfecehnaaGreat.rat
open Go.RowKit Go.Proofs.YtbebmknfecehnaaGreat.num Go.Proofs.YtbebmknfecehnaaGreat.mem Go.Proofs.YtbebmknfecehnaaGreat.nat Go.Proofs.YtbebmknfecehnaaGreat.txt Go.Proofs.YtbebmknfecehnaaGreat.str Go.Proofs.YtbebmknfecehnaaGreat.flow Go.Proofs.YtbebmknfecehnaaGreat.whl
set_option linter.unusedVariables false
theorem three {w : World} {g : Nat} {t : TypeId} {x y z : Value} (h : Blk w g t #[x, y, z]) : w.cell? ⟨g, 0, none⟩ = some x ∧ w.cell? ⟨g, 1, none⟩ = some y ∧ w.cell? ⟨g, 2, none⟩ = some z ∧ w.frozen? ⟨g, 0, none⟩ = false ∧ w.frozen? ⟨g, 1, none⟩ = false ∧ w.frozen? ⟨g, 2, none⟩ = false :=
  ⟨h.cell 0, h.cell 1, h.cell 2, h.frozen 0, h.frozen 1, h.frozen 2⟩
theorem FreshQ.mono {B B' : Nat} {v : Value} (h : FreshQ B v) (hb : B' ≤ B) : FreshQ B' v := fun n u t e => ⟨(h n u t e).1.mono hb, (h n u t e).2.mono hb⟩
theorem freshQ_mk {B : Nat} {b : Bool} {u t : Value} (h : Fresh B u) (k : Fresh B t) : FreshQ B (.agg #[.bool b, u, t]) := by
  intro n u' t' e
  injection e with e
  have e := congrArg Array.toList e
  simp at e
  obtain ⟨_, rfl, rfl⟩ := e
  exact ⟨h, k⟩
/-- The call's answer is this fraction, in new memory. -/
def RetQ (q : Rat) (w : World) (e : Ending) (w' : World) : Prop := ∃ v, e = .returned v ∧ IsQ w' v q ∧ FreshQ w.heap.size v ∧ Below w.heap.size w w'
/-- The document's own fraction. -/
def RetP (q : Rat) (w : World) (e : Ending) (w' : World) : Prop := ∃ v, e = .returned v ∧ IsP w' v q ∧ Below w.heap.size w w'
/-- In new memory. -/
def RetPF (q : Rat) (w : World) (e : Ending) (w' : World) : Prop := ∃ v, e = .returned v ∧ IsP w' v q ∧ FreshQ w.heap.size v ∧ Below w.heap.size w w'
/-- The call's answer is this fraction. -/
def RetQn (q : Rat) (w : World) (e : Ending) (w' : World) : Prop := ∃ v, e = .returned v ∧ IsQ w' v q ∧ Below w.heap.size w w'
/-- This fraction, and an error's number. -/
def RetQE (q : Rat) (n : Int) (w : World) (e : Ending) (w' : World) : Prop := ∃ v, e = .returned (.tuple #[v, .int .i64 n]) ∧ IsQ w' v q ∧ Below w.heap.size w w'
/-- Nothing, and an error's number. -/
def RetQN (n : Int) (w : World) (e : Ending) (w' : World) : Prop := e = .returned (.tuple #[.agg #[.bool false, .slice none 0 0, .slice none 0 0], .int .i64 n]) ∧ Below w.heap.size w w'
def pqe (q : Rat) (n : Int) : Pd := ⟨fun w t => ∃ v, t = .tuple #[v, .int .i64 n] ∧ IsQ w v q, fun h hb => by obtain ⟨v, e, h1⟩ := h; exact ⟨v, e, h1.below hb⟩⟩
def pq (q : Rat) (B : Nat) : Pd := ⟨fun w v => IsQ w v q ∧ FreshQ B v, fun h hb => ⟨h.1.below hb, h.2⟩⟩
def pqn (q : Rat) : Pd := ⟨fun w v => IsQ w v q, fun h hb => h.below hb⟩
def pp (q : Rat) : Pd := ⟨fun w v => IsP w v q, fun h hb => h.below hb⟩
def ppf (q : Rat) (B : Nat) : Pd := ⟨fun w v => IsP w v q ∧ FreshQ B v, fun h hb => ⟨h.1.below hb, h.2⟩⟩
theorem RetQ.pd {q : Rat} {w : World} {e : Ending} {w' : World} {B : Nat} (h : RetQ q w e w') (hB : B ≤ w.heap.size) : RetPd (pq q B) w e w' := by
  obtain ⟨v, h1, h2, h3, h4⟩ := h
  exact ⟨v, h1, ⟨h2, h3.mono hB⟩, h4⟩
theorem RetQn.pd {q : Rat} {w : World} {e : Ending} {w' : World} (h : RetQn q w e w') : RetPd (pqn q) w e w' := h
theorem RetQ.n {q : Rat} {w : World} {e : Ending} {w' : World} (h : RetQ q w e w') : RetQn q w e w' := by
  obtain ⟨v, h1, h2, _, h4⟩ := h
  exact ⟨v, h1, h2, h4⟩
theorem RetQE.pd {q : Rat} {n : Int} {w : World} {e : Ending} {w' : World} (h : RetQE q n w e w') : RetPd (pqe q n) w e w' := by
  obtain ⟨v, h1, h2, h3⟩ := h
  exact ⟨_, h1, ⟨v, rfl, h2⟩, h3⟩
theorem RetQN.pd {n : Int} {w : World} {e : Ending} {w' : World} (h : RetQN n w e w') : RetPd (Pd.eq (.tuple #[.agg #[.bool false, .slice none 0 0, .slice none 0 0], .int .i64 n])) w e w' := ⟨_, h.1, rfl, h.2⟩
theorem RetP.pd {q : Rat} {w : World} {e : Ending} {w' : World} (h : RetP q w e w') : RetPd (pp q) w e w' := h
theorem RetPF.pd {q : Rat} {w : World} {e : Ending} {w' : World} (h : RetPF q w e w') : RetPd (pp q) w e w' := by
  obtain ⟨v, h1, h2, h3, h4⟩ := h
  exact ⟨v, h1, h2, h4⟩
theorem RetPF.pdf {q : Rat} {w : World} {e : Ending} {w' : World} {B : Nat} (h : RetPF q w e w') (hB : B ≤ w.heap.size) : RetPd (ppf q B) w e w' := by
  obtain ⟨v, h1, h2, h3, h4⟩ := h
  exact ⟨v, h1, ⟨h2, h3.mono hB⟩, h4⟩
theorem endQ {w w2 : World} {u t x y z : Value} {q : Rat} {g B : Nat} (hb : Below w.heap.size w w2) (hg : w.heap.size ≤ g) (hgB : g < B) (hu : IsS w2 .u64 u (digs 4294967296 q.num.natAbs)) (ht : IsS w2 .u64 t (digs 4294967296 q.den)) (hf : FreshQ B (.agg #[.bool (ngB q.num), u, t])) :
    RetQ q w (.returned (.agg #[.bool (ngB q.num), u, t])) (((w2.setCell ⟨g, 0, none⟩ x).setCell ⟨g, 1, none⟩ y).setCell ⟨g, 2, none⟩ z) := by
  obtain ⟨f1, f2⟩ := hf _ _ _ rfl
  exact ⟨_, rfl, ⟨u, t, rfl, ((hu.setCell f1 hgB _).setCell f1 hgB _).setCell f1 hgB _, ((ht.setCell f2 hgB _).setCell f2 hgB _).setCell f2 hgB _⟩, hf.mono (by omega), ((hb.setCell hg _).setCell hg _).setCell hg _⟩
theorem RetZ.pi {z : Int} {w : World} {e : Ending} {w' : World} (h : RetZ z w e w') : RetPd (pi z) w e w' := by
  obtain ⟨v, h1, h2, _, h4⟩ := h
  exact ⟨v, h1, h2, h4⟩
end Go.Proofs.YtbebmknfecehnaaGreat.rat
