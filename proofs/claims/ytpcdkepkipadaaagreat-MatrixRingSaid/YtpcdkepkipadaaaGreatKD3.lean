/- What WholeMakes wants: an argument as a slice of whole numbers; a row of whole numbers that the call makes by append. Condition: as each says.
A region that draws its order, some of whose operations may come behind the first store (moves of what stands ahead, len, min): they are taken first, for they yield in whatever world. No program stands here.
A region that draws its order, a chain of whose operations may come behind the first store (len, min and a cut of what was loaded): when all others are up, the rest of the chain is taken, for it yields in whatever world. No program stands here.
Rows of texts that the call makes by append; a row's cell in a region that draws its order; one cell written in the text's order. Condition: as each says.
Rows of fractions (structs of a struct and a slice: three cells each): a slice that reads as fractions; a row of the call's own that grows by append; an element loaded. Condition: as each says.
An argument as a slice of fractions; its elements loaded. Condition: as each says.
Rows of fractions grown in a region that draws its order. Condition: as each says.
An append of one fraction to a row, in a region that draws its order: the new element's cells as an obligation of the flow, the append behind it. Condition: as each says.
Mathematics of the greatest common divisor, by what is left and by halving. No program stands here.
The document's greatest common divisor; the program's by what is left of divisions. Condition: slices read as numbers.
The program's greatest common divisor by halving and taking off. Condition: slices read as numbers.
The program's greatest common divisor by halving and taking off: the loop. Condition: slices read as numbers.
The program's greatest common divisor of many numbers, and whether two are coprime; the chapter's example. Condition: slices read as numbers.
The chapter's example of the greatest common divisor.
The document's own fractions: Low. Condition: as each says.
The document's own Clean of fractions. Condition: as it says.
The document's sum of two whole numbers lies in new memory. Condition: sizes are within bounds.
The document's Of of a whole number and of a fraction: the answer lies in new memory. Condition: sizes are within bounds.
What RatMakes wants: a slice cut short, the least of two lengths. No program stands here.
Fractions: what the program reckons (sums over what the lower parts have in common, products put into lowest terms crosswise, the order by products). Mathematics alone.
Package rat: its own contracts, each said of fractions: what its functions stand on, Neg, Sign. Condition: as each says.
few: two rows of fractions out of an argument. Condition: as it says.
The document's own folds of fractions: Sum, Product. Condition: as each says.
The document's own folds of fractions: Whole, Pow. Condition: as each says.
The document's Shares. Condition: as it says.
Folds of fractions: the least and the greatest one, shares are a whole, a mean lies between, sums one by one, sorting. Mathematics alone.
Elements of a row of fractions whose place is told.
Rows written out in a region: two fractions, two rows of fractions; as obligations of its flow. Condition: as each says.
An argument as a slice of ints. Condition: it can be read as data.
Rows of ints that the call makes by append.
A copy of ints that a region makes: an empty row, and an append to it.
The document's product of two rows of fractions. Condition: as it says.
Rows of fractions: sums, products with a row, where noughts and units begin. Mathematics alone.
Tables of fractions: products, what is turned, the table that changes nothing. Mathematics alone.
Few: two rows of fractions out of an argument. Condition: as it says.
Tables: rows of rows of fractions, as they come in, as a call makes them by append, or by make. Condition: as each says.
Package rat: its own contracts, each said of fractions: Inv, Mul, Div. Condition: as each says.
Package rat: its own contracts, each said of fractions: Add, Sub, Cmp. Condition: as each says.
Package rat: its own contracts, each said of fractions: Make, Of, Frac. Condition: as each says. -/
import Derived.Test.YtpcdkepkipadaaaGreatKD2
import Derived.Deep.Slices
import Derived.Deep.LoopGhost
namespace Go.Proofs.YtpcdkepkipadaaaGreat.whl
open Go.RowKit Go.ChangeShapes Go.WideShapes Go.ChangeAt Go.Joins Go.Deep Go.Proofs.YtpcdkepkipadaaaGreat.num Go.Proofs.YtpcdkepkipadaaaGreat.mem Go.Proofs.YtpcdkepkipadaaaGreat.nat Go.Proofs.YtpcdkepkipadaaaGreat.txt Go.Proofs.YtpcdkepkipadaaaGreat.str Go.Proofs.YtpcdkepkipadaaaGreat.flow
set_option linter.unusedVariables false
/-- A row's cells: a sign and a slice each. -/
def flat (ps : List (Int × Value)) : List Value := ps.flatMap fun p => [.bool (ngB p.1), p.2]
/-- A row of the call's own that holds these whole numbers. -/
def RowZ (w : World) (base : Nat) (v : Value) (ps : List (Int × Value)) : Prop := w.ownsRow base 34 2 v ps.length (flat ps)
theorem RowZ.below {w w' : World} {base : Nat} {v : Value} {ps : List (Int × Value)} (h : RowZ w base v ps) (hb : Below w.heap.size w w') : RowZ w' base v ps :=
  World.ownsRow.kept (row := none) h ⟨hb.os, hb.tape, hb.output, hb.size, fun i hi _ => hb.block i hi⟩ (by cases hv : v.ownBlock <;> simp)
theorem RowZ.other {w w' : World} {base : Nat} {v : Value} {ps : List (Int × Value)} {row : Option Nat} (h : RowZ w base v ps) (hg : w.grownBy w' row) (hne : ∀ g, v.ownBlock = some g → row ≠ some g) : RowZ w' base v ps :=
  World.ownsRow.kept (row := row) h hg (by
    cases hv : v.ownBlock with
    | none => exact .inl rfl
    | some g => exact .inr fun e => hne g hv e.symm)
theorem RowZ.under {w : World} {base : Nat} {v : Value} {ps : List (Int × Value)} (h : RowZ w base v ps) : ∀ g, v.ownBlock = some g → g < w.heap.size := fun g hg => (World.ownsRow.lt h g hg).2
theorem RowZ.base_le {w : World} {base : Nat} {v : Value} {ps : List (Int × Value)} (h : RowZ w base v ps) : ∀ g, v.ownBlock = some g → base ≤ g := fun g hg => (World.ownsRow.lt h g hg).1
/-- Whole numbers in a row that lie elsewhere than the row itself. -/
def FarZ (w : World) (v : Value) (ps : List (Int × Value)) : Prop := ∀ p ∈ ps, IsS w .u64 p.2 (digs 4294967296 p.1.natAbs) ∧ Far v p.2
theorem FarZ.below {w w' : World} {v : Value} {ps : List (Int × Value)} (h : FarZ w v ps) (hb : Below w.heap.size w w') : FarZ w' v ps := fun p hp => ⟨(h p hp).1.below hb, (h p hp).2⟩
theorem FarZ.snoc {w w' : World} {v v' u : Value} {z : Int} {ps : List (Int × Value)} (h : FarZ w v ps) (hk : Keeps w w' v v') (hu : IsS w .u64 u (digs 4294967296 z.natAbs)) (hf : Far v u) : FarZ w' v' (ps ++ [(z, u)]) := by
  intro p hp
  rcases List.mem_append.1 hp with hp | hp
  · exact hk _ _ _ (h p hp).1 (h p hp).2
  · obtain rfl := List.mem_singleton.1 hp
    exact hk _ _ _ hu hf
theorem FarZ.off {w w' : World} {v : Value} {ps : List (Int × Value)} {g : Nat} {e : TypeId} {cs : Array Value} (h : FarZ w v ps) (hB : w.heap[g]? = some (.cells cs e (0, 0))) (hno : ∀ k, ∀ c ∈ cs, ∀ n, c ≠ .int k n) (hg : w.grownBy w' (some g)) : FarZ w' v ps := fun p hp => ⟨Go.Proofs.YtpcdkepkipadaaaGreat.flow.off (h p hp).1 hB (hno _) hg, (h p hp).2⟩
theorem Blk.other {w w' : World} {g : Nat} {t : TypeId} {cs : Array Value} {row : Option Nat} (h : Blk w g t cs) (hg : w.grownBy w' row) (hne : row ≠ some g) : Blk w' g t cs := (hg.block g h.lt (fun e => hne e.symm)).trans h
theorem IsVZ.drew {w : World} {v : Value} {ps : List (Int × Value)} (h : IsVZ w v ps) : IsVZ w.drew v ps := h
theorem NumsZ.drew {w : World} {ps : List (Int × Value)} (h : NumsZ w ps) : NumsZ w.drew ps := fun p hp => (h p hp).drew
theorem dig32 {x : Nat} (h : x ≤ 9223372036854775808) : (digs 4294967296 x).length ≤ 2 := digs_len_le (by omega) (Nat.lt_of_le_of_lt h (by decide))
end Go.Proofs.YtpcdkepkipadaaaGreat.whl
namespace Go.Proofs.YtpcdkepkipadaaaGreat.flow
open Go.RowKit Go.Proofs.YtpcdkepkipadaaaGreat.num Go.Proofs.YtpcdkepkipadaaaGreat.mem
set_option linter.unusedVariables false
/-- Each yields a value as told, in whatever world. -/
def Lates (P : Program) (ops : Array Oper) (L : List Oper) (Φ : List Pd) (w0 : World) (a0 : Act) : List Nat → Prop
  | [] => True
  | q :: qs => (∃ oq, L[q]? = some oq ∧ ∀ ms w1, St L Φ w0 oq ms w1 → ∃ v, Yields P ops oq v (putM a0 L ms) ∧ (ph Φ q).p w1 v) ∧ Lates P ops L Φ w0 a0 qs
section
variable {P : Program} {ops : Array Oper} {L : List Oper} {Φ : List Pd} {w0 : World} {a0 : Act} {o : Oper} {G : Pd}
end
theorem Lates.at_ {P : Program} {ops : Array Oper} {L : List Oper} {Φ : List Pd} {w0 : World} {a0 : Act} : ∀ (pre : List Nat) (q : Nat) (rest : List Nat), Lates P ops L Φ w0 a0 (pre ++ q :: rest) → ∃ oq, L[q]? = some oq ∧ ∀ ms w1, St L Φ w0 oq ms w1 → ∃ v, Yields P ops oq v (putM a0 L ms) ∧ (ph Φ q).p w1 v
  | [], q, rest, h => h.1
  | a :: pre, q, rest, h => Lates.at_ pre q rest h.2
section
variable {P : Program} {Q : Exit → Act → World → Prop} {ops : Array Oper} {o : Oper}
theorem ob_field {L : List Oper} {Φ : List Pd} {w0 : World} {a0 : Act} {i : Nat} {t : TypeId} {x : Operand} {k : Nat} {F : World → Value → Prop} (hop : o.op = .field t x k) (hw : Wt ops L Φ w0 a0 o true) (hx : Ev L Φ w0 a0 o x F) (hr : ∀ w u, F w u → ∃ v, (Instr.field t u k).run P w = .ok v w ∧ (ph Φ i).p w v) : Ob P Q ops L Φ w0 a0 i o :=
  ob_val hw (by unfold isA; rw [hop]) fun ms w hS => by
    obtain ⟨v, h1, h2⟩ := hr w _ (hx ms w hS)
    exact ⟨v, by unfold execOp; simp only [hop, Sem.run_bind, h1]; rfl, h2⟩
end
end Go.Proofs.YtpcdkepkipadaaaGreat.flow
namespace Go.Proofs.YtpcdkepkipadaaaGreat.flow
open Go.RowKit Go.Proofs.YtpcdkepkipadaaaGreat.num Go.Proofs.YtpcdkepkipadaaaGreat.mem Go.Proofs.YtpcdkepkipadaaaGreat.nat Go.Proofs.YtpcdkepkipadaaaGreat.txt Go.Proofs.YtpcdkepkipadaaaGreat.str
set_option linter.unusedVariables false
section
variable {P : Program} {Q : Exit → Act → World → Prop} {ops : Array Oper} {o : Oper}
end
section
variable {P : Program} {Q : Exit → Act → World → Prop} {ops : Array Oper} {L : List Oper} {Φ : List Pd} {w0 : World} {a0 : Act} {i : Nat} {o : Oper}
theorem ob_indexAddr {t : TypeId} {x y : Operand} {F G : World → Value → Prop} (hop : o.op = .indexAddr t x y) (hw : Wt ops L Φ w0 a0 o true) (hx : Ev L Φ w0 a0 o x F) (hy : Ev L Φ w0 a0 o y G)
    (hr : ∀ w u v, F w u → G w v → ∃ r, (Instr.indexAt t u v).run P w = .ok r w ∧ (ph Φ i).p w r) : Ob P Q ops L Φ w0 a0 i o :=
  ob_val hw (by unfold isA; rw [hop]) fun ms w hS => by
    obtain ⟨v, h1, h2⟩ := hr w _ _ (hx ms w hS) (hy ms w hS)
    exact ⟨v, by unfold execOp; simp only [hop, Sem.run_bind, h1]; rfl, h2⟩
end
end Go.Proofs.YtpcdkepkipadaaaGreat.flow
namespace Go.Proofs.YtpcdkepkipadaaaGreat.rat
open Go.RowKit Go.Proofs.YtpcdkepkipadaaaGreat.num Go.Proofs.YtpcdkepkipadaaaGreat.mem Go.Proofs.YtpcdkepkipadaaaGreat.nat Go.Proofs.YtpcdkepkipadaaaGreat.txt Go.Proofs.YtpcdkepkipadaaaGreat.str Go.Proofs.YtpcdkepkipadaaaGreat.flow Go.Proofs.YtpcdkepkipadaaaGreat.whl
set_option linter.unusedVariables false
theorem add_len_max {x y m : Nat} (hx : (digs 4294967296 x).length ≤ m) (hy : (digs 4294967296 y).length ≤ m) : (digs 4294967296 (x + y)).length ≤ m + 1 := by
  have h1 := Nat.lt_of_lt_of_le (digs_lt_pow (B := 4294967296) (by omega) x) (Nat.pow_le_pow_right (by omega) hx)
  have h2 := Nat.lt_of_lt_of_le (digs_lt_pow (B := 4294967296) (by omega) y) (Nat.pow_le_pow_right (by omega) hy)
  refine digs_len_le (by omega) ?_
  rw [Nat.pow_succ]
  omega
theorem lenZ_add_max {x y : Int} {m : Nat} (hx : lenZ x ≤ m) (hy : lenZ y ≤ m) : lenZ (x + y) ≤ m + 1 :=
  Nat.le_trans (digs_len_mono (by omega) (show (x + y).natAbs ≤ x.natAbs + y.natAbs by omega)) (add_len_max hx hy)
theorem lenQ_add2 {x y : Rat} {m n : Nat} (h : lenQ x m) (h' : lenQ y n) : lenQ (x + y) (m + n + 1) := by
  rw [Rat.add_def']
  have e1 := lenZ_mul x.num y.den
  have e2 := lenZ_mul y.num x.den
  have e4 := lenZ_mul x.den y.den
  have h1 := h.1; have h2 := h.2; have h3 := h'.1; have h4 := h'.2
  rw [lenD] at e1 e2
  rw [lenD, lenD, ← Int.natCast_mul, lenD] at e4
  have e3 := lenZ_add_max (x := x.num * y.den) (y := y.num * x.den) (m := m + n) (by omega) (by omega)
  exact lenQ_mk (Nat.mul_ne_zero x.den_nz y.den_nz) e3 (by omega)
/-- An element: a fraction, and the slices of its parts. -/
abbrev Elt := Rat × Value × Value
/-- Its parts read as it, with limbs of this kind. -/
def IsE (k : IntKind) (B : Nat) (w : World) (p : Elt) : Prop := IsS w k p.2.1 (digs B p.1.num.natAbs) ∧ IsS w k p.2.2 (digs B p.1.den)
theorem IsE.below {k : IntKind} {B : Nat} {w w' : World} {p : Elt} (h : IsE k B w p) (hb : Below w.heap.size w w') : IsE k B w' p := ⟨h.1.below hb, h.2.below hb⟩
def cells3 (p : Elt) : List Value := [.bool (ngB p.1.num), p.2.1, p.2.2]
def flat3 (ps : List Elt) : List Value := ps.flatMap cells3
theorem flat3_snoc (ps : List Elt) (p : Elt) : flat3 (ps ++ [p]) = flat3 ps ++ cells3 p := by simp [flat3]
theorem flat3_at : ∀ (ps : List Elt) (i : Nat) (p : Elt), ps[i]? = some p → (flat3 ps)[i * 3]? = some (.bool (ngB p.1.num)) ∧ (flat3 ps)[i * 3 + 1]? = some p.2.1 ∧ (flat3 ps)[i * 3 + 2]? = some p.2.2
  | [], i, p, h => by simp at h
  | q :: ps, 0, p, h => by
    obtain rfl : q = p := by simpa using h
    exact ⟨rfl, rfl, rfl⟩
  | q :: ps, i + 1, p, h => by
    have ih := flat3_at ps i p (by simpa using h)
    have e : flat3 (q :: ps) = .bool (ngB q.1.num) :: q.2.1 :: q.2.2 :: flat3 ps := rfl
    rw [e, show (i + 1) * 3 = i * 3 + 1 + 1 + 1 from by omega]
    simpa using ih
/-- The value is a slice of these elements. -/
def IsVF (w : World) (v : Value) (ps : List Elt) : Prop := ∃ A c, v = .slice A ps.length c ∧ ps.length ≤ c ∧ c ≤ maxLen ∧ ∀ i p, ps[i]? = some p → ∃ g o, A = some ⟨g, o, none⟩ ∧ w.cell? ⟨g, o + i * 3, none⟩ = some (.bool (ngB p.1.num)) ∧ w.cell? ⟨g, o + i * 3 + 1, none⟩ = some p.2.1 ∧ w.cell? ⟨g, o + i * 3 + 2, none⟩ = some p.2.2
theorem IsVF.below {w w' : World} {v : Value} {ps : List Elt} (h : IsVF w v ps) (hb : Below w.heap.size w w') : IsVF w' v ps := by
  obtain ⟨A, c, e, h1, h2, h3⟩ := h
  refine ⟨A, c, e, h1, h2, fun i p hp => ?_⟩
  obtain ⟨g, o, e2, c0, c1, c2⟩ := h3 i p hp
  exact ⟨g, o, e2, (hb.cell (World.block_lt_of_cell? w _ c0)).trans c0, (hb.cell (World.block_lt_of_cell? w _ c1)).trans c1, (hb.cell (World.block_lt_of_cell? w _ c2)).trans c2⟩
/-- The value reads as these fractions, with limbs of this kind. -/
def SlF (k : IntKind) (B : Nat) (w : World) (v : Value) (qs : List Rat) : Prop := ∃ ps : List Elt, ps.map (·.1) = qs ∧ IsVF w v ps ∧ ∀ p ∈ ps, IsE k B w p
theorem SlF.below {k : IntKind} {B : Nat} {w w' : World} {v : Value} {qs : List Rat} (h : SlF k B w v qs) (hb : Below w.heap.size w w') : SlF k B w' v qs := by
  obtain ⟨ps, e, h1, h2⟩ := h
  exact ⟨ps, e, h1.below hb, fun p hp => (h2 p hp).below hb⟩
theorem SlF.shape {k : IntKind} {B : Nat} {w : World} {v : Value} {qs : List Rat} (h : SlF k B w v qs) : ∃ A c, v = .slice A qs.length c ∧ qs.length ≤ c ∧ c ≤ maxLen := by
  obtain ⟨ps, rfl, ⟨A, c, e, h1, h2, _⟩, _⟩ := h
  rw [List.length_map]
  exact ⟨A, c, e, h1, h2⟩
/-- One of them. -/
theorem SlF.at_ {k : IntKind} {B : Nat} {w : World} {A : Option Addr} {n c : Nat} {qs : List Rat} {i : Nat} {q : Rat} (h : SlF k B w (.slice A n c) qs) (hq : qs[i]? = some q) : ∃ g o u t, A = some ⟨g, o, none⟩ ∧ i < n ∧ w.cell? ⟨g, o + i * 3, none⟩ = some (.bool (ngB q.num)) ∧ w.cell? ⟨g, o + i * 3 + 1, none⟩ = some u ∧ w.cell? ⟨g, o + i * 3 + 2, none⟩ = some t ∧ IsS w k u (digs B q.num.natAbs) ∧ IsS w k t (digs B q.den) := by
  obtain ⟨ps, rfl, ⟨A', c', e, h1, h2, h3⟩, h4⟩ := h
  injection e with e1 e2 e3
  subst e1; subst e2; subst e3
  rw [List.getElem?_map] at hq
  cases hp : ps[i]? with
  | none => rw [hp] at hq; cases hq
  | some p =>
    rw [hp] at hq
    obtain rfl : p.1 = q := by simpa using hq
    obtain ⟨g, o, e4, c0, c1, c2⟩ := h3 i p hp
    have h5 := h4 p (List.mem_of_getElem? hp)
    exact ⟨g, o, p.2.1, p.2.2, e4, (List.getElem?_eq_some_iff.1 hp).1, c0, c1, c2, h5.1, h5.2⟩
theorem index3 {P : Program} {t e : TypeId} (hu : P.underlying t = some (.slice e)) (hs : (P.info? e).map (·.size) = some 3) {g o n c k : Nat} (hk : k < n) (w : World) : (Instr.indexAt t (.slice (some ⟨g, o, none⟩) n c) (.int .i64 (k : Int))).run P w = .ok (.pointer (some ⟨g, o + k * 3, none⟩)) w := by
  cases hq : P.info? e with
  | none => simp [hq] at hs
  | some inf =>
    have hsz : inf.size = 3 := by simpa [hq] using hs
    simp [Instr.indexAt, asIntOf, go_sem, run_underlying hu, sizeOf, typeInfo, hq, hsz, hk]
theorem load3 {P : Program} {t : TypeId} {g o : Nat} {x y z : Value} {d : TypeDesc} {w : World} (hu : P.underlying t = some d) (hd : d.isRow = true) (hi : (P.info? t).map (·.size) = some 3) (h0 : w.cell? ⟨g, o, none⟩ = some x) (h1 : w.cell? ⟨g, o + 1, none⟩ = some y) (h2 : w.cell? ⟨g, o + 2, none⟩ = some z) : (Instr.loadAt t (.pointer (some ⟨g, o, none⟩))).run P w = .ok (.agg #[x, y, z]) w :=
  run_loadAt_mid w g o t [x, y, z] d (fun j v hj => by
    match j, hj with
    | 0, hj => simp at hj; subst hj; exact h0
    | 1, hj => simp at hj; subst hj; exact h1
    | 2, hj => simp at hj; subst hj; exact h2
    | j + 3, hj => simp at hj) hu hd hi
/-- A row of the call's own that holds these elements. -/
def RowF (T : TypeId) (w : World) (base : Nat) (v : Value) (ps : List Elt) : Prop := w.ownsRow base T 3 v ps.length (flat3 ps)
theorem RowF.below {T : TypeId} {w w' : World} {base : Nat} {v : Value} {ps : List Elt} (h : RowF T w base v ps) (hb : Below w.heap.size w w') : RowF T w' base v ps :=
  World.ownsRow.kept (row := none) h ⟨hb.os, hb.tape, hb.output, hb.size, fun i hi _ => hb.block i hi⟩ (by cases hv : v.ownBlock <;> simp)
theorem RowF.other {T : TypeId} {w w' : World} {base : Nat} {v : Value} {ps : List Elt} {row : Option Nat} (h : RowF T w base v ps) (hg : w.grownBy w' row) (hne : ∀ g, v.ownBlock = some g → row ≠ some g) : RowF T w' base v ps :=
  World.ownsRow.kept (row := row) h hg (by
    cases hv : v.ownBlock with
    | none => exact .inl rfl
    | some g => exact .inr fun e => hne g hv e.symm)
theorem RowF.under {T : TypeId} {w : World} {base : Nat} {v : Value} {ps : List Elt} (h : RowF T w base v ps) : ∀ g, v.ownBlock = some g → g < w.heap.size := fun g hg => (World.ownsRow.lt h g hg).2
theorem RowF.base_le {T : TypeId} {w : World} {base : Nat} {v : Value} {ps : List Elt} (h : RowF T w base v ps) : ∀ g, v.ownBlock = some g → base ≤ g := fun g hg => (World.ownsRow.lt h g hg).1
theorem RowF.isVF {T : TypeId} {w : World} {base : Nat} {v : Value} {ps : List Elt} (h : RowF T w base v ps) : IsVF w v ps := by
  rcases h.2 with ⟨rfl, h0⟩ | ⟨g, cap, cur, rfl, _, hg, hn, hm, _, _⟩
  · obtain rfl : ps = [] := List.length_eq_zero_iff.1 h0
    exact ⟨none, 0, rfl, by simp, by unfold maxLen; omega, fun i u hu => by simp at hu⟩
  · refine ⟨_, cap, rfl, hn, hm, fun i p hp => ⟨g, 0, rfl, ?_⟩⟩
    have e : ∀ j, (⟨g, 0, none⟩ : Addr).add j = ⟨g, 0 + j, none⟩ := by
      intro j
      unfold Addr.add
      by_cases h : j = 0
      · simp [h]
      · simp [h]
    obtain ⟨f0, f1, f2⟩ := flat3_at ps i p hp
    have k0 := World.ownsRow.cells h (g := g) rfl _ _ f0
    have k1 := World.ownsRow.cells h (g := g) rfl _ _ f1
    have k2 := World.ownsRow.cells h (g := g) rfl _ _ f2
    rw [e] at k0 k1 k2
    exact ⟨k0, by rw [Nat.add_assoc]; exact k1, by rw [Nat.add_assoc]; exact k2⟩
theorem rowF_lit0 (T : TypeId) (w : World) (base : Nat) (hb : base ≤ w.heap.size) : RowF T (w.alloc (.cells #[] T)) base (.slice (some ⟨w.heap.size, 0, none⟩) 0 0) [] := by
  have h := World.ownsRow_lit (e := T) (size := 3) w #[] 0 hb (by simp) (by simp)
  simpa [RowF, flat3] using h
theorem rowF_nil (T : TypeId) (w : World) (base : Nat) : RowF T w base (.slice none 0 0) [] := World.ownsRow_nil w base T 3
/-- Elements of a row whose slices lie elsewhere than the row itself. -/
def FarF (k : IntKind) (B : Nat) (w : World) (v : Value) (ps : List Elt) : Prop := ∀ p ∈ ps, IsE k B w p ∧ Far v p.2.1 ∧ Far v p.2.2
theorem FarF.nil (k : IntKind) (B : Nat) (w : World) (v : Value) : FarF k B w v [] := fun p hp => by cases hp
theorem FarF.below {k : IntKind} {B : Nat} {w w' : World} {v : Value} {ps : List Elt} (h : FarF k B w v ps) (hb : Below w.heap.size w w') : FarF k B w' v ps := fun p hp => ⟨(h p hp).1.below hb, (h p hp).2⟩
theorem FarF.snoc {k : IntKind} {B : Nat} {w w' : World} {v v' : Value} {ps : List Elt} {p : Elt} (h : FarF k B w v ps) (hk : Keeps w w' v v') (hp : IsE k B w p) (f1 : Far v p.2.1) (f2 : Far v p.2.2) : FarF k B w' v' (ps ++ [p]) := by
  intro r hr
  rcases List.mem_append.1 hr with hr | hr
  · obtain ⟨⟨a1, a2⟩, b1, b2⟩ := h r hr
    have x1 := hk _ _ _ a1 b1
    have x2 := hk _ _ _ a2 b2
    exact ⟨⟨x1.1, x2.1⟩, x1.2, x2.2⟩
  · obtain rfl := List.mem_singleton.1 hr
    have x1 := hk _ _ _ hp.1 f1
    have x2 := hk _ _ _ hp.2 f2
    exact ⟨⟨x1.1, x2.1⟩, x1.2, x2.2⟩
theorem RowF.sl {T : TypeId} {k : IntKind} {B : Nat} {w : World} {base : Nat} {v : Value} {ps : List Elt} (h : RowF T w base v ps) (hf : FarF k B w v ps) : SlF k B w v (ps.map (·.1)) := ⟨ps, rfl, h.isVF, fun p hp => (hf p hp).1⟩
section
variable {P : Program}
end
theorem info_rat : ∃ i, Tryz.prog.info? 36 = some i ∧ i.zero = some (.agg #[.bool false, .slice none 0 0, .slice none 0 0]) ∧ i.size = 3 ∧ i.bytes = 56 := info_parts (P := Tryz.prog) (e := 36) (z := .agg #[.bool false, .slice none 0 0, .slice none 0 0]) (size := 3) (bytes := 56) (by kernel_rfl)
theorem info_q : ∃ i, Tryz.prog.info? 47 = some i ∧ i.zero = some (.agg #[.bool false, .slice none 0 0, .slice none 0 0]) ∧ i.size = 3 ∧ i.bytes = 56 := info_parts (P := Tryz.prog) (e := 47) (z := .agg #[.bool false, .slice none 0 0, .slice none 0 0]) (size := 3) (bytes := 56) (by kernel_rfl)
end Go.Proofs.YtpcdkepkipadaaaGreat.rat
namespace Go.Proofs.YtpcdkepkipadaaaGreat.rat
open Go.RowKit Go.ChangeShapes Go.WideShapes Go.ChangeAt Go.Joins Go.Deep Go.Proofs.YtpcdkepkipadaaaGreat.num Go.Proofs.YtpcdkepkipadaaaGreat.mem Go.Proofs.YtpcdkepkipadaaaGreat.nat Go.Proofs.YtpcdkepkipadaaaGreat.txt Go.Proofs.YtpcdkepkipadaaaGreat.str Go.Proofs.YtpcdkepkipadaaaGreat.flow Go.Proofs.YtpcdkepkipadaaaGreat.whl
set_option linter.unusedVariables false
/-- A slice of structs of a sign, limbs, and limbs, as it came in. -/
def ArgQs (w : World) (v : Value) : Prop := ∃ A n c, v = .slice A n c ∧ n ≤ c ∧ c ≤ maxLen ∧ ∀ i, i < n → ∃ ad b u t l m, A = some ad ∧ w.cell? (ad.add (i * 3)) = some (.bool b) ∧ w.cell? (ad.add (i * 3 + 1)) = some u ∧ w.cell? (ad.add (i * 3 + 2)) = some t ∧ IsS w .u64 u l ∧ Lt 18446744073709551616 l ∧ IsS w .u64 t m ∧ Lt 18446744073709551616 m
theorem trod_q {H : Type} {enc : TypeId × Value → H} {P : Program} {W : World} {fuel : Nat} {t e : TypeId} {f0 f1 g0 g1 : Field} {c0 c1 c2 : Value} {x : DataW H × List MemPlace} (hs : P.underlying t = some (.struct #[f0, f1])) (ho : (f0.offset == 0 && f1.offset == 2 && P.cellsOf f0.type == 2 && P.cellsOf f1.type == 1) = true)
    (hs2 : P.underlying f0.type = some (.struct #[g0, g1])) (hone : oneCellFields P #[g0, g1] = true) (hb : P.underlying g0.type = some .bool) (hsl : P.underlying g1.type = some (.slice e)) (hsl2 : P.underlying f1.type = some (.slice e)) (he : P.underlying e = some (.int .u64)) (ce : P.cellsOf e = 1)
    (hf : DataW.trod enc P W 0 (fun _ => true) true fuel t [c0, c1, c2] = some x) : ∃ b l m, c0 = .bool b ∧ IsS W .u64 c1 l ∧ Lt 18446744073709551616 l ∧ IsS W .u64 c2 m ∧ Lt 18446744073709551616 m := by
  simp only [Bool.and_eq_true, beq_iff_eq] at ho
  obtain ⟨⟨⟨o0, o1⟩, k0⟩, k1⟩ := ho
  obtain ⟨xs, n, _, hx, _, hlen, hg⟩ := DataW.trod_struct hs hf
  have h0 := hg 0 f0 rfl
  have h1 := hg 1 f1 rfl
  simp [o0, o1, k0, k1] at h0 h1
  match xs, hlen with
  | [y0, y1], _ =>
    have h0' : DataW.trod enc P W 0 (fun _ => true) true n f0.type [c0, c1] = some y0 := by simpa using h0
    have h1' : DataW.trod enc P W 0 (fun _ => true) true n f1.type [c2] = some y1 := by simpa using h1
    obtain ⟨zs, n2, _, hz, _, hlen2, hg2⟩ := DataW.trod_struct hs2 h0'
    obtain ⟨p0, q0⟩ := hone_of hone 0 g0 rfl
    obtain ⟨p1, q1⟩ := hone_of hone 1 g1 rfl
    have j0 := hg2 0 g0 rfl
    have j1 := hg2 1 g1 rfl
    simp [p0, p1, q0, q1] at j0 j1
    match zs, hlen2 with
    | [z0, z1], _ =>
      have j0' : DataW.trod enc P W 0 (fun _ => true) true n2 g0.type [c0] = some z0 := by simpa using j0
      have j1' : DataW.trod enc P W 0 (fun _ => true) true n2 g1.type [c1] = some z1 := by simpa using j1
      obtain ⟨b, e0, _⟩ := DataW.trod_bool hb j0'
      injection e0 with e0 _
      subst e0
      obtain ⟨l, a1, a2⟩ := trod_nat hsl he ce j1'
      obtain ⟨m, b1, b2⟩ := trod_nat hsl2 he ce h1'
      exact ⟨b, l, m, rfl, a1, a2, b1, b2⟩
theorem index3_any {P : Program} {t e : TypeId} (hu : P.underlying t = some (.slice e)) (hs : (P.info? e).map (·.size) = some 3) (ad : Addr) {n c k : Nat} (hk : k < n) (w : World) : (Instr.indexAt t (.slice (some ad) n c) (.int .i64 (k : Int))).run P w = .ok (.pointer (some (ad.add (k * 3)))) w := by
  cases hq : P.info? e with
  | none => simp [hq] at hs
  | some inf =>
    have hsz : inf.size = 3 := by simpa [hq] using hs
    simp [Instr.indexAt, asIntOf, go_sem, run_underlying hu, sizeOf, typeInfo, hq, hsz, hk]
theorem load3_any {P : Program} {t : TypeId} {p : Addr} {k : Nat} {x y z : Value} {d : TypeDesc} {w : World} (hu : P.underlying t = some d) (hd : d.isRow = true) (hi : (P.info? t).map (·.size) = some 3) (h0 : w.cell? (p.add k) = some x) (h1 : w.cell? (p.add (k + 1)) = some y) (h2 : w.cell? (p.add (k + 2)) = some z) : (Instr.loadAt t (.pointer (some (p.add k)))).run P w = .ok (.agg #[x, y, z]) w := by
  have hl : (loadCells (p.add k) 3).run P w = .ok [x, y, z].toArray w :=
    run_loadCells_list (P := P) w (p.add k) [x, y, z] (fun j v hj => by
      rw [add_add]
      match j, hj with
      | 0, hj => simp at hj; subst hj; exact h0
      | 1, hj => simp at hj; subst hj; exact h1
      | 2, hj => simp at hj; subst hj; exact h2
      | j + 3, hj => simp at hj)
  cases hq : P.info? t with
  | none => simp [hq] at hi
  | some i =>
    have hs : i.size = 3 := by simpa [hq] using hi
    have hagg : (isAgg t).run P w = .ok true w := by
      unfold isAgg
      rw [Sem.run_bind, run_underlying hu w]
      cases d <;> simp_all
    have hv : (loadVar t (p.add k)).run P w = .ok (.agg #[x, y, z]) w := by simp [loadVar, Sem.run_bind, hagg, sizeOf, typeInfo, hq, hs, hl]
    simp only [Instr.loadAt, Instr.sureAddr, Sem.run_bind, Sem.run_pure, Result.andThen_ok, hv]
end Go.Proofs.YtpcdkepkipadaaaGreat.rat
namespace Go.Proofs.YtpcdkepkipadaaaGreat.rat
open Go.RowKit Go.Proofs.YtpcdkepkipadaaaGreat.num Go.Proofs.YtpcdkepkipadaaaGreat.mem Go.Proofs.YtpcdkepkipadaaaGreat.nat Go.Proofs.YtpcdkepkipadaaaGreat.txt Go.Proofs.YtpcdkepkipadaaaGreat.str Go.Proofs.YtpcdkepkipadaaaGreat.flow Go.Proofs.YtpcdkepkipadaaaGreat.whl
set_option linter.unusedVariables false
section
variable {P : Program}
/-- What an append leaves: slices elsewhere, rows and variables elsewhere are kept. -/
def Grew (w w' : World) (v v' : Value) : Prop := Keeps w w' v v' ∧ w.grownBy w' v.ownBlock ∧ ∀ g, g < w.heap.size → v.ownBlock ≠ some g → v'.ownBlock ≠ some g
theorem run_append_q {w : World} {base : Nat} {t ty T : TypeId} (hT : P.underlying t = some (.slice T)) (hI : ∃ i, P.info? T = some i ∧ i.zero = some (.agg #[.bool false, .slice none 0 0, .slice none 0 0]) ∧ i.size = 3 ∧ i.bytes = 56) {v : Value} {p : Elt} {ps : List Elt} (hown : RowF T w base v ps) {ad : Addr} {c : Nat}
    (h0 : w.cell? (ad.add 0) = some (.bool (ngB p.1.num))) (h1 : w.cell? (ad.add 1) = some p.2.1) (h2 : w.cell? (ad.add 2) = some p.2.2) (k1 : p.2.1.oneCell' = true) (k2 : p.2.2.oneCell' = true) (hlen : ps.length ≤ 1000000000) (hbase : base ≤ w.heap.size) :
    ∃ v' w', (Builtin.append_ #[t, t] ty #[v, .slice (some ad) 1 c]).run P w = .ok v' w' ∧ RowF T w' base v' (ps ++ [p]) ∧ Grew w w' v v' := by
  obtain ⟨i, hi, hz, hs, hb⟩ := hI
  obtain ⟨v', w', g1, g2, g3, _, g5⟩ := run_append_own_at (P := P) w base t ty T i (.agg #[.bool false, .slice none 0 0, .slice none 0 0]) 3 56 hT hi hz hs hb rfl (by decide) v ps.length (flat3 ps) hown ad 1 c [.bool (ngB p.1.num), p.2.1, p.2.2] rfl (fun j u hu => by
    match j, hu with
    | 0, hu => simp at hu; subst hu; exact h0
    | 1, hu => simp at hu; subst hu; exact h1
    | 2, hu => simp at hu; subst hu; exact h2
    | j + 3, hu => simp at hu) (one3 rfl k1 k2) (by unfold maxLen; omega) (by omega) hbase
  refine ⟨v', w', g1, by unfold RowF; rw [List.length_append, flat3_snoc]; exact g2, keeps_of g3 g5, g3, fun g hg hne e1 => ?_⟩
  rcases g5 with h | h
  · exact hne (h ▸ e1)
  · rw [h] at e1; injection e1 with e1; omega
theorem wp_append_q {w : World} {o : Oper} {a : Act} {K : Act → World → Prop} {Q : Exit → Act → World → Prop} (s x : Operand) {t : TypeId}
    (ho : o.op = .call { callee := .builtin .append, args := #[s, x], argTypes := #[t, t] })
    {base : Nat} {T : TypeId} (hT : P.underlying t = some (.slice T)) (hI : ∃ i, P.info? T = some i ∧ i.zero = some (.agg #[.bool false, .slice none 0 0, .slice none 0 0]) ∧ i.size = 3 ∧ i.bytes = 56) {v : Value} {p : Elt} {ps : List Elt} (hs : a.eval s = v) (hown : RowF T w base v ps) {ad : Addr} {c : Nat} (hx : a.eval x = .slice (some ad) 1 c)
    (h0 : w.cell? (ad.add 0) = some (.bool (ngB p.1.num))) (h1 : w.cell? (ad.add 1) = some p.2.1) (h2 : w.cell? (ad.add 2) = some p.2.2) (k1 : p.2.1.oneCell' = true) (k2 : p.2.2.oneCell' = true) (hlen : ps.length ≤ 1000000000) (hbase : base ≤ w.heap.size)
    (h : ∀ v' w', RowF T w' base v' (ps ++ [p]) → Below base w w' → Hid (Grew w w' v v') → K (a.put o.dst v') w') : o.wp P a w K Q := by
  obtain ⟨v', w', hrun, g2, g3⟩ := run_append_q (P := P) (ty := o.type) hT hI hown (c := c) h0 h1 h2 k1 k2 hlen hbase
  unfold Oper.wp execOp
  simp only [ho, resolve, invoke, builtin, Sem.run_bind, Sem.run_pure, Result.andThen_ok, List.map_toArray, List.map_cons, List.map_nil, hs, hx, hrun]
  exact h v' w' g2 ((Below.refl base w).grown g3.2.1 hbase hown.base_le) g3
theorem step_append_q {w : World} {ops : Array Oper} {o : Oper} {a : Act} {K : Act → World → Prop} {Q : Exit → Act → World → Prop} {E : Prop} (hgd : o.guard = none) (s x : Operand) {t : TypeId}
    (ho : o.op = .call { callee := .builtin .append, args := #[s, x], argTypes := #[t, t] })
    {base : Nat} {T : TypeId} (hT : P.underlying t = some (.slice T)) (hI : ∃ i, P.info? T = some i ∧ i.zero = some (.agg #[.bool false, .slice none 0 0, .slice none 0 0]) ∧ i.size = 3 ∧ i.bytes = 56) {v : Value} {p : Elt} {ps : List Elt} (hs : a.eval s = v) (hown : RowF T w base v ps) {ad : Addr} {c : Nat} (hx : a.eval x = .slice (some ad) 1 c)
    (h0 : w.cell? (ad.add 0) = some (.bool (ngB p.1.num))) (h1 : w.cell? (ad.add 1) = some p.2.1) (h2 : w.cell? (ad.add 2) = some p.2.2) (k1 : p.2.1.oneCell' = true) (k2 : p.2.2.oneCell' = true) (hlen : ps.length ≤ 1000000000) (hbase : base ≤ w.heap.size)
    (h : ∀ v' w', RowF T w' base v' (ps ++ [p]) → Below base w w' → Hid (Grew w w' v v') → K (a.put o.dst v') w') :
    if Region.wanted o (yielded ops a.tmps) = true then Oper.wp P o a w K Q else E := by
  have hw : Region.wanted o (yielded ops a.tmps) = true := by simp [Region.wanted, hgd]
  rw [if_pos hw]
  exact wp_append_q s x ho hT hI hs hown hx h0 h1 h2 k1 k2 hlen hbase h
end
/-- A new element's cells. -/
theorem new_cells (w : World) (T : TypeId) (x y z : Value) : (w.alloc (.cells #[x, y, z] T)).cell? ((⟨w.heap.size, 0, none⟩ : Addr).add 0) = some x ∧ (w.alloc (.cells #[x, y, z] T)).cell? ((⟨w.heap.size, 0, none⟩ : Addr).add 1) = some y ∧ (w.alloc (.cells #[x, y, z] T)).cell? ((⟨w.heap.size, 0, none⟩ : Addr).add 2) = some z := by
  have h := Blk.new w T #[x, y, z]
  obtain ⟨a, b, c, _, _, _⟩ := three h
  exact ⟨a, b, c⟩
theorem FarF.keep {k : IntKind} {B : Nat} {w w' : World} {v v' : Value} {ps : List Elt} (h : FarF k B w v ps) (hk : Keeps w w' v v') : FarF k B w' v' ps := fun r hr => by
  obtain ⟨⟨a1, a2⟩, b1, b2⟩ := h r hr
  have x1 := hk _ _ _ a1 b1
  have x2 := hk _ _ _ a2 b2
  exact ⟨⟨x1.1, x2.1⟩, x1.2, x2.2⟩
/-- Two rows that grow side by side: each one's elements lie elsewhere than both. -/
def TwoRows (w wr : World) (v4 v5 : Value) (ps rs : List Elt) : Prop := RowF 36 wr w.heap.size v4 ps ∧ RowF 47 wr w.heap.size v5 rs ∧ (FarF .u64 4294967296 wr v4 ps ∧ FarF .u64 4294967296 wr v5 ps) ∧ (FarF .i64 10000 wr v4 rs ∧ FarF .i64 10000 wr v5 rs) ∧ (∀ g, v4.ownBlock = some g → v5.ownBlock ≠ some g) ∧ Below w.heap.size w wr
theorem TwoRows.below {w wr w' : World} {v4 v5 : Value} {ps rs : List Elt} (h : TwoRows w wr v4 v5 ps rs) (hb : Below wr.heap.size wr w') : TwoRows w w' v4 v5 ps rs :=
  ⟨h.1.below hb, h.2.1.below hb, ⟨h.2.2.1.1.below hb, h.2.2.1.2.below hb⟩, ⟨h.2.2.2.1.1.below hb, h.2.2.2.1.2.below hb⟩, h.2.2.2.2.1, h.2.2.2.2.2.trans (hb.mono h.2.2.2.2.2.size)⟩
/-- The first one grows. -/
theorem TwoRows.one {w wr w' : World} {v4 v5 v' : Value} {ps rs : List Elt} {p : Elt} (h : TwoRows w wr v4 v5 ps rs) (hrow : RowF 36 w' w.heap.size v' (ps ++ [p])) (hg : Grew wr w' v4 v') (hb : Below w.heap.size wr w') (hp : IsE .u64 4294967296 wr p) (f4 : Far v4 p.2.1 ∧ Far v4 p.2.2) (f5 : Far v5 p.2.1 ∧ Far v5 p.2.2) : TwoRows w w' v' v5 (ps ++ [p]) rs := by
  obtain ⟨h1, h2, ⟨h3, h4⟩, ⟨h5, h6⟩, h7, h8⟩ := h
  obtain ⟨k1, k2, k3⟩ := hg
  have keep : ∀ {k : IntKind} {B : Nat} {r : Elt}, IsE k B wr r → Far v4 r.2.1 → Far v4 r.2.2 → IsE k B w' r ∧ Far v' r.2.1 ∧ Far v' r.2.2 := fun a b c => by
    have x1 := k1 _ _ _ a.1 b
    have x2 := k1 _ _ _ a.2 c
    exact ⟨⟨x1.1, x2.1⟩, x1.2, x2.2⟩
  refine ⟨hrow, h2.other k2 (fun g hg e => h7 g e hg), ⟨h3.snoc k1 hp f4.1 f4.2, ?_⟩, ⟨h5.keep k1, ?_⟩, ?_, h8.trans hb⟩
  · intro r hr
    rcases List.mem_append.1 hr with hr | hr
    · exact ⟨(keep (h3 r hr).1 (h3 r hr).2.1 (h3 r hr).2.2).1, (h4 r hr).2⟩
    · obtain rfl := List.mem_singleton.1 hr
      exact ⟨(keep hp f4.1 f4.2).1, f5⟩
  · intro r hr
    exact ⟨(keep (h5 r hr).1 (h5 r hr).2.1 (h5 r hr).2.2).1, (h6 r hr).2⟩
  · intro g e4 e5
    have hlt := h2.under g e5
    exact k3 g hlt (fun e => h7 g e e5) e4
/-- The second one grows. -/
theorem TwoRows.two {w wr w' : World} {v4 v5 v' : Value} {ps rs : List Elt} {p : Elt} (h : TwoRows w wr v4 v5 ps rs) (hrow : RowF 47 w' w.heap.size v' (rs ++ [p])) (hg : Grew wr w' v5 v') (hb : Below w.heap.size wr w') (hp : IsE .i64 10000 wr p) (f4 : Far v4 p.2.1 ∧ Far v4 p.2.2) (f5 : Far v5 p.2.1 ∧ Far v5 p.2.2) : TwoRows w w' v4 v' ps (rs ++ [p]) := by
  obtain ⟨h1, h2, ⟨h3, h4⟩, ⟨h5, h6⟩, h7, h8⟩ := h
  obtain ⟨k1, k2, k3⟩ := hg
  have keep : ∀ {k : IntKind} {B : Nat} {r : Elt}, IsE k B wr r → Far v5 r.2.1 → Far v5 r.2.2 → IsE k B w' r ∧ Far v' r.2.1 ∧ Far v' r.2.2 := fun a b c => by
    have x1 := k1 _ _ _ a.1 b
    have x2 := k1 _ _ _ a.2 c
    exact ⟨⟨x1.1, x2.1⟩, x1.2, x2.2⟩
  refine ⟨h1.other k2 (fun g hg e => h7 g hg e), hrow, ⟨?_, h4.keep k1⟩, ⟨?_, h6.snoc k1 hp f5.1 f5.2⟩, ?_, h8.trans hb⟩
  · intro r hr
    exact ⟨(keep (h4 r hr).1 (h4 r hr).2.1 (h4 r hr).2.2).1, (h3 r hr).2⟩
  · intro r hr
    rcases List.mem_append.1 hr with hr | hr
    · exact ⟨(keep (h6 r hr).1 (h6 r hr).2.1 (h6 r hr).2.2).1, (h5 r hr).2⟩
    · obtain rfl := List.mem_singleton.1 hr
      exact ⟨(keep hp f5.1 f5.2).1, f4⟩
  · intro g e4 e5
    have hlt := h1.under g e4
    exact k3 g hlt (fun e => h7 g e4 e) e5
end Go.Proofs.YtpcdkepkipadaaaGreat.rat
namespace Go.Proofs.YtpcdkepkipadaaaGreat.flow
open Go.RowKit Go.Proofs.YtpcdkepkipadaaaGreat.num Go.Proofs.YtpcdkepkipadaaaGreat.mem Go.Proofs.YtpcdkepkipadaaaGreat.whl Go.Proofs.YtpcdkepkipadaaaGreat.rat
set_option linter.unusedVariables false
/-- A slice of one element of three cells, as told. -/
def pone (φ : Pd) : Pd := ⟨fun w v => ∃ g x y z, v = .slice (some ⟨g, 0, none⟩) 1 1 ∧ w.cell? ((⟨g, 0, none⟩ : Addr).add 0) = some x ∧ w.cell? ((⟨g, 0, none⟩ : Addr).add 1) = some y ∧ w.cell? ((⟨g, 0, none⟩ : Addr).add 2) = some z ∧ φ.p w (.agg #[x, y, z]), fun h hb => by
  obtain ⟨g, x, y, z, h0, h1, h2, h3, h4⟩ := h
  exact ⟨g, x, y, z, h0, (hb.cell (World.block_lt_of_cell? _ _ h1)).trans h1, (hb.cell (World.block_lt_of_cell? _ _ h2)).trans h2, (hb.cell (World.block_lt_of_cell? _ _ h3)).trans h3, φ.up h4 hb⟩⟩
section
variable {P : Program} {Q : Exit → Act → World → Prop} {ops : Array Oper} {L : List Oper} {Φ : List Pd} {w0 : World} {a0 : Act} {i : Nat} {o : Oper}
theorem ob_build_q {t T : TypeId} {x : Operand} {φ : Pd} {F : World → Value → Prop} (hop : o.op = .buildSlice t 1 #[(0, x)]) (hg : o.guard = none) (hx : Ev L Φ w0 a0 o x F) (hu : P.underlying t = some (.slice T)) (hI : ∃ i, P.info? T = some i ∧ i.zero = some (.agg #[.bool false, .slice none 0 0, .slice none 0 0]) ∧ i.size = 3 ∧ i.bytes = 56)
    (hF : ∀ w v, F w v → φ.p w v ∧ ∃ a b c, v = .agg #[a, b, c] ∧ a.oneCell' = true ∧ b.oneCell' = true ∧ c.oneCell' = true) (hP : ∀ w v, (pone φ).p w v → (ph Φ i).p w v) : Ob P Q ops L Φ w0 a0 i o := by
  intro ms w hS
  rw [if_pos (wt_none (ops := ops) (L := L) (Φ := Φ) (w0 := w0) (a0 := a0) hg ms w hS)]
  obtain ⟨h1, a, b, c, hv, ka, kb, kc⟩ := hF _ _ (hx ms w hS)
  obtain ⟨inf, hi, hz, hs, hb⟩ := hI
  have hr : (execOp (putM a0 L ms).eval o).run P w = .ok (.value (.slice (some ⟨w.heap.size, 0, none⟩) 1 1)) (w.alloc (.cells #[a, b, c] T)) := by
    generalize putM a0 L ms = A at hv
    have hz0 : (zeroValue T).run P w = .ok (.agg #[.bool false, .slice none 0 0, .slice none 0 0]) w := by simp [zeroValue, go_sem, typeInfo, hi, hz]
    simp only [hop, execOp, List.map_toArray, List.map_cons, List.map_nil, hv]
    generalize A.eval = ev
    simp [go_sem, run_underlying hu, sizeOf, typeInfo, hi, newRow, hs, hz0]
  unfold Oper.wp
  rw [hr]
  obtain ⟨c0, c1, c2⟩ := new_cells w T a b c
  have hbb := below_alloc (w := w) (Nat.le_refl _) (.cells #[a, b, c] T)
  exact ⟨_, rfl, hbb, hP _ _ ⟨_, a, b, c, rfl, c0, c1, c2, φ.up (hv ▸ h1) hbb⟩, fun h => by unfold isA at h; rw [hop] at h; cases h⟩
end
end Go.Proofs.YtpcdkepkipadaaaGreat.flow
namespace Go.Proofs.YtpcdkepkipadaaaGreat.rat
open Go.RowKit Go.Proofs.YtpcdkepkipadaaaGreat.num Go.Proofs.YtpcdkepkipadaaaGreat.mem Go.Proofs.YtpcdkepkipadaaaGreat.nat Go.Proofs.YtpcdkepkipadaaaGreat.txt Go.Proofs.YtpcdkepkipadaaaGreat.str Go.Proofs.YtpcdkepkipadaaaGreat.flow Go.Proofs.YtpcdkepkipadaaaGreat.whl
end Go.Proofs.YtpcdkepkipadaaaGreat.rat
namespace Go.Proofs.YtpcdkepkipadaaaGreat.num
set_option linter.unusedVariables false
theorem gcd_mod (x y : Nat) : Nat.gcd y (x % y) = Nat.gcd x y := by
  rw [Nat.gcd_comm x y, Nat.gcd_rec y x, Nat.gcd_comm]
/-- The odd part. -/
def odp (x : Nat) : Nat := x / 2 ^ tz x
theorem tz_split {x : Nat} (h : 0 < x) : x = 2 ^ tz x * odp x ∧ odp x % 2 = 1 := by
  induction x using Nat.strongRecOn with
  | ind x ih =>
    by_cases h1 : x % 2 = 1
    · unfold odp; rw [tz_odd h1]; simp [h1]
    · have h2 : x % 2 = 0 := by omega
      obtain ⟨e, o⟩ := ih (x / 2) (by omega) (by omega)
      have e2 : odp x = odp (x / 2) := by
        unfold odp
        rw [tz_even (by omega) h2, Nat.pow_succ, Nat.mul_comm, ← Nat.div_div_eq_div_mul]
      refine ⟨?_, by rw [e2]; exact o⟩
      rw [e2, tz_even (by omega) h2, Nat.pow_succ, Nat.mul_right_comm, ← e]
      omega
theorem odp_pos {x : Nat} (h : 0 < x) : 0 < odp x := by have := (tz_split h).2; omega
theorem odp_le (x : Nat) : odp x ≤ x := Nat.div_le_self _ _
theorem odp_half {x : Nat} (h : 0 < x) (h2 : x % 2 = 0) : 2 * odp x ≤ x := by
  obtain ⟨e, o⟩ := tz_split h
  have ht : tz x = (tz x - 1) + 1 := by rw [tz_even (by omega) h2]; omega
  rw [ht, Nat.pow_succ] at e
  have := Nat.pow_pos (n := tz x - 1) (show 0 < 2 by omega)
  have h3 : 1 * (2 * odp x) ≤ 2 ^ (tz x - 1) * (2 * odp x) := Nat.mul_le_mul_right _ this
  rw [← Nat.mul_assoc] at h3
  rw [← Nat.mul_assoc, Nat.one_mul] at h3
  omega
theorem cop2 {o : Nat} (h : o % 2 = 1) (k : Nat) : Nat.Coprime (2 ^ k) o := by
  refine Nat.Coprime.pow_left k ?_
  show Nat.gcd 2 o = 1
  rw [Nat.gcd_rec, h]; rfl
/-- Of an odd number, twos in the other one count for nothing. -/
theorem gcd_odp {x y : Nat} (hx : 0 < x) (hy : y % 2 = 1) : Nat.gcd (odp x) y = Nat.gcd x y := by
  have e := (tz_split hx).1
  have h := Nat.Coprime.gcd_mul_left_cancel (odp x) (cop2 hy (tz x))
  rw [← e] at h
  exact h.symm
theorem gcd_two (i j p q : Nat) (hp : p % 2 = 1) (hij : i ≤ j) : Nat.gcd (2 ^ i * p) (2 ^ j * q) = 2 ^ i * Nat.gcd p q := by
  have e : 2 ^ j * q = 2 ^ i * (2 ^ (j - i) * q) := by rw [← Nat.mul_assoc, ← Nat.pow_add]; congr 2; omega
  rw [e, Nat.gcd_mul_left, Nat.gcd_comm p, Nat.Coprime.gcd_mul_left_cancel q (cop2 hp (j - i)), Nat.gcd_comm]
theorem gcd_parts {x y : Nat} (hx : 0 < x) (hy : 0 < y) : Nat.gcd x y = Nat.gcd (odp x) (odp y) * 2 ^ min (tz x) (tz y) := by
  obtain ⟨e1, o1⟩ := tz_split hx
  obtain ⟨e2, o2⟩ := tz_split hy
  rw [Nat.mul_comm]
  rcases Nat.le_total (tz x) (tz y) with h | h
  · rw [Nat.min_eq_left h]
    conv => lhs; rw [e1, e2]
    exact gcd_two _ _ _ _ o1 h
  · rw [Nat.min_eq_right h, Nat.gcd_comm x y, Nat.gcd_comm (odp x)]
    conv => lhs; rw [e1, e2]
    exact gcd_two _ _ _ _ o2 h
/-- What the loop of halving and taking off keeps. -/
def BG (g x y : Nat) : Prop := x % 2 = 1 ∧ y % 2 = 1 ∧ Nat.gcd x y = g
theorem BG.swap {g x y : Nat} (h : BG g x y) : BG g y x := ⟨h.2.1, h.1, by rw [Nat.gcd_comm]; exact h.2.2⟩
theorem BG.step {g x y : Nat} (h : BG g x y) (hlt : y < x) : BG g (odp (x - y)) y ∧ 0 < x - y ∧ odp (x - y) + y < x + y := by
  obtain ⟨h1, h2, h3⟩ := h
  have h0 : 0 < x - y := by omega
  refine ⟨⟨(tz_split h0).2, h2, ?_⟩, h0, ?_⟩
  · rw [gcd_odp h0 h2, Nat.gcd_sub_self_left (by omega), h3]
  · have := odp_half h0 (by omega)
    omega
theorem BG.done {g x : Nat} (h : BG g x x) : g = x := by rw [← h.2.2, Nat.gcd_self]
theorem BG.start {x y : Nat} (hx : 0 < x) (hy : 0 < y) : BG (Nat.gcd (odp x) (odp y)) (odp x) (odp y) := ⟨(tz_split hx).2, (tz_split hy).2, rfl⟩
/-- The greatest common divisor of many. -/
def gcds (l : List Nat) : Nat := l.foldl Nat.gcd 0
theorem gcds_snoc (l : List Nat) (x : Nat) : gcds (l ++ [x]) = Nat.gcd (gcds l) x := by simp [gcds]
theorem tz_pow_le {x : Nat} (h : 0 < x) : 2 ^ tz x ≤ x := by
  have e := (tz_split h).1
  have h2 := odp_pos h
  have h3 : 2 ^ tz x * 1 ≤ 2 ^ tz x * odp x := Nat.mul_le_mul_left _ h2
  omega
theorem odp_limbs (x : Nat) : x / 4294967296 ^ (tz x / 32) / 2 ^ (tz x % 32) = odp x := by
  have e : (4294967296 : Nat) = 2 ^ 32 := by decide
  unfold odp
  rw [Nat.div_div_eq_div_mul, e, ← Nat.pow_mul, ← Nat.pow_add]
  congr 2; omega
theorem tz_limb {x : Nat} (h : 0 < x) : tz x / 32 < (digs 4294967296 x).length := by
  have h1 := tz_pow_le h
  have h2 := digs_lt_pow (B := 4294967296) (by omega) x
  have e : (4294967296 : Nat) = 2 ^ 32 := by decide
  rw [e, ← Nat.pow_mul] at h2
  have h3 : 2 ^ tz x < 2 ^ (32 * (digs 4294967296 x).length) := by rw [← e] at h2; exact Nat.lt_of_le_of_lt h1 h2
  have h4 := (Nat.pow_lt_pow_iff_right (show 1 < 2 by omega)).1 h3
  omega
end Go.Proofs.YtpcdkepkipadaaaGreat.num
namespace Go.Proofs.YtpcdkepkipadaaaGreat.nat
open Go.RowKit Go.Proofs.YtpcdkepkipadaaaGreat.num Go.Proofs.YtpcdkepkipadaaaGreat.mem Go.Proofs.YtpcdkepkipadaaaGreat.limb
set_option linter.unusedVariables false
/-- The call ends with a slice that reads as the list; what was there is as it was. -/
def RetSs (k : IntKind) (l : List Nat) (w : World) (e : Ending) (w' : World) : Prop := ∃ v, e = .returned v ∧ IsS w' k v l ∧ Below w.heap.size w w'
theorem dlen0 {B x : Nat} (hB : 2 ≤ B) (h : x = 0) : (digs B x).length ≤ 0 := by rw [h, digs_zero]; simp
theorem dlenp {B x : Nat} (hB : 2 ≤ B) (h : 0 < x) : 0 < (digs B x).length := by
  rcases Nat.eq_zero_or_pos (digs B x).length with h0 | h0
  · have := (digs_len0 hB).1 h0; omega
  · exact h0
set_option maxHeartbeats 800000 in
theorem refGcd_any (v u : Value) (x y : Nat) (w : World) (h : IsS w .i64 v (digs 10000 x)) (h' : IsS w .i64 u (digs 10000 y)) (hl : (digs 10000 x).length ≤ 100000) (hl' : (digs 10000 y).length ≤ 100000) :
    Calls Tryz.prog 74 #[v, u] w (RetSs .i64 (digs 10000 (Nat.gcd x y)) w) := by
  go_enter Tryz.func74, Tryz.ntmps74
  go_wp2
  go_loopg [0, 1] y (fun gk va vb wr => ∃ (p q : Nat), q ≤ gk ∧ IsS wr .i64 va (digs 10000 p) ∧ IsS wr .i64 vb (digs 10000 q) ∧ (digs 10000 p).length ≤ 100000 ∧ (digs 10000 q).length ≤ 100000 ∧ Hid (Nat.gcd p q = Nat.gcd x y) ∧ Below w.heap.size w wr)
  case atStart => exact ⟨x, y, Nat.le_refl _, h, h', hl, hl', rfl, Below.refl _ _⟩
  case round =>
    obtain ⟨p, q, hq, hp, hqs, lp, lq, HG, hb⟩ := hrel
    obtain ⟨A2, c2, rfl, _⟩ := id hqs
    by_cases hq0 : q = 0
    · have hz := dlen0 (B := 10000) (by omega) hq0
      have HE : Hid (Nat.gcd x y = p) := by have h1 := HG.out; rw [hq0, Nat.gcd_zero_right] at h1; exact h1.symm
      clear hq0
      go_wp2
      go_ret
      exact ⟨_, rfl, by rw [HE.out]; exact hp, hb⟩
    · have hz := dlenp (B := 10000) (x := q) (by omega) (by omega)
      have hml := dec_mod p q
      have hlt : p % q < q := Nat.mod_lt _ (by omega)
      have HG2 : Hid (Nat.gcd q (p % q) = Nat.gcd x y) := by show _ = _; rw [gcd_mod]; exact HG.out
      go_wp2_with fail
      refine (refDiv_any _ _ p q _ hp hqs lp lq (by omega)).mono ?_
      rintro e w' ⟨v3, v4, rfl, k3, k4, f3, f4, b4⟩
      have hb2 := hb.trans (b4.mono hb.size)
      go_wp2
      go_roundg (p % q)
      case rel => exact ⟨q, p % q, Nat.le_refl _, hqs.below b4, k4, lq, by omega, HG2, hb2⟩
      case measure => omega
set_option maxHeartbeats 400000 in
theorem gown_any (v : Value) (x : Nat) (w : World) (h : IsS w .u64 v (digs 4294967296 x)) (hl : (digs 4294967296 x).length ≤ 90000) :
    Calls Tryz.prog 122 #[v] w (RetS .u64 (digs 4294967296 x) w) := by
  go_enter Tryz.func122, Tryz.ntmps122
  go_wp2_with fail
  refine (small_any _ x _ _ 1 0 _ h (by omega) rfl rfl (by omega) (by omega) x (by omega)).mono ?_
  rintro e w1 ⟨v1, rfl, k1, f1, b1⟩
  go_wp2
  go_ret
  exact ⟨_, rfl, k1, f1, b1⟩
/-- Noughts below a number. -/
theorem digs_up {B : Nat} (hB : 2 ≤ B) (q : Nat) {y : Nat} (hy : 0 < y) : digs B (B ^ q * y) = List.replicate q 0 ++ digs B y := by
  induction q with
  | zero => simp
  | succ q ih =>
    have hp : 0 < B ^ q * y := Nat.mul_pos (Nat.pow_pos (by omega)) hy
    have e : B ^ (q + 1) * y = B * (B ^ q * y) := by rw [Nat.pow_succ, Nat.mul_comm (B ^ q) B, Nat.mul_assoc]
    rw [e, digs_pos hB (Nat.mul_pos (by omega) hp), Nat.mul_mod_right, Nat.mul_div_cancel_left _ (by omega), ih, List.replicate_succ, List.cons_append]
set_option maxHeartbeats 800000 in
theorem godd_any (v : Value) (x : Nat) (w : World) (h : IsS w .u64 v (digs 4294967296 x)) (hl : (digs 4294967296 x).length ≤ 90000) (hx : 0 < x) (y : Nat) (hy : y = odp x) :
    Calls Tryz.prog 124 #[v] w (RetS .u64 (digs 4294967296 y) w) := by
  obtain ⟨t, ht⟩ : ∃ t, t = tz x := ⟨_, rfl⟩
  have hgl : t / 32 < (digs 4294967296 x).length := by rw [ht]; exact tz_limb hx
  have HT := Lib.hid ht
  have HY : Hid (y = x / 4294967296 ^ (t / 32) / 2 ^ (t % 32)) := by show _ = _; rw [hy, ht, odp_limbs]
  have HD : Hid ((digs 4294967296 x).drop (t / 32) = digs 4294967296 (x / 4294967296 ^ (t / 32))) := drop_div (n := t / 32) (by omega)
  have hdl := digs_len_mono (B := 4294967296) (by omega) (Nat.div_le_self x (4294967296 ^ (t / 32)))
  clear ht hy
  obtain ⟨A, c, rfl, hc, hm, hr⟩ := id h
  have hm2 := hm
  unfold maxLen at hm2
  have hs : IsS w .u64 (.slice (A.map fun x => x.add (t / 32)) ((digs 4294967296 x).length - t / 32) (c - t / 32)) (digs 4294967296 (x / 4294967296 ^ (t / 32))) := by rw [← HD.out]; exact hr.isDrop hc hm (by omega)
  have hcap : t / 32 < c := by omega
  go_enter Tryz.func124, Tryz.ntmps124
  go_wp2_with fail
  refine (zeros_any _ x t _ h (by omega) HT.out).mono ?_
  rintro e w1 ⟨rfl, rfl⟩
  go_wp2_with fail
  all_goals
    refine (shr_ok _ (x / 4294967296 ^ (t / 32)) _ (t % 32) _ (by omega) (by first | exact hs | skip) (by omega) (by omega) y HY.out).mono ?_
    rintro e w1 ⟨v1, rfl, k1, f1, b1⟩
    go_wp2
    go_ret
    exact ⟨_, rfl, k1, f1, b1⟩
set_option maxHeartbeats 800000 in
theorem gdoubled_any (v : Value) (x : Nat) (nI : Int) (n : Nat) (w : World) (hnI : nI = (n : Int)) (h : IsS w .u64 v (digs 4294967296 x)) (hl : (digs 4294967296 x).length ≤ 90000) (hx : 0 < x) (hn : n ≤ 3000000) (y : Nat) (hy : y = x * 2 ^ n) :
    Calls Tryz.prog 126 #[v, .int .i64 nI] w (RetS .u64 (digs 4294967296 y) w) := by
  subst hnI
  have hz : 0 < x * 2 ^ (n % 32) := Nat.mul_pos hx (Nat.pow_pos (by omega))
  have hzl := up_len (x := x) (u := n % 32) (by omega)
  have HE : Hid (digs 4294967296 y = List.replicate (n / 32) 0 ++ digs 4294967296 (x * 2 ^ (n % 32))) := by
    show _ = _
    rw [← digs_up (by omega) _ hz, hy, pow32, Nat.mul_left_comm, ← Nat.pow_add]
    congr 3; omega
  clear hy
  go_enter Tryz.func126, Tryz.ntmps126
  go_wp2_with fail
  refine (shl_ok _ x _ (n % 32) _ (by omega) h (by omega) (by omega) _ rfl).mono ?_
  rintro e w1 ⟨v1, rfl, k1, f1, b1⟩
  obtain ⟨A1, c1, rfl, hc1, hm1, hr1⟩ := k1
  go_wp2_with (first
    | (at_make; refine wpList_make_rd rfl _ _ rfl sl24 (n / 32) rfl rfl (by omega) (by omega) (by omega) (Nat.le_refl _) ?_; intro w2 hown2 hb2 hz2)
    | (at_builtin; refine wpList_append_rd rfl (.tmp 16) (.tmp 17) rfl sl24 rfl hown2 rfl (news := digs 4294967296 (x * 2 ^ (n % 32))) rfl (hr1.below hb2) (by simp; omega) hb2.size ?_; intro v' w3 hown3 hb3 hg3))
  go_ret
  exact ⟨_, rfl, by rw [HE.out]; exact hown3.isS, hown3.fresh.mono b1.size, (b1.trans (hb2.mono b1.size)).trans (hb3.mono b1.size)⟩
theorem limb_bits {x n : Nat} (h : (digs 4294967296 x).length ≤ n) : x < 2 ^ (32 * n) := by
  have h2 := digs_lt_pow (B := 4294967296) (by omega) x
  rw [pow32] at h2
  exact Nat.lt_of_lt_of_le h2 (Nat.pow_le_pow_right (by omega) (by omega))
theorem tz_le {x n : Nat} (hx : 0 < x) (h : (digs 4294967296 x).length ≤ n) : tz x ≤ 32 * n := by
  have h1 := Nat.lt_of_le_of_lt (tz_pow_le hx) (limb_bits h)
  have := (Nat.pow_lt_pow_iff_right (show 1 < 2 by omega)).1 h1
  omega
theorem odp_len (x : Nat) : (digs 4294967296 (odp x)).length ≤ (digs 4294967296 x).length := digs_len_mono (by omega) (odp_le x)
theorem sub_len (x y : Nat) : (digs 4294967296 (x - y)).length ≤ (digs 4294967296 x).length := digs_len_mono (by omega) (Nat.sub_le _ _)
set_option maxHeartbeats 1600000 in
theorem binary_any (v u : Value) (x y : Nat) (w : World) (h : IsS w .u64 v (digs 4294967296 x)) (h' : IsS w .u64 u (digs 4294967296 y)) (hl : (digs 4294967296 x).length ≤ 90000) (hl' : (digs 4294967296 y).length ≤ 90000) (z : Nat) (hz : z = Nat.gcd x y) :
    Calls Tryz.prog 108 #[v, u] w (RetS .u64 (digs 4294967296 z) w) := by
  have HZ := Lib.hid hz
  clear hz
  by_cases hx0 : x = 0
  · have hzl := dlen0 (B := 4294967296) (by omega) hx0
    have HE : Hid (z = y) := by show _ = _; rw [HZ.out, hx0, Nat.gcd_zero_left]
    clear hx0
    go_enter Tryz.func108, Tryz.ntmps108
    go_wp2_with fail
    refine (gown_any _ x _ h hl).mono ?_
    rintro e w1 ⟨v1, rfl, k1, f1, b1⟩
    go_wp2_with fail
    refine (gown_any _ y _ (h'.below b1) hl').mono ?_
    rintro e w2 ⟨v2, rfl, k2, f2, b2⟩
    obtain ⟨A1, c1, rfl, _⟩ := id k1
    go_wp2
    go_ret
    exact ⟨_, rfl, by rw [HE.out]; exact k2, f2.mono b1.size, b1.trans (b2.mono b1.size)⟩
  · have hxp : 0 < x := by omega
    have hxl := dlenp (B := 4294967296) (by omega) hxp
    have hxl2 : (((digs 4294967296 x).length : Int) == 0) = false := by rw [beq_eq_false_iff_ne]; omega
    clear hx0
    by_cases hy0 : y = 0
    · have hzl := dlen0 (B := 4294967296) (by omega) hy0
      have HE : Hid (z = x) := by show _ = _; rw [HZ.out, hy0, Nat.gcd_zero_right]
      clear hy0
      go_enter Tryz.func108, Tryz.ntmps108
      go_wp2_with fail
      refine (gown_any _ x _ h hl).mono ?_
      rintro e w1 ⟨v1, rfl, k1, f1, b1⟩
      go_wp2_with fail
      refine (gown_any _ y _ (h'.below b1) hl').mono ?_
      rintro e w2 ⟨v2, rfl, k2, f2, b2⟩
      obtain ⟨A1, c1, rfl, _⟩ := id k1
      obtain ⟨A2, c2, rfl, _⟩ := id k2
      go_wp2
      go_ret
      exact ⟨_, rfl, by rw [HE.out]; exact k1.below b2, f1, b1.trans (b2.mono b1.size)⟩
    · have hyp : 0 < y := by omega
      have hyl := dlenp (B := 4294967296) (by omega) hyp
      have hyl2 : (((digs 4294967296 y).length : Int) == 0) = false := by rw [beq_eq_false_iff_ne]; omega
      clear hy0
      obtain ⟨t, ht⟩ : ∃ t, t = tz x := ⟨_, rfl⟩
      obtain ⟨s, hs⟩ : ∃ s, s = tz y := ⟨_, rfl⟩
      have htl := tz_le hxp hl
      have hsl := tz_le hyp hl'
      rw [← ht] at htl
      rw [← hs] at hsl
      obtain ⟨g, hg⟩ : ∃ g, g = Nat.gcd (odp x) (odp y) := ⟨_, rfl⟩
      have HG : Hid (z = g * 2 ^ min t s) := by show _ = _; rw [HZ.out, gcd_parts hxp hyp, hg, ht, hs]
      obtain ⟨p0, hp0⟩ : ∃ p, p = odp x := ⟨_, rfl⟩
      obtain ⟨q0, hq0⟩ : ∃ q, q = odp y := ⟨_, rfl⟩
      have hpl := odp_len x
      have hql := odp_len y
      have HB : Hid (BG g p0 q0) := by show BG _ _ _; rw [hg, hp0, hq0]; exact BG.start hxp hyp
      rw [← hp0] at hpl
      rw [← hq0] at hql
      have HT := Lib.hid ht
      have HS := Lib.hid hs
      have HP := Lib.hid hp0
      have HQ := Lib.hid hq0
      rcases (show (s < t ∧ min t s = s) ∨ (¬ s < t ∧ min t s = t) from by omega) with ⟨hst, hm⟩ | ⟨hst, hm⟩
      all_goals
        rw [hm] at HG
        clear ht hs hg hp0 hq0 HZ hm
        go_enter Tryz.func108, Tryz.ntmps108
        go_wp2_with fail
        refine (gown_any _ x _ h hl).mono ?_
        rintro e w1 ⟨v1, rfl, k1, f1, b1⟩
        go_wp2_with fail
        refine (gown_any _ y _ (h'.below b1) hl').mono ?_
        rintro e w2 ⟨v2, rfl, k2, f2, b2⟩
        replace k1 := k1.below b2
        have b3 := b1.trans (b2.mono b1.size)
        obtain ⟨A1, c1, rfl, _⟩ := id k1
        obtain ⟨A2, c2, rfl, _⟩ := id k2
        clear h h' b1 b2 f1 f2
        go_wp2_with fail
        refine (zeros_any _ x t _ k1 (by omega) HT.out).mono ?_
        rintro e w3 ⟨rfl, rfl⟩
        go_wp2_with fail
        refine (zeros_any _ y s _ k2 (by omega) HS.out).mono ?_
        rintro e w3 ⟨rfl, rfl⟩
        go_wp2_with fail
        refine (godd_any _ x _ k1 hl hxp p0 HP.out).mono ?_
        rintro e w3 ⟨v3, rfl, k3, f3, b4⟩
        have b5 := b3.trans (b4.mono b3.size)
        go_wp2_with fail
        refine (godd_any _ y _ (k2.below b4) hl' hyp q0 HQ.out).mono ?_
        rintro e w4 ⟨v4, rfl, k4, f4, b6⟩
        have b7 := b5.trans (b6.mono b5.size)
        replace k3 := k3.below b6
        clear k1 k2 b3 b4 b5 b6 f3 f4
        go_wp2_with fail
        refine (cmp_any _ _ p0 q0 (ord p0 q0) _ k3 k4 rfl).mono ?_
        rintro e w5 ⟨rfl, b8⟩
        have b9 := b7.trans (b8.mono b7.size)
        replace k3 := k3.below b8
        replace k4 := k4.below b8
        clear b7 b8
        go_wp2
        go_loopg [0, 1, 6] (p0 + q0) (fun gk va vb vo wr => ∃ (p q : Nat) (o : Int), p + q ≤ gk ∧ IsS wr .u64 va (digs 4294967296 p) ∧ IsS wr .u64 vb (digs 4294967296 q) ∧ (digs 4294967296 p).length ≤ 90000 ∧ (digs 4294967296 q).length ≤ 90000 ∧ Hid (BG g p q) ∧ Hid (o = ord p q) ∧ vo = .int .i64 o ∧ Below w.heap.size w wr)
        case atStart => exact ⟨p0, q0, _, Nat.le_refl _, k3, k4, by omega, by omega, HB, rfl, rfl, b9⟩
        case round =>
          clear k3 k4 b9
          obtain ⟨p, q, o, hpq, kp, kq, lp, lq, HBG, HO, rfl, hb⟩ := hrel
          rcases Nat.lt_trichotomy p q with hlt | heq | hlt
          · obtain rfl : o = -1 := by rw [HO.out]; exact ord_lt hlt
            clear HO
            obtain ⟨hs1, hs2, hs3⟩ := HBG.out.swap.step hlt
            have HS1 := Lib.hid hs1
            have hs4 := sub_len q p
            have hs5 := odp_len (q - p)
            clear hs1
            go_wp2_with fail
            refine (sub_ok _ _ q p _ kq kp (by omega) (by omega) (q - p) rfl).mono ?_
            rintro e w5 ⟨v5, rfl, k5, f5, b5⟩
            go_wp2_with fail
            refine (godd_any _ (q - p) _ k5 (by omega) hs2 (odp (q - p)) rfl).mono ?_
            rintro e w6 ⟨v6, rfl, k6, f6, b6⟩
            have kp2 := (kp.below b5).below b6
            have b7 := (hb.trans (b5.mono hb.size))
            have b8 := b7.trans (b6.mono b7.size)
            go_wp2_with fail
            refine (cmp_any _ _ (odp (q - p)) p (ord (odp (q - p)) p) _ k6 kp2 rfl).mono ?_
            rintro e w7 ⟨rfl, b9⟩
            have b10 := b8.trans (b9.mono b8.size)
            go_wp2
            go_roundg (odp (q - p) + p)
            case rel => exact ⟨odp (q - p), p, _, Nat.le_refl _, k6.below b9, kp2.below b9, by omega, by omega, HS1, rfl, rfl, b10⟩
            case measure => omega
          · obtain rfl : o = 0 := by rw [HO.out, heq]; exact ord_eq q
            subst heq
            have HZ := (fun m (hh : Hid (z = g * 2 ^ m)) => (show Hid (z = p * 2 ^ m) from by show _ = _; rw [hh.out, HBG.out.done])) _ HG
            have hpos : 0 < p := by have := HBG.out.1; omega
            clear HO
            go_wp2_with fail
            refine (gdoubled_any _ p _ _ _ rfl kp (by omega) hpos (by omega) z HZ.out).mono ?_
            rintro e w5 ⟨v5, rfl, k5, f5, b5⟩
            go_wp2
            go_ret
            exact ⟨_, rfl, k5, f5.mono hb.size, hb.trans (b5.mono hb.size)⟩
          · obtain rfl : o = 1 := by rw [HO.out]; exact ord_gt hlt
            clear HO
            obtain ⟨hs1, hs2, hs3⟩ := HBG.out.step hlt
            have HS1 := Lib.hid hs1
            have hs4 := sub_len p q
            have hs5 := odp_len (p - q)
            clear hs1
            go_wp2_with fail
            refine (sub_ok _ _ p q _ kp kq (by omega) (by omega) (p - q) rfl).mono ?_
            rintro e w5 ⟨v5, rfl, k5, f5, b5⟩
            go_wp2_with fail
            refine (godd_any _ (p - q) _ k5 (by omega) hs2 (odp (p - q)) rfl).mono ?_
            rintro e w6 ⟨v6, rfl, k6, f6, b6⟩
            have kq2 := (kq.below b5).below b6
            have b7 := (hb.trans (b5.mono hb.size))
            have b8 := b7.trans (b6.mono b7.size)
            go_wp2_with fail
            refine (cmp_any _ _ (odp (p - q)) q (ord (odp (p - q)) q) _ k6 kq2 rfl).mono ?_
            rintro e w7 ⟨rfl, b9⟩
            have b10 := b8.trans (b9.mono b8.size)
            go_wp2
            go_roundg (odp (p - q) + q)
            case rel => exact ⟨odp (p - q), q, _, Nat.le_refl _, k6.below b9, kq2.below b9, by omega, by omega, HS1, rfl, rfl, b10⟩
            case measure => omega
theorem gcd_len {x y n : Nat} (hx : (digs 4294967296 x).length ≤ n) (hy : (digs 4294967296 y).length ≤ n) : (digs 4294967296 (Nat.gcd x y)).length ≤ n := by
  rcases Nat.eq_zero_or_pos x with h | h
  · rw [h, Nat.gcd_zero_left]; exact hy
  · exact Nat.le_trans (digs_len_mono (by omega) (Nat.gcd_le_left y h)) hx
/-- Each of them has so many limbs at most. -/
def Lens (n : Nat) (xs : List Nat) : Prop := ∀ x ∈ xs, (digs 4294967296 x).length ≤ n
theorem Lens.at {n : Nat} {xs : List Nat} (h : Lens n xs) {k x : Nat} (hk : xs[k]? = some x) : (digs 4294967296 x).length ≤ n := h x (List.mem_of_getElem? hk)
theorem Lens.snoc {n : Nat} {xs : List Nat} (h : Lens n xs) {x : Nat} (hx : (digs 4294967296 x).length ≤ n) : Lens n (xs ++ [x]) := by
  intro y hy
  rcases List.mem_append.1 hy with hy | hy
  · exact h y hy
  · rw [List.mem_singleton.1 hy]; exact hx
theorem gcds_step {xs : List Nat} {k x : Nat} (h : xs[k]? = some x) : gcds (xs.take (k + 1)) = Nat.gcd (gcds (xs.take k)) x := by rw [take_step h, gcds_snoc]
set_option maxHeartbeats 1600000 in
theorem ggcd_any (V : Value) (vs : List Value) (xs : List Nat) (w : World) (hV : IsV w V vs) (hN : Nums w vs xs) (hl : vs.length ≤ 1000000) (hS : Lens 90000 xs) :
    Calls Tryz.prog 80 #[V] w (RetS .u64 (digs 4294967296 (gcds xs)) w) := by
  obtain ⟨A, c, rfl, hc, hcells⟩ := hV
  have HC := Lib.hid hcells
  have HN := Lib.hid hN
  have HX : Hid (vs.length = xs.length) := hN.1
  have HS := Lib.hid hS
  clear hcells hN hS
  go_enter Tryz.func80, Tryz.ntmps80
  go_wp2
  go_loopw [3, 9] (fun vg vi wr => ∃ (k G : Nat), k ≤ vs.length ∧ Hid (G = gcds (xs.take k)) ∧ (digs 4294967296 G).length ≤ 90000 ∧ IsS wr .u64 vg (digs 4294967296 G) ∧ Fresh w.heap.size vg ∧ Below w.heap.size w wr ∧ vi = .int .i64 (k : Int)) (fun _ vi _ => vs.length - (intOf vi).toNat)
  case atStart => exact ⟨0, 0, by omega, rfl, by rw [digs_zero]; simp, by rw [digs_zero]; exact (own_lit0 w w.heap.size _ .u64 (Nat.le_refl _)).isS, fresh_at (Nat.le_refl _), below_alloc (Nat.le_refl _) _, rfl⟩
  case round =>
    obtain ⟨k, G, hk, HG, lG, kG, fG, hb, rfl⟩ := hrel
    by_cases hp : k < vs.length
    · obtain ⟨u, x, hu, hx, hv⟩ := HN.out.at_ hp
      obtain ⟨ad, rfl, hcell⟩ := HC.out k u hu
      have hcell2 := (hb.cell (World.block_lt_of_cell? w _ hcell)).trans hcell
      have lx := HS.out.at hx
      have hv2 := hv.below hb
      have hlz : (digs 4294967296 (Nat.gcd G x)).length ≤ 90000 := gcd_len lG lx
      obtain ⟨z, hz⟩ : ∃ z, z = Nat.gcd G x := ⟨_, rfl⟩
      rw [← hz] at hlz
      have HT : Hid (z = gcds (xs.take (k + 1))) := by show _ = _; rw [gcds_step hx, ← HG.out]; exact hz
      obtain ⟨t, ht⟩ : ∃ t, t = ord x G := ⟨_, rfl⟩
      have HO := Lib.hid ht
      have HZ := Lib.hid hz
      obtain ⟨A1, c1, rfl, _⟩ := id hv2
      obtain ⟨A2, c2, rfl, _⟩ := id kG
      clear hu hx hv hcell hz
      by_cases hlt : x < G
      · have ht0 : t < 0 := by rw [ht]; exact ord_lt0.2 hlt
        clear ht
        rcases Nat.eq_zero_or_pos x with hx0 | hx0
        · have hzl := dlen0 (B := 4294967296) (by omega) hx0
          clear hx0
          go_wp2_with fail
          refine (cmp_any _ _ x G t _ hv2 kG HO.out).mono ?_
          rintro e w1 ⟨rfl, b1⟩
          go_wp2_with fail
          refine (binary_any _ _ G x _ (kG.below b1) (hv2.below b1) lG lx z HZ.out).mono ?_
          rintro e w2 ⟨v2, rfl, k2, f2, b2⟩
          have b3 := hb.trans (b1.mono hb.size)
          have b4 := b3.trans (b2.mono b3.size)
          go_wp2
          go_roundw
          case rel => exact ⟨k + 1, z, by omega, HT, hlz, k2, f2.mono b3.size, b4, by go_num⟩
          case measure => simp [intOf]; omega
        · have hzl := dlenp (B := 4294967296) (by omega) hx0
          have hml := mod_len' (x := G) (y := x) hx0
          have HZ2 : Hid (z = Nat.gcd (G % x) x) := by show _ = _; rw [HZ.out, Nat.gcd_comm G x, Nat.gcd_rec]
          go_wp2_with fail
          refine (cmp_any _ _ x G t _ hv2 kG HO.out).mono ?_
          rintro e w1 ⟨rfl, b1⟩
          have b3 := hb.trans (b1.mono hb.size)
          replace hv2 := hv2.below b1
          replace kG := kG.below b1
          go_wp2_with fail
          refine (dmod_ok _ _ G x _ kG hv2 lG lx hx0 (G % x) rfl).mono ?_
          rintro e w2 ⟨v2, rfl, k2, f2, b2⟩
          have b4 := b3.trans (b2.mono b3.size)
          go_wp2_with fail
          refine (binary_any _ _ (G % x) x _ k2 (hv2.below b2) (by omega) lx z HZ2.out).mono ?_
          rintro e w3 ⟨v3, rfl, k3, f3, b5⟩
          have b6 := b4.trans (b5.mono b4.size)
          go_wp2
          go_roundw
          case rel => exact ⟨k + 1, z, by omega, HT, hlz, k3, f3.mono b4.size, b6, by go_num⟩
          case measure => simp [intOf]; omega
      · have ht0 : ¬ t < 0 := by rw [ht, ord_lt0]; exact hlt
        clear ht
        rcases Nat.eq_zero_or_pos G with hx0 | hx0
        · have hzl := dlen0 (B := 4294967296) (by omega) hx0
          have HZ2 : Hid (z = Nat.gcd x G) := by show _ = _; rw [HZ.out, Nat.gcd_comm]
          clear hx0
          go_wp2_with fail
          refine (cmp_any _ _ x G t _ hv2 kG HO.out).mono ?_
          rintro e w1 ⟨rfl, b1⟩
          go_wp2_with fail
          refine (binary_any _ _ x G _ (hv2.below b1) (kG.below b1) lx lG z HZ2.out).mono ?_
          rintro e w2 ⟨v2, rfl, k2, f2, b2⟩
          have b3 := hb.trans (b1.mono hb.size)
          have b4 := b3.trans (b2.mono b3.size)
          go_wp2
          go_roundw
          case rel => exact ⟨k + 1, z, by omega, HT, hlz, k2, f2.mono b3.size, b4, by go_num⟩
          case measure => simp [intOf]; omega
        · have hzl := dlenp (B := 4294967296) (by omega) hx0
          have hml := mod_len' (x := x) (y := G) hx0
          have HZ2 : Hid (z = Nat.gcd (x % G) G) := by show _ = _; rw [HZ.out, Nat.gcd_rec]
          go_wp2_with fail
          refine (cmp_any _ _ x G t _ hv2 kG HO.out).mono ?_
          rintro e w1 ⟨rfl, b1⟩
          have b3 := hb.trans (b1.mono hb.size)
          replace hv2 := hv2.below b1
          replace kG := kG.below b1
          go_wp2_with fail
          refine (dmod_ok _ _ x G _ hv2 kG lx lG hx0 (x % G) rfl).mono ?_
          rintro e w2 ⟨v2, rfl, k2, f2, b2⟩
          have b4 := b3.trans (b2.mono b3.size)
          go_wp2_with fail
          refine (binary_any _ _ (x % G) G _ k2 (kG.below b2) (by omega) lG z HZ2.out).mono ?_
          rintro e w3 ⟨v3, rfl, k3, f3, b5⟩
          have b6 := b4.trans (b5.mono b4.size)
          go_wp2
          go_roundw
          case rel => exact ⟨k + 1, z, by omega, HT, hlz, k3, f3.mono b4.size, b6, by go_num⟩
          case measure => simp [intOf]; omega
    · have HE : Hid (G = gcds xs) := by have h1 := HG.out; rw [List.take_of_length_le (by have := HX.out; omega)] at h1; exact h1
      go_wp2
      go_ret
      exact ⟨_, rfl, by rw [← HE.out]; exact kG, fG, hb⟩
end Go.Proofs.YtpcdkepkipadaaaGreat.nat
namespace Go.Proofs.YtpcdkepkipadaaaGreat.rat
open Go.RowKit Go.Proofs.YtpcdkepkipadaaaGreat.num Go.Proofs.YtpcdkepkipadaaaGreat.mem Go.Proofs.YtpcdkepkipadaaaGreat.nat Go.Proofs.YtpcdkepkipadaaaGreat.txt Go.Proofs.YtpcdkepkipadaaaGreat.str Go.Proofs.YtpcdkepkipadaaaGreat.flow Go.Proofs.YtpcdkepkipadaaaGreat.whl
set_option linter.unusedVariables false
def psn (k : IntKind) (l : List Nat) : Pd := ⟨fun w v => IsS w k v l, fun h hb => h.below hb⟩
theorem IsQ.drew {w : World} {v : Value} {q : Rat} (h : IsQ w v q) : IsQ w.drew v q := by
  obtain ⟨u, t, e, h1, h2⟩ := h
  exact ⟨u, t, e, h1.drew, h2.drew⟩
theorem IsP.drew {w : World} {v : Value} {q : Rat} (h : IsP w v q) : IsP w.drew v q := by
  obtain ⟨u, t, e, h1, h2⟩ := h
  exact ⟨u, t, e, h1.drew, h2.drew⟩
set_option maxHeartbeats 1600000 in
set_option maxRecDepth 100000 in
theorem rlow_any (a0 : Value) (z : Int) (a1 : Value) (d : Nat) (w : World) (h0 : IsR w a0 z) (h1 : IsS w .i64 a1 (digs 10000 d)) (hd : d ≠ 0) (hl : lenZ z ≤ 30000) (hl2 : (digs 4294967296 d).length ≤ 30000) :
    Calls Tryz.prog 38 #[a0, a1] w (RetPF (mkRat z d) w) := by
  have HL : Hid ((digs 10000 z.natAbs).length ≤ 100000) := Nat.le_trans (lenZ_dec z) (by omega)
  have HL2 : Hid ((digs 10000 d).length ≤ 100000) := Nat.le_trans (dec_le d) (by omega)
  obtain ⟨G, hG⟩ : ∃ G, G = Nat.gcd z.natAbs d := ⟨_, rfl⟩
  obtain ⟨X, hX⟩ : ∃ X, X = z.natAbs / G := ⟨_, rfl⟩
  obtain ⟨Y, hY⟩ : ∃ Y, Y = d / G := ⟨_, rfl⟩
  have hGp : 0 < G := by rw [hG]; exact Nat.gcd_pos_of_pos_right _ (by omega)
  have HGl : Hid ((digs 10000 G).length ≤ 100000) := Nat.le_trans (digs_len_mono (by omega) (by rw [hG]; exact Nat.le_of_dvd (by omega) (Nat.gcd_dvd_right _ _))) HL2.out
  have HQN : Hid ((mkRat z d).num.natAbs = X) := by show _ = _; rw [hX, hG]; exact mk_num z hd
  have HQD : Hid ((mkRat z d).den = Y) := by show _ = _; rw [hY, hG]; exact mk_den z hd
  have HQS := Lib.hid (mk_neg z hd)
  have HXp : z < 0 → 0 < X := by intro hz; rw [hX]; exact Nat.div_pos (Nat.le_of_dvd (by omega) (by rw [hG]; exact Nat.gcd_dvd_left _ _)) hGp
  have HG := Lib.hid hG.symm
  have HX := Lib.hid hX.symm
  have HY := Lib.hid hY.symm
  clear hG hX hY
  rcases hs0 : ngB z with _ | _
  · obtain ⟨u0, rfl, s0⟩ := h0
    obtain ⟨A0, c0, rfl, _⟩ := id s0
    have s1 := h1
    obtain ⟨A1, c1, rfl, _⟩ := id s1
    go_enter Tryz.func38, Tryz.ntmps38
    go_upto_region 1 with (fail)
    obtain ⟨wx, hwx, bb, B0, BR0, hsz⟩ := vars2 w 45 47 #[.bool false, .slice A0 (digs 10000 (z).natAbs).length c0] #[.bool false, .slice none 0 0, .slice none 0 0]
    rw [hwx]
    clear hwx
    have k0s := s0.below bb
    have k0 : IsR wx (.agg #[.bool false, .slice A0 (digs 10000 (z).natAbs).length c0]) (z) := isR_mk k0s rfl hs0.symm
    have k1 := s1.below bb
    have hsz0 := bb.size
    have sB := bb.size
    refine flowp 5 [Pd.eq (.pointer (some ⟨w.heap.size, 1, none⟩)), Pd.eq (.slice A0 (digs 10000 (z).natAbs).length c0), Pd.eq (.slice A1 (digs 10000 d).length c1), psn .i64 (digs 10000 G), psn .i64 (digs 10000 G)] (by kernel_rfl) ?ob1 ?done1
    case ob1 =>
      refine And.intro (ob_fieldAddr rfl (wt_none rfl) (ev_far rfl rfl) (fun _ => by kernel_rfl) (fun _ => rfl)) ?_
      refine And.intro (ob_load rfl (wt_none rfl) (ev_dep (j := 0) (by kernel_rfl) rfl rfl) (fun w2 hb => run_load1 Tryz.underlying43 rfl ((B0.below hb).cell 1)) (fun _ _ => rfl)) ?_
      refine And.intro (ob_move rfl (wt_none rfl) (ev_far rfl rfl) (fun _ _ h => h)) ?_
      refine And.intro (ob_call2 rfl Tryz.func74 (by kernel_rfl) (wt_none rfl) (ev_dep (j := 1) (by kernel_rfl) rfl rfl) (ev_dep (j := 2) (by kernel_rfl) rfl rfl) (fun w2 u0 u1 hb h0 h1 => by obtain rfl := h0; obtain rfl := h1; exact (HG.out ▸ refGcd_any _ _ _ _ _ (k0s.below hb) (k1.below hb) HL.out HL2.out).mono fun e w3 h => h)) ?_
      refine And.intro (ob_assign rfl (wt_none rfl) (ev_dep (j := 3) (by kernel_rfl) rfl rfl) (fun _ _ h => h)) ?_
      trivial
    case done1 =>
      refine fun w11 hb11 v0 h0 v1 h1 v2 h2 v3 h3 v4 h4 b hbf => ?_
      obtain rfl := h0; obtain rfl := h1; obtain rfl := h2
      have q3 := h3
      have q4 := h4
      simp only [Act.put, List.setIfInBounds_toArray, List.set_cons_zero, List.set_cons_succ] at hbf
      subst hbf
      replace B0 := B0.below hb11
      replace k0s := k0s.below hb11
      replace k0 := k0.below hb11
      replace BR0 := BR0.below hb11
      replace k1 := k1.below hb11
      replace bb := bb.trans (hb11.mono bb.size)
      have hsz11 := bb.size
      refine ops_done ?_
      obtain ⟨A5, c5, rfl, _⟩ := id q4
      have kg := q4
      have sB := bb.size
      go_upto_region 2 with (fail)
      refine flowp 9 [Pd.eq (.pointer (some ⟨w.heap.size, 1, none⟩)), Pd.eq (.slice A0 (digs 10000 (z).natAbs).length c0), Pd.eq (.slice A5 (digs 10000 G).length c5), pt2 .i64 (digs 10000 X) (digs 10000 (z.natAbs % G)) w11.heap.size, pt2 .i64 (digs 10000 X) (digs 10000 (z.natAbs % G)) w11.heap.size, ps .i64 (digs 10000 X) w11.heap.size, ps .i64 (digs 10000 (z.natAbs % G)) w11.heap.size, ps .i64 (digs 10000 X) w11.heap.size, ps .i64 (digs 10000 (z.natAbs % G)) w11.heap.size] (by kernel_rfl) ?ob2 ?done2
      case ob2 =>
        refine And.intro (ob_fieldAddr rfl (wt_none rfl) (ev_far rfl rfl) (fun _ => by kernel_rfl) (fun _ => rfl)) ?_
        refine And.intro (ob_load rfl (wt_none rfl) (ev_dep (j := 0) (by kernel_rfl) rfl rfl) (fun w2 hb => run_load1 Tryz.underlying43 rfl ((B0.below hb).cell 1)) (fun _ _ => rfl)) ?_
        refine And.intro (ob_move rfl (wt_none rfl) (ev_far rfl rfl) (fun _ _ h => h)) ?_
        refine And.intro (ob_call2 rfl Tryz.func75 (by kernel_rfl) (wt_none rfl) (ev_dep (j := 1) (by kernel_rfl) rfl rfl) (ev_dep (j := 2) (by kernel_rfl) rfl rfl) (fun w2 u0 u1 hb h0 h1 => by obtain rfl := h0; obtain rfl := h1; exact (HX.out ▸ refDiv_any _ _ z.natAbs G _ (k0s.below hb) (kg.below hb) HL.out HGl.out hGp).mono fun e w3 h => RetSS.pd h hb.size)) ?_
        refine And.intro (ob_move rfl (wt_none rfl) (ev_dep (j := 3) (by kernel_rfl) rfl rfl) (fun _ _ h => h)) ?_
        refine And.intro (ob_extract rfl (wt_none rfl) (ev_dep (j := 4) (by kernel_rfl) rfl rfl) (fun w2 u hu => by obtain ⟨v, u, rfl, q1, q2, q3, q4⟩ := hu; exact ⟨v, rfl, q1, q3⟩)) ?_
        refine And.intro (ob_extract rfl (wt_none rfl) (ev_dep (j := 4) (by kernel_rfl) rfl rfl) (fun w2 u hu => by obtain ⟨v, u, rfl, q1, q2, q3, q4⟩ := hu; exact ⟨u, rfl, q2, q4⟩)) ?_
        refine And.intro (ob_assign rfl (wt_none rfl) (ev_dep (j := 5) (by kernel_rfl) rfl rfl) (fun _ _ h => h)) ?_
        refine And.intro (ob_assign rfl (wt_none rfl) (ev_dep (j := 6) (by kernel_rfl) rfl rfl) (fun _ _ h => h)) ?_
        trivial
      case done2 =>
        refine fun w12 hb12 v0 h0 v1 h1 v2 h2 v3 h3 v4 h4 v5 h5 v6 h6 v7 h7 v8 h8 b hbf => ?_
        obtain rfl := h0; obtain rfl := h1; obtain rfl := h2
        clear h3
        clear h4
        obtain ⟨q5, f5⟩ := h5
        obtain ⟨q6, f6⟩ := h6
        obtain ⟨q7, f7⟩ := h7
        obtain ⟨q8, f8⟩ := h8
        simp only [Act.put, List.setIfInBounds_toArray, List.set_cons_zero, List.set_cons_succ] at hbf
        subst hbf
        replace B0 := B0.below hb12
        replace k0s := k0s.below hb12
        replace k0 := k0.below hb12
        replace BR0 := BR0.below hb12
        replace k1 := k1.below hb12
        replace kg := kg.below hb12
        replace bb := bb.trans (hb12.mono bb.size)
        have hsz12 := bb.size
        have s_5 := sB
        have s_6 := sB
        have s_7 := sB
        have s_8 := sB
        refine ops_done ?_
        obtain ⟨A6, c6, rfl, _⟩ := id q7
        have kx := q7
        have kxf := f7
        have kxz_ := s_7
        have sB := bb.size
        go_upto_region 3 with (fail)
        refine flowp 8 [Pd.eq (.slice A1 (digs 10000 d).length c1), Pd.eq (.slice A5 (digs 10000 G).length c5), pt2 .i64 (digs 10000 Y) (digs 10000 (d % G)) w12.heap.size, pt2 .i64 (digs 10000 Y) (digs 10000 (d % G)) w12.heap.size, ps .i64 (digs 10000 Y) w12.heap.size, ps .i64 (digs 10000 (d % G)) w12.heap.size, ps .i64 (digs 10000 Y) w12.heap.size, ps .i64 (digs 10000 (d % G)) w12.heap.size] (by kernel_rfl) ?ob3 ?done3
        case ob3 =>
          refine And.intro (ob_move rfl (wt_none rfl) (ev_far rfl rfl) (fun _ _ h => h)) ?_
          refine And.intro (ob_move rfl (wt_none rfl) (ev_far rfl rfl) (fun _ _ h => h)) ?_
          refine And.intro (ob_call2 rfl Tryz.func75 (by kernel_rfl) (wt_none rfl) (ev_dep (j := 0) (by kernel_rfl) rfl rfl) (ev_dep (j := 1) (by kernel_rfl) rfl rfl) (fun w2 u0 u1 hb h0 h1 => by obtain rfl := h0; obtain rfl := h1; exact (HY.out ▸ refDiv_any _ _ d G _ (k1.below hb) (kg.below hb) HL2.out HGl.out hGp).mono fun e w3 h => RetSS.pd h hb.size)) ?_
          refine And.intro (ob_move rfl (wt_none rfl) (ev_dep (j := 2) (by kernel_rfl) rfl rfl) (fun _ _ h => h)) ?_
          refine And.intro (ob_extract rfl (wt_none rfl) (ev_dep (j := 3) (by kernel_rfl) rfl rfl) (fun w2 u hu => by obtain ⟨v, u, rfl, q1, q2, q3, q4⟩ := hu; exact ⟨v, rfl, q1, q3⟩)) ?_
          refine And.intro (ob_extract rfl (wt_none rfl) (ev_dep (j := 3) (by kernel_rfl) rfl rfl) (fun w2 u hu => by obtain ⟨v, u, rfl, q1, q2, q3, q4⟩ := hu; exact ⟨u, rfl, q2, q4⟩)) ?_
          refine And.intro (ob_assign rfl (wt_none rfl) (ev_dep (j := 4) (by kernel_rfl) rfl rfl) (fun _ _ h => h)) ?_
          refine And.intro (ob_assign rfl (wt_none rfl) (ev_dep (j := 5) (by kernel_rfl) rfl rfl) (fun _ _ h => h)) ?_
          trivial
        case done3 =>
          refine fun w13 hb13 v0 h0 v1 h1 v2 h2 v3 h3 v4 h4 v5 h5 v6 h6 v7 h7 b hbf => ?_
          obtain rfl := h0; obtain rfl := h1
          clear h2
          clear h3
          obtain ⟨q4, f4⟩ := h4
          obtain ⟨q5, f5⟩ := h5
          obtain ⟨q6, f6⟩ := h6
          obtain ⟨q7, f7⟩ := h7
          simp only [Act.put, List.setIfInBounds_toArray, List.set_cons_zero, List.set_cons_succ] at hbf
          subst hbf
          replace B0 := B0.below hb13
          replace k0s := k0s.below hb13
          replace k0 := k0.below hb13
          replace BR0 := BR0.below hb13
          replace k1 := k1.below hb13
          replace kg := kg.below hb13
          replace kx := kx.below hb13
          replace bb := bb.trans (hb13.mono bb.size)
          have hsz13 := bb.size
          have s_4 := sB
          have s_5 := sB
          have s_6 := sB
          have s_7 := sB
          refine ops_done ?_
          obtain ⟨A8, c8, rfl, _⟩ := id q6
          have ky := q6
          have kyf := f6
          have kyz_ := s_6
          have sB := bb.size
          go_upto_region 4 with (fail)
          refine flowp 11 [Pd.eq (.pointer (some ⟨w.heap.size, 0, none⟩)), Pd.eq (.bool false), Pd.eq (.bool false), Pd.any, Pd.any, Pd.any, Pd.eq (.bool false), Pd.eq (.slice A6 (digs 10000 X).length c6), Pd.eq (.agg #[.bool false, .slice A6 (digs 10000 X).length c6]), Pd.eq (.slice A8 (digs 10000 Y).length c8), Pd.eq (.agg #[.bool false, .slice A6 (digs 10000 X).length c6, .slice A8 (digs 10000 Y).length c8])] (by kernel_rfl) ?ob4 ?done4
          case ob4 =>
            refine And.intro (ob_fieldAddr rfl (wt_none rfl) (ev_far rfl rfl) (fun _ => by kernel_rfl) (fun _ => rfl)) ?_
            refine And.intro (ob_load rfl (wt_none rfl) (ev_dep (j := 0) (by kernel_rfl) rfl rfl) (fun w2 hb => run_load1 Tryz.underlying4 rfl ((B0.below hb).cell 0)) (fun _ _ => rfl)) ?_
            refine And.intro (ob_move rfl (wt_none rfl) (ev_dep (j := 1) (by kernel_rfl) rfl rfl) (fun _ _ h => h)) ?_
            refine And.intro (ob_not (wt_dep (c := false) (b := true) (g := 2) rfl (by kernel_rfl) rfl rfl rfl (by exact fun _ _ h => h)) (fun _ => trivial) rfl) ?_
            refine And.intro (ob_not (wt_dep (c := false) (b := true) (g := 2) rfl (by kernel_rfl) rfl rfl rfl (by exact fun _ _ h => h)) (fun _ => trivial) rfl) ?_
            refine And.intro (ob_not (wt_dep (c := false) (b := true) (g := 2) rfl (by kernel_rfl) rfl rfl rfl (by exact fun _ _ h => h)) (fun _ => trivial) rfl) ?_
            refine And.intro (ob_pick (b := false) rfl (wt_none rfl) (ev_dep (j := 2) (by kernel_rfl) rfl rfl) (ev_const _) (fun _ _ h => h)) ?_
            refine And.intro (ob_move rfl (wt_none rfl) (ev_far rfl rfl) (fun _ _ h => h)) ?_
            refine And.intro (ob_build2b rfl (wt_none rfl) (ev_dep (j := 6) (by kernel_rfl) rfl rfl) (ev_dep (j := 7) (by kernel_rfl) rfl rfl) (fun w2 u v hb hu hv => by obtain rfl := hu; obtain rfl := hv; exact ⟨.agg #[.bool false, .slice A6 (digs 10000 X).length c6], by kernel_rfl, rfl⟩)) ?_
            refine And.intro (ob_move rfl (wt_none rfl) (ev_far rfl rfl) (fun _ _ h => h)) ?_
            refine And.intro (ob_build2b rfl (wt_none rfl) (ev_dep (j := 8) (by kernel_rfl) rfl rfl) (ev_dep (j := 9) (by kernel_rfl) rfl rfl) (fun w2 u v hb hu hv => by obtain rfl := hu; obtain rfl := hv; exact ⟨.agg #[.bool false, .slice A6 (digs 10000 X).length c6, .slice A8 (digs 10000 Y).length c8], by kernel_rfl, rfl⟩)) ?_
            trivial
          case done4 =>
            refine fun w14 hb14 v0 h0 v1 h1 v2 h2 v3 h3 v4 h4 v5 h5 v6 h6 v7 h7 v8 h8 v9 h9 v10 h10 b hbf => ?_
            obtain rfl := h0; obtain rfl := h1; obtain rfl := h2; obtain rfl := h6; obtain rfl := h7; obtain rfl := h8; obtain rfl := h9; obtain rfl := h10
            clear h3
            clear h4
            clear h5
            simp only [Act.put, List.setIfInBounds_toArray, List.set_cons_zero, List.set_cons_succ] at hbf
            subst hbf
            replace B0 := B0.below hb14
            replace k0s := k0s.below hb14
            replace k0 := k0.below hb14
            replace BR0 := BR0.below hb14
            replace k1 := k1.below hb14
            replace kg := kg.below hb14
            replace kx := kx.below hb14
            replace ky := ky.below hb14
            replace bb := bb.trans (hb14.mono bb.size)
            have hsz14 := bb.size
            refine ops_store (i := 11) rfl rfl rfl rfl rfl rfl (cells := [.bool false, .slice A6 (digs 10000 X).length c6, .slice A8 (digs 10000 Y).length c8]) rfl BR0 rfl (by kernel_rfl) (one3 rfl rfl rfl) fun w9 hg9 B9 => ?_
            have k9 := off kx BR0 no_ints3 hg9
            have d9 := off ky BR0 no_ints3 hg9
            have bb9 := bb.trans ((Below.refl _ _).grown hg9 bb.size (fun g hg => by injection hg with hg; omega))
            obtain ⟨C0, C1, C2, _, _, _⟩ := three B9
            refine ops_done ?_
            go_wp2
            exact bodyPost_ret (v := .agg #[.bool false, .slice A6 (digs 10000 X).length c6, .slice A8 (digs 10000 Y).length c8]) (by simp [results, Tryz.results38, go_sem, C0, C1, C2]) rfl ⟨_, rfl, isP_mk k9 d9 (by rw [HQS.out, hs0]) HQN.out HQD.out, freshQ_mk (kxf.mono kxz_) (kyf.mono kyz_), bb9⟩
  · obtain ⟨u0, rfl, s0⟩ := h0
    obtain ⟨A0, c0, rfl, _⟩ := id s0
    have s1 := h1
    obtain ⟨A1, c1, rfl, _⟩ := id s1
    go_enter Tryz.func38, Tryz.ntmps38
    go_upto_region 1 with (fail)
    obtain ⟨wx, hwx, bb, B0, BR0, hsz⟩ := vars2 w 45 47 #[.bool true, .slice A0 (digs 10000 (z).natAbs).length c0] #[.bool false, .slice none 0 0, .slice none 0 0]
    rw [hwx]
    clear hwx
    have k0s := s0.below bb
    have k0 : IsR wx (.agg #[.bool true, .slice A0 (digs 10000 (z).natAbs).length c0]) (z) := isR_mk k0s rfl hs0.symm
    have k1 := s1.below bb
    have hsz0 := bb.size
    have sB := bb.size
    refine flowp 5 [Pd.eq (.pointer (some ⟨w.heap.size, 1, none⟩)), Pd.eq (.slice A0 (digs 10000 (z).natAbs).length c0), Pd.eq (.slice A1 (digs 10000 d).length c1), psn .i64 (digs 10000 G), psn .i64 (digs 10000 G)] (by kernel_rfl) ?ob5 ?done5
    case ob5 =>
      refine And.intro (ob_fieldAddr rfl (wt_none rfl) (ev_far rfl rfl) (fun _ => by kernel_rfl) (fun _ => rfl)) ?_
      refine And.intro (ob_load rfl (wt_none rfl) (ev_dep (j := 0) (by kernel_rfl) rfl rfl) (fun w2 hb => run_load1 Tryz.underlying43 rfl ((B0.below hb).cell 1)) (fun _ _ => rfl)) ?_
      refine And.intro (ob_move rfl (wt_none rfl) (ev_far rfl rfl) (fun _ _ h => h)) ?_
      refine And.intro (ob_call2 rfl Tryz.func74 (by kernel_rfl) (wt_none rfl) (ev_dep (j := 1) (by kernel_rfl) rfl rfl) (ev_dep (j := 2) (by kernel_rfl) rfl rfl) (fun w2 u0 u1 hb h0 h1 => by obtain rfl := h0; obtain rfl := h1; exact (HG.out ▸ refGcd_any _ _ _ _ _ (k0s.below hb) (k1.below hb) HL.out HL2.out).mono fun e w3 h => h)) ?_
      refine And.intro (ob_assign rfl (wt_none rfl) (ev_dep (j := 3) (by kernel_rfl) rfl rfl) (fun _ _ h => h)) ?_
      trivial
    case done5 =>
      refine fun w11 hb11 v0 h0 v1 h1 v2 h2 v3 h3 v4 h4 b hbf => ?_
      obtain rfl := h0; obtain rfl := h1; obtain rfl := h2
      have q3 := h3
      have q4 := h4
      simp only [Act.put, List.setIfInBounds_toArray, List.set_cons_zero, List.set_cons_succ] at hbf
      subst hbf
      replace B0 := B0.below hb11
      replace k0s := k0s.below hb11
      replace k0 := k0.below hb11
      replace BR0 := BR0.below hb11
      replace k1 := k1.below hb11
      replace bb := bb.trans (hb11.mono bb.size)
      have hsz11 := bb.size
      refine ops_done ?_
      obtain ⟨A5, c5, rfl, _⟩ := id q4
      have kg := q4
      have sB := bb.size
      go_upto_region 2 with (fail)
      refine flowp 9 [Pd.eq (.pointer (some ⟨w.heap.size, 1, none⟩)), Pd.eq (.slice A0 (digs 10000 (z).natAbs).length c0), Pd.eq (.slice A5 (digs 10000 G).length c5), pt2 .i64 (digs 10000 X) (digs 10000 (z.natAbs % G)) w11.heap.size, pt2 .i64 (digs 10000 X) (digs 10000 (z.natAbs % G)) w11.heap.size, ps .i64 (digs 10000 X) w11.heap.size, ps .i64 (digs 10000 (z.natAbs % G)) w11.heap.size, ps .i64 (digs 10000 X) w11.heap.size, ps .i64 (digs 10000 (z.natAbs % G)) w11.heap.size] (by kernel_rfl) ?ob6 ?done6
      case ob6 =>
        refine And.intro (ob_fieldAddr rfl (wt_none rfl) (ev_far rfl rfl) (fun _ => by kernel_rfl) (fun _ => rfl)) ?_
        refine And.intro (ob_load rfl (wt_none rfl) (ev_dep (j := 0) (by kernel_rfl) rfl rfl) (fun w2 hb => run_load1 Tryz.underlying43 rfl ((B0.below hb).cell 1)) (fun _ _ => rfl)) ?_
        refine And.intro (ob_move rfl (wt_none rfl) (ev_far rfl rfl) (fun _ _ h => h)) ?_
        refine And.intro (ob_call2 rfl Tryz.func75 (by kernel_rfl) (wt_none rfl) (ev_dep (j := 1) (by kernel_rfl) rfl rfl) (ev_dep (j := 2) (by kernel_rfl) rfl rfl) (fun w2 u0 u1 hb h0 h1 => by obtain rfl := h0; obtain rfl := h1; exact (HX.out ▸ refDiv_any _ _ z.natAbs G _ (k0s.below hb) (kg.below hb) HL.out HGl.out hGp).mono fun e w3 h => RetSS.pd h hb.size)) ?_
        refine And.intro (ob_move rfl (wt_none rfl) (ev_dep (j := 3) (by kernel_rfl) rfl rfl) (fun _ _ h => h)) ?_
        refine And.intro (ob_extract rfl (wt_none rfl) (ev_dep (j := 4) (by kernel_rfl) rfl rfl) (fun w2 u hu => by obtain ⟨v, u, rfl, q1, q2, q3, q4⟩ := hu; exact ⟨v, rfl, q1, q3⟩)) ?_
        refine And.intro (ob_extract rfl (wt_none rfl) (ev_dep (j := 4) (by kernel_rfl) rfl rfl) (fun w2 u hu => by obtain ⟨v, u, rfl, q1, q2, q3, q4⟩ := hu; exact ⟨u, rfl, q2, q4⟩)) ?_
        refine And.intro (ob_assign rfl (wt_none rfl) (ev_dep (j := 5) (by kernel_rfl) rfl rfl) (fun _ _ h => h)) ?_
        refine And.intro (ob_assign rfl (wt_none rfl) (ev_dep (j := 6) (by kernel_rfl) rfl rfl) (fun _ _ h => h)) ?_
        trivial
      case done6 =>
        refine fun w12 hb12 v0 h0 v1 h1 v2 h2 v3 h3 v4 h4 v5 h5 v6 h6 v7 h7 v8 h8 b hbf => ?_
        obtain rfl := h0; obtain rfl := h1; obtain rfl := h2
        clear h3
        clear h4
        obtain ⟨q5, f5⟩ := h5
        obtain ⟨q6, f6⟩ := h6
        obtain ⟨q7, f7⟩ := h7
        obtain ⟨q8, f8⟩ := h8
        simp only [Act.put, List.setIfInBounds_toArray, List.set_cons_zero, List.set_cons_succ] at hbf
        subst hbf
        replace B0 := B0.below hb12
        replace k0s := k0s.below hb12
        replace k0 := k0.below hb12
        replace BR0 := BR0.below hb12
        replace k1 := k1.below hb12
        replace kg := kg.below hb12
        replace bb := bb.trans (hb12.mono bb.size)
        have hsz12 := bb.size
        have s_5 := sB
        have s_6 := sB
        have s_7 := sB
        have s_8 := sB
        refine ops_done ?_
        obtain ⟨A6, c6, rfl, _⟩ := id q7
        have kx := q7
        have kxf := f7
        have kxz_ := s_7
        have sB := bb.size
        go_upto_region 3 with (fail)
        refine flowp 8 [Pd.eq (.slice A1 (digs 10000 d).length c1), Pd.eq (.slice A5 (digs 10000 G).length c5), pt2 .i64 (digs 10000 Y) (digs 10000 (d % G)) w12.heap.size, pt2 .i64 (digs 10000 Y) (digs 10000 (d % G)) w12.heap.size, ps .i64 (digs 10000 Y) w12.heap.size, ps .i64 (digs 10000 (d % G)) w12.heap.size, ps .i64 (digs 10000 Y) w12.heap.size, ps .i64 (digs 10000 (d % G)) w12.heap.size] (by kernel_rfl) ?ob7 ?done7
        case ob7 =>
          refine And.intro (ob_move rfl (wt_none rfl) (ev_far rfl rfl) (fun _ _ h => h)) ?_
          refine And.intro (ob_move rfl (wt_none rfl) (ev_far rfl rfl) (fun _ _ h => h)) ?_
          refine And.intro (ob_call2 rfl Tryz.func75 (by kernel_rfl) (wt_none rfl) (ev_dep (j := 0) (by kernel_rfl) rfl rfl) (ev_dep (j := 1) (by kernel_rfl) rfl rfl) (fun w2 u0 u1 hb h0 h1 => by obtain rfl := h0; obtain rfl := h1; exact (HY.out ▸ refDiv_any _ _ d G _ (k1.below hb) (kg.below hb) HL2.out HGl.out hGp).mono fun e w3 h => RetSS.pd h hb.size)) ?_
          refine And.intro (ob_move rfl (wt_none rfl) (ev_dep (j := 2) (by kernel_rfl) rfl rfl) (fun _ _ h => h)) ?_
          refine And.intro (ob_extract rfl (wt_none rfl) (ev_dep (j := 3) (by kernel_rfl) rfl rfl) (fun w2 u hu => by obtain ⟨v, u, rfl, q1, q2, q3, q4⟩ := hu; exact ⟨v, rfl, q1, q3⟩)) ?_
          refine And.intro (ob_extract rfl (wt_none rfl) (ev_dep (j := 3) (by kernel_rfl) rfl rfl) (fun w2 u hu => by obtain ⟨v, u, rfl, q1, q2, q3, q4⟩ := hu; exact ⟨u, rfl, q2, q4⟩)) ?_
          refine And.intro (ob_assign rfl (wt_none rfl) (ev_dep (j := 4) (by kernel_rfl) rfl rfl) (fun _ _ h => h)) ?_
          refine And.intro (ob_assign rfl (wt_none rfl) (ev_dep (j := 5) (by kernel_rfl) rfl rfl) (fun _ _ h => h)) ?_
          trivial
        case done7 =>
          refine fun w13 hb13 v0 h0 v1 h1 v2 h2 v3 h3 v4 h4 v5 h5 v6 h6 v7 h7 b hbf => ?_
          obtain rfl := h0; obtain rfl := h1
          clear h2
          clear h3
          obtain ⟨q4, f4⟩ := h4
          obtain ⟨q5, f5⟩ := h5
          obtain ⟨q6, f6⟩ := h6
          obtain ⟨q7, f7⟩ := h7
          simp only [Act.put, List.setIfInBounds_toArray, List.set_cons_zero, List.set_cons_succ] at hbf
          subst hbf
          replace B0 := B0.below hb13
          replace k0s := k0s.below hb13
          replace k0 := k0.below hb13
          replace BR0 := BR0.below hb13
          replace k1 := k1.below hb13
          replace kg := kg.below hb13
          replace kx := kx.below hb13
          replace bb := bb.trans (hb13.mono bb.size)
          have hsz13 := bb.size
          have s_4 := sB
          have s_5 := sB
          have s_6 := sB
          have s_7 := sB
          refine ops_done ?_
          obtain ⟨A8, c8, rfl, _⟩ := id q6
          have ky := q6
          have kyf := f6
          have kyz_ := s_6
          have HXl : Hid (decide ((0 : Int) < (((digs 10000 X).length : Nat) : Int)) = true) := by show _ = _; have := (digs_len0 (B := 10000) (by omega) (x := X)).1; have := HXp (ngB_true hs0); exact decide_eq_true (by omega)
          have sB := bb.size
          go_upto_region 4 with (fail)
          refine flowp 11 [Pd.eq (.pointer (some ⟨w.heap.size, 0, none⟩)), Pd.eq (.bool true), Pd.eq (.bool true), Pd.eq (.slice A6 (digs 10000 X).length c6), Pd.eq (.int .i64 (((digs 10000 X).length : Nat) : Int)), Pd.eq (.bool true), Pd.eq (.bool true), Pd.eq (.slice A6 (digs 10000 X).length c6), Pd.eq (.agg #[.bool true, .slice A6 (digs 10000 X).length c6]), Pd.eq (.slice A8 (digs 10000 Y).length c8), Pd.eq (.agg #[.bool true, .slice A6 (digs 10000 X).length c6, .slice A8 (digs 10000 Y).length c8])] (by kernel_rfl) ?ob8 ?done8
          case ob8 =>
            refine And.intro (ob_fieldAddr rfl (wt_none rfl) (ev_far rfl rfl) (fun _ => by kernel_rfl) (fun _ => rfl)) ?_
            refine And.intro (ob_load rfl (wt_none rfl) (ev_dep (j := 0) (by kernel_rfl) rfl rfl) (fun w2 hb => run_load1 Tryz.underlying4 rfl ((B0.below hb).cell 0)) (fun _ _ => rfl)) ?_
            refine And.intro (ob_move rfl (wt_none rfl) (ev_dep (j := 1) (by kernel_rfl) rfl rfl) (fun _ _ h => h)) ?_
            refine And.intro (ob_move rfl (wt_dep (c := true) (b := true) (g := 2) rfl (by kernel_rfl) rfl rfl rfl (by exact fun _ _ h => h)) (ev_far rfl rfl) (fun _ _ h => h)) ?_
            refine And.intro (ob_len rfl (wt_dep (c := true) (b := true) (g := 2) rfl (by kernel_rfl) rfl rfl rfl (by exact fun _ _ h => h)) (ev_dep (j := 3) (by kernel_rfl) rfl rfl) (fun _ _ hx => ⟨_, by rw [hx]; exact len_slice Tryz.underlying43 _ _ _ _, rfl⟩)) ?_
            refine And.intro (ob_bin rfl (wt_dep (c := true) (b := true) (g := 2) rfl (by kernel_rfl) rfl rfl rfl (by exact fun _ _ h => h)) (ev_dep (j := 4) (by kernel_rfl) rfl rfl) (ev_const _) (fun _ _ _ hx hy => ⟨.bool true, by rw [hx, hy, bin_gtr_int, HXl.out], rfl⟩)) ?_
            refine And.intro (ob_pick (b := true) rfl (wt_none rfl) (ev_dep (j := 2) (by kernel_rfl) rfl rfl) (ev_dep (j := 5) (by kernel_rfl) rfl rfl) (fun _ _ h => h)) ?_
            refine And.intro (ob_move rfl (wt_none rfl) (ev_far rfl rfl) (fun _ _ h => h)) ?_
            refine And.intro (ob_build2b rfl (wt_none rfl) (ev_dep (j := 6) (by kernel_rfl) rfl rfl) (ev_dep (j := 7) (by kernel_rfl) rfl rfl) (fun w2 u v hb hu hv => by obtain rfl := hu; obtain rfl := hv; exact ⟨.agg #[.bool true, .slice A6 (digs 10000 X).length c6], by kernel_rfl, rfl⟩)) ?_
            refine And.intro (ob_move rfl (wt_none rfl) (ev_far rfl rfl) (fun _ _ h => h)) ?_
            refine And.intro (ob_build2b rfl (wt_none rfl) (ev_dep (j := 8) (by kernel_rfl) rfl rfl) (ev_dep (j := 9) (by kernel_rfl) rfl rfl) (fun w2 u v hb hu hv => by obtain rfl := hu; obtain rfl := hv; exact ⟨.agg #[.bool true, .slice A6 (digs 10000 X).length c6, .slice A8 (digs 10000 Y).length c8], by kernel_rfl, rfl⟩)) ?_
            trivial
          case done8 =>
            refine fun w14 hb14 v0 h0 v1 h1 v2 h2 v3 h3 v4 h4 v5 h5 v6 h6 v7 h7 v8 h8 v9 h9 v10 h10 b hbf => ?_
            obtain rfl := h0; obtain rfl := h1; obtain rfl := h2; obtain rfl := h3; obtain rfl := h4; obtain rfl := h5; obtain rfl := h6; obtain rfl := h7; obtain rfl := h8; obtain rfl := h9; obtain rfl := h10
            simp only [Act.put, List.setIfInBounds_toArray, List.set_cons_zero, List.set_cons_succ] at hbf
            subst hbf
            replace B0 := B0.below hb14
            replace k0s := k0s.below hb14
            replace k0 := k0.below hb14
            replace BR0 := BR0.below hb14
            replace k1 := k1.below hb14
            replace kg := kg.below hb14
            replace kx := kx.below hb14
            replace ky := ky.below hb14
            replace bb := bb.trans (hb14.mono bb.size)
            have hsz14 := bb.size
            refine ops_store (i := 11) rfl rfl rfl rfl rfl rfl (cells := [.bool true, .slice A6 (digs 10000 X).length c6, .slice A8 (digs 10000 Y).length c8]) rfl BR0 rfl (by kernel_rfl) (one3 rfl rfl rfl) fun w9 hg9 B9 => ?_
            have k9 := off kx BR0 no_ints3 hg9
            have d9 := off ky BR0 no_ints3 hg9
            have bb9 := bb.trans ((Below.refl _ _).grown hg9 bb.size (fun g hg => by injection hg with hg; omega))
            obtain ⟨C0, C1, C2, _, _, _⟩ := three B9
            refine ops_done ?_
            go_wp2
            exact bodyPost_ret (v := .agg #[.bool true, .slice A6 (digs 10000 X).length c6, .slice A8 (digs 10000 Y).length c8]) (by simp [results, Tryz.results38, go_sem, C0, C1, C2]) rfl ⟨_, rfl, isP_mk k9 d9 (by rw [HQS.out, hs0]) HQN.out HQD.out, freshQ_mk (kxf.mono kxz_) (kyf.mono kyz_), bb9⟩
set_option maxHeartbeats 1600000 in
set_option maxRecDepth 100000 in
theorem qback_any (a0 : Value) (q : Rat) (w : World) (h0 : IsP w a0 q) (hl : lenQ q 30000) :
    Calls Tryz.prog 37 #[a0] w (RetQ q w) := by
  obtain ⟨u0, t0, rfl, s0, r0⟩ := h0
  obtain ⟨A0, c0, rfl, _⟩ := id s0
  obtain ⟨D0, e0, rfl, _⟩ := id r0
  go_enter Tryz.func37, Tryz.ntmps37
  go_upto_region 1 with (fail)
  obtain ⟨wx, hwx, bb, B0, BR0, hsz⟩ := vars2 w 47 36 #[.bool (ngB (q).num), .slice A0 (digs 10000 (q).num.natAbs).length c0, .slice D0 (digs 10000 (q).den).length e0] #[.bool false, .slice none 0 0, .slice none 0 0]
  rw [hwx]
  clear hwx
  have k0s := s0.below bb
  have k0d := r0.below bb
  have k0z : IsR wx (.agg #[.bool (ngB (q).num), .slice A0 (digs 10000 (q).num.natAbs).length c0]) (q).num := ⟨_, rfl, k0s⟩
  have k0 : IsP wx (.agg #[.bool (ngB (q).num), .slice A0 (digs 10000 (q).num.natAbs).length c0, .slice D0 (digs 10000 (q).den).length e0]) (q) := ⟨_, _, rfl, k0s, k0d⟩
  have hsz0 := bb.size
  have sB := bb.size
  refine flow 7 [Pd.eq (.pointer (some ⟨w.heap.size, 0, none⟩)), Pd.eq (.agg #[.bool (ngB (q).num), .slice A0 (digs 10000 (q).num.natAbs).length c0]), pz ((q).num) wx.heap.size, Pd.eq (.pointer (some ⟨w.heap.size, 2, none⟩)), Pd.eq (.slice D0 (digs 10000 (q).den).length e0), ps .u64 (digs 4294967296 (q).den) wx.heap.size, pq (q) wx.heap.size] (by kernel_rfl) (by kernel_rfl) ?ob10 ?done10
  case ob10 =>
    refine And.intro (ob_fieldAddr rfl (wt_none rfl) (ev_far rfl rfl) (fun _ => by kernel_rfl) (fun _ => rfl)) ?_
    refine And.intro (ob_load rfl (wt_none rfl) (ev_dep (j := 0) (by kernel_rfl) rfl rfl) (fun w2 hb => run_loadPart Tryz.underlying45 rfl (by kernel_rfl) (B0.drew.below hb) rfl) (fun _ _ => rfl)) ?_
    refine And.intro (ob_call1 rfl Tryz.func72 (by kernel_rfl) (wt_none rfl) (ev_dep (j := 1) (by kernel_rfl) rfl rfl) (fun w2 u0 hb h0 => by obtain rfl := h0; exact (rback_any _ _ _ (k0z.drew.below hb) (Nat.le_trans hl.1 (by decide))).mono fun e w3 h => RetZ.pd h hb.size)) ?_
    refine And.intro (ob_fieldAddr rfl (wt_none rfl) (ev_far rfl rfl) (fun _ => by kernel_rfl) (fun _ => rfl)) ?_
    refine And.intro (ob_load rfl (wt_none rfl) (ev_dep (j := 3) (by kernel_rfl) rfl rfl) (fun w2 hb => run_load1 Tryz.underlying43 rfl ((B0.drew.below hb).cell 2)) (fun _ _ => rfl)) ?_
    refine And.intro (ob_call1 rfl Tryz.func73 (by kernel_rfl) (wt_none rfl) (ev_dep (j := 4) (by kernel_rfl) rfl rfl) (fun w2 u0 hb h0 => by obtain rfl := h0; exact (refBack_any _ _ _ (k0d.drew.below hb) (Nat.le_trans (dec_le _) (by have := hl.2; omega)) (Nat.le_trans hl.2 (by decide))).mono fun e w3 h => RetS.pd h hb.size)) ?_
    refine And.intro (ob_build2b rfl (wt_none rfl) (ev_dep (j := 2) (by kernel_rfl) rfl rfl) (ev_dep (j := 5) (by kernel_rfl) rfl rfl) (fun w2 u v hb hu hv => by obtain ⟨u7, rfl, hu7⟩ := hu.1; obtain ⟨A7, c7, rfl, _⟩ := id hu7; obtain ⟨A8, c8, rfl, _⟩ := id hv.1; exact ⟨.agg #[.bool (ngB (q).num), .slice A7 (digs 4294967296 (q).num.natAbs).length c7, .slice A8 (digs 4294967296 (q).den).length c8], by kernel_rfl, ⟨⟨_, _, rfl, hu7, hv.1⟩, freshQ_mk (hu.2 _ _ rfl) hv.2⟩⟩)) ?_
    trivial
  case done10 =>
    refine fun w11 hb11 v0 h0 v1 h1 v2 h2 v3 h3 v4 h4 v5 h5 v6 h6 b hbf => ?_
    obtain rfl := h0; obtain rfl := h1; obtain rfl := h3; obtain rfl := h4
    obtain ⟨q2, f2⟩ := h2
    obtain ⟨q5, f5⟩ := h5
    obtain ⟨q6, f6⟩ := h6
    simp only [Act.put, List.setIfInBounds_toArray, List.set_cons_zero, List.set_cons_succ] at hbf
    subst hbf
    replace B0 := B0.below hb11
    replace k0s := k0s.below hb11
    replace k0d := k0d.below hb11
    replace k0z := k0z.below hb11
    replace k0 := k0.below hb11
    replace BR0 := BR0.below hb11
    replace bb := bb.trans (hb11.mono bb.size)
    have hsz11 := bb.size
    have s_2 := sB
    have s_5 := sB
    have s_6 := sB
    obtain ⟨u6, t6, rfl, q6, d6⟩ := q6
    obtain ⟨A9, c9, rfl, _⟩ := id q6
    obtain ⟨D9, e9, rfl, _⟩ := id d6
    refine any_store (i := 7) (by kernel_rfl) rfl rfl rfl rfl rfl rfl (cells := [.bool (ngB (q).num), .slice A9 (digs 4294967296 (q).num.natAbs).length c9, .slice D9 (digs 4294967296 (q).den).length e9]) rfl BR0 rfl (by kernel_rfl) (one3 rfl rfl rfl) fun w9 hg9 B9 => ?_
    have k9 := off q6 BR0 no_ints3 hg9
    have d9 := off d6 BR0 no_ints3 hg9
    have f9 := f6.mono (show w.heap.size ≤ _ from s_6)
    have bb9 := bb.trans ((Below.refl _ _).grown hg9 bb.size (fun g hg => by injection hg with hg; omega))
    obtain ⟨C0, C1, C2, _, _, _⟩ := three B9
    refine any_done (by kernel_rfl) ?_
    go_wp2
    exact bodyPost_ret (v := .agg #[.bool (ngB (q).num), .slice A9 (digs 4294967296 (q).num.natAbs).length c9, .slice D9 (digs 4294967296 (q).den).length e9]) (by simp [results, Tryz.results37, go_sem, C0, C1, C2]) rfl ⟨_, rfl, ⟨_, _, rfl, k9, d9⟩, f9, bb9⟩
set_option maxHeartbeats 1600000 in
set_option maxRecDepth 100000 in
theorem rnum7_any (n : Int) (w : World) (h1 : -9223372036854775807 ≤ n) (h2 : n ≤ 9223372036854775807) :
    Calls Tryz.prog 70 #[.int .i64 n] w (RetR n w) := by
  by_cases hn : n < 0
  · have HZ : Hid (sg true n.natAbs = n) := by show _ = _; rw [sg_true]; omega
    go_enter Tryz.func70, Tryz.ntmps70
    go_upto_region 1 with (fail)
    obtain ⟨wx, hwx, bb, BR0, hsz⟩ := vars1 w 45 #[.bool false, .slice none 0 0]
    rw [hwx]
    clear hwx
    go_upto_region 2 with (fail)
    refine flowp 4 [Pd.eq (.int .i64 n), Pd.eq (.int .i64 (-n)), ps .i64 (digs 10000 n.natAbs) wx.heap.size, pr (n)] (by kernel_rfl) ?ob16 ?done16
    case ob16 =>
      refine And.intro (ob_move rfl (wt_none rfl) (ev_far rfl rfl) (fun _ _ h => h)) ?_
      refine And.intro (ob_un rfl (wt_none rfl) (ev_dep (j := 0) (by kernel_rfl) rfl rfl) (fun _ => un_neg _ _ (by omega)) (fun _ => rfl)) ?_
      refine And.intro (ob_call1 rfl Tryz.func71 (by kernel_rfl) (wt_none rfl) (ev_dep (j := 1) (by kernel_rfl) rfl rfl) (fun w2 u0 hb h0 => by obtain rfl := h0; exact (refNum_wide _ n.natAbs _ (by omega) (by omega)).mono fun e w3 h => RetS.pd h hb.size)) ?_
      refine And.intro (ob_call2 rfl Tryz.func76 (by kernel_rfl) (wt_none rfl) (ev_const _) (ev_dep (j := 2) (by kernel_rfl) rfl rfl) (fun w2 u0 u1 hb h0 h1 => by obtain rfl := h0; exact made_pd _ _ _ n _ h1.1 HZ.out)) ?_
      trivial
    case done16 =>
      refine fun w1 hb1 v0 h0 v1 h1 v2 h2 v3 h3 b hbf => ?_
      obtain rfl := h0; obtain rfl := h1
      obtain ⟨q2, f2⟩ := h2
      have q3 := h3
      simp only [Act.put, List.setIfInBounds_toArray, List.set_cons_zero, List.set_cons_succ] at hbf
      subst hbf
      replace BR0 := BR0.below hb1
      replace bb := bb.trans (hb1.mono bb.size)
      have hsz1 := bb.size
      obtain ⟨u3, rfl, q3⟩ := q3
      obtain ⟨A9, c9, rfl, _⟩ := id q3
      refine ops_store (i := 4) rfl rfl rfl rfl rfl rfl (cells := [.bool (ngB n), .slice A9 (digs 10000 n.natAbs).length c9]) rfl BR0 rfl (by kernel_rfl) (one2 rfl rfl) fun w9 hg9 B9 => ?_
      have k9 := off q3 BR0 no_ints2 hg9
      have bb9 := bb.trans ((Below.refl _ _).grown hg9 bb.size (fun g hg => by injection hg with hg; omega))
      obtain ⟨c0, c1, _, _⟩ := Blk.two B9
      refine ops_done ?_
      go_wp2
      exact bodyPost_ret (v := .agg #[.bool (ngB n), .slice A9 (digs 10000 n.natAbs).length c9]) (by simp [results, Tryz.results70, go_sem, c0, c1]) rfl ⟨_, rfl, ⟨_, rfl, k9⟩, bb9⟩
  · have HZ : Hid (sg false n.natAbs = n) := by show _ = _; rw [sg_false]; omega
    go_enter Tryz.func70, Tryz.ntmps70
    go_upto_region 1 with (fail)
    obtain ⟨wx, hwx, bb, BR0, hsz⟩ := vars1 w 45 #[.bool false, .slice none 0 0]
    rw [hwx]
    clear hwx
    go_upto_region 3 with (fail)
    refine flowp 3 [Pd.eq (.int .i64 n), ps .i64 (digs 10000 n.natAbs) wx.heap.size, pr (n)] (by kernel_rfl) ?ob17 ?done17
    case ob17 =>
      refine And.intro (ob_move rfl (wt_none rfl) (ev_far rfl rfl) (fun _ _ h => h)) ?_
      refine And.intro (ob_call1 rfl Tryz.func71 (by kernel_rfl) (wt_none rfl) (ev_dep (j := 0) (by kernel_rfl) rfl rfl) (fun w2 u0 hb h0 => by obtain rfl := h0; exact (refNum_wide _ n.natAbs _ (by omega) (by omega)).mono fun e w3 h => RetS.pd h hb.size)) ?_
      refine And.intro (ob_call2 rfl Tryz.func76 (by kernel_rfl) (wt_none rfl) (ev_const _) (ev_dep (j := 1) (by kernel_rfl) rfl rfl) (fun w2 u0 u1 hb h0 h1 => by obtain rfl := h0; exact made_pd _ _ _ n _ h1.1 HZ.out)) ?_
      trivial
    case done17 =>
      refine fun w1 hb1 v0 h0 v1 h1 v2 h2 b hbf => ?_
      obtain rfl := h0
      obtain ⟨q1, f1⟩ := h1
      have q2 := h2
      simp only [Act.put, List.setIfInBounds_toArray, List.set_cons_zero, List.set_cons_succ] at hbf
      subst hbf
      replace BR0 := BR0.below hb1
      replace bb := bb.trans (hb1.mono bb.size)
      have hsz1 := bb.size
      obtain ⟨u2, rfl, q2⟩ := q2
      obtain ⟨A9, c9, rfl, _⟩ := id q2
      refine ops_store (i := 3) rfl rfl rfl rfl rfl rfl (cells := [.bool (ngB n), .slice A9 (digs 10000 n.natAbs).length c9]) rfl BR0 rfl (by kernel_rfl) (one2 rfl rfl) fun w9 hg9 B9 => ?_
      have k9 := off q2 BR0 no_ints2 hg9
      have bb9 := bb.trans ((Below.refl _ _).grown hg9 bb.size (fun g hg => by injection hg with hg; omega))
      obtain ⟨c0, c1, _, _⟩ := Blk.two B9
      refine ops_done ?_
      go_wp2
      exact bodyPost_ret (v := .agg #[.bool (ngB n), .slice A9 (digs 10000 n.natAbs).length c9]) (by simp [results, Tryz.results70, go_sem, c0, c1]) rfl ⟨_, rfl, ⟨_, rfl, k9⟩, bb9⟩
set_option maxHeartbeats 1600000 in
set_option maxRecDepth 100000 in
theorem qnum_any (n : Int) (d : Int) (w : World)  (dn : Nat) (hd : d = (dn : Int)) (h1 : -9223372036854775807 ≤ n) (h2 : n ≤ 9223372036854775807) (h3 : dn ≠ 0) (h4 : dn ≤ 9223372036854775807) :
    Calls Tryz.prog 35 #[.int .i64 n, .int .i64 d] w (RetPF (mkRat n dn) w) := by
  have HLZ : Hid (lenZ n ≤ 30000) := Nat.le_trans (dig32 (by omega)) (by decide)
  have HLD : Hid ((digs 4294967296 dn).length ≤ 30000) := Nat.le_trans (dig32 (by omega)) (by decide)
  go_enter Tryz.func35, Tryz.ntmps35
  go_upto_region 1 with (fail)
  obtain ⟨wx, hwx, bb, BR0, hsz⟩ := vars1 w 47 #[.bool false, .slice none 0 0, .slice none 0 0]
  rw [hwx]
  clear hwx
  have hsz0 := bb.size
  have sB := bb.size
  refine flowp 5 [Pd.eq (.int .i64 n), pr (n), Pd.eq (.int .i64 d), ps .i64 (digs 10000 dn) wx.heap.size, ppf (mkRat n dn) wx.heap.size] (by kernel_rfl) ?ob18 ?done18
  case ob18 =>
    refine And.intro (ob_move rfl (wt_none rfl) (ev_far rfl rfl) (fun _ _ h => h)) ?_
    refine And.intro (ob_call1 rfl Tryz.func70 (by kernel_rfl) (wt_none rfl) (ev_dep (j := 0) (by kernel_rfl) rfl rfl) (fun w2 u0 hb h0 => by obtain rfl := h0; exact (rnum7_any n _ h1 h2).mono fun e w3 h => RetR.pd h)) ?_
    refine And.intro (ob_move rfl (wt_none rfl) (ev_far rfl rfl) (fun _ _ h => h)) ?_
    refine And.intro (ob_call1 rfl Tryz.func71 (by kernel_rfl) (wt_none rfl) (ev_dep (j := 2) (by kernel_rfl) rfl rfl) (fun w2 u0 hb h0 => by obtain rfl := h0; exact (refNum_wide _ dn _ hd h4).mono fun e w3 h => RetS.pd h hb.size)) ?_
    refine And.intro (ob_call2 rfl Tryz.func38 (by kernel_rfl) (wt_none rfl) (ev_dep (j := 1) (by kernel_rfl) rfl rfl) (ev_dep (j := 3) (by kernel_rfl) rfl rfl) (fun w2 u0 u1 hb h0 h1 => by exact (rlow_any _ n _ dn _ h0 h1.1 h3 HLZ.out HLD.out).mono fun e w3 h => RetPF.pdf h hb.size)) ?_
    trivial
  case done18 =>
    refine fun w11 hb11 v0 h0 v1 h1 v2 h2 v3 h3 v4 h4 b hbf => ?_
    obtain rfl := h0; obtain rfl := h2
    have q1 := h1
    obtain ⟨q3, f3⟩ := h3
    obtain ⟨q4, f4⟩ := h4
    simp only [Act.put, List.setIfInBounds_toArray, List.set_cons_zero, List.set_cons_succ] at hbf
    subst hbf
    replace BR0 := BR0.below hb11
    replace bb := bb.trans (hb11.mono bb.size)
    have hsz11 := bb.size
    have s_3 := sB
    have s_4 := sB
    obtain ⟨u4, t4, rfl, q4, d4⟩ := q4
    obtain ⟨A9, c9, rfl, _⟩ := id q4
    obtain ⟨D9, e9, rfl, _⟩ := id d4
    refine ops_store (i := 5) rfl rfl rfl rfl rfl rfl (cells := [.bool (ngB (mkRat n dn).num), .slice A9 (digs 10000 (mkRat n dn).num.natAbs).length c9, .slice D9 (digs 10000 (mkRat n dn).den).length e9]) rfl BR0 rfl (by kernel_rfl) (one3 rfl rfl rfl) fun w9 hg9 B9 => ?_
    have k9 := off q4 BR0 no_ints3 hg9
    have d9 := off d4 BR0 no_ints3 hg9
    have f9 := f4.mono (show w.heap.size ≤ _ from s_4)
    have bb9 := bb.trans ((Below.refl _ _).grown hg9 bb.size (fun g hg => by injection hg with hg; omega))
    obtain ⟨C0, C1, C2, _, _, _⟩ := three B9
    refine ops_done ?_
    go_wp2
    exact bodyPost_ret (v := .agg #[.bool (ngB (mkRat n dn).num), .slice A9 (digs 10000 (mkRat n dn).num.natAbs).length c9, .slice D9 (digs 10000 (mkRat n dn).den).length e9]) (by simp [results, Tryz.results35, go_sem, C0, C1, C2]) rfl ⟨_, rfl, ⟨_, _, rfl, k9, d9⟩, f9, bb9⟩
/-- The fraction that Clean makes of any. -/
def lowD (d : Nat) : Nat := if d = 0 then 1 else d
theorem lowD_pos (d : Nat) : lowD d ≠ 0 := by unfold lowD; split <;> omega
theorem lowD_len {d m : Nat} (h : (digs 4294967296 d).length ≤ m) (hm : 1 ≤ m) : (digs 4294967296 (lowD d)).length ≤ m := by
  unfold lowD
  split
  · exact Nat.le_trans (digs_len_le (k := 1) (by omega) (by omega)) hm
  · exact h
def cleanQ (b : Bool) (l m : List Nat) (most : Nat) : Rat := mkRat (cleanZ b l most) (lowD (cleaned m most))
theorem cleanQ_len (b : Bool) (l m : List Nat) {most : Nat} (hm : 1 ≤ most) : lenQ (cleanQ b l m most) most := lenQ_mk (lowD_pos _) (cleanZ_len _ _ _) (lowD_len (cleaned_len _ _) hm)
set_option maxHeartbeats 6400000 in
set_option maxRecDepth 100000 in
theorem qclean_any (b : Bool) (v u : Value) (l m : List Nat) (mI : Int) (most : Nat) (w : World) (hmI : mI = (most : Int)) (h0 : IsS w .u64 v l) (u0 : Lt 18446744073709551616 l) (h1 : IsS w .u64 u m) (u1 : Lt 18446744073709551616 m) (hmost : most ≤ 1000) (hm1 : 1 ≤ most) :
    Calls Tryz.prog 9 #[.agg #[.bool b, v, u], .int .i64 mI] w (RetQ (cleanQ b l m most) w) := by
  obtain ⟨A0, c0, rfl, _⟩ := id h0
  obtain ⟨D0, e0, rfl, _⟩ := id h1
  have HM := Lib.hid hmI
  clear hmI
  obtain ⟨y, hy⟩ : ∃ y, y = cleaned m most := ⟨_, rfl⟩
  have my : (digs 4294967296 y).length ≤ most := by rw [hy]; exact cleaned_len _ _
  have HY := Lib.hid hy.symm
  obtain ⟨x, hx⟩ : ∃ x, x = cleanZ b l most := ⟨_, rfl⟩
  have lx : lenZ x ≤ most := by rw [hx]; exact cleanZ_len _ _ _
  have HX := Lib.hid hx.symm
  have HQ : Hid (cleanQ b l m most = mkRat x (lowD y)) := by show _ = _; unfold cleanQ; rw [hx, hy]
  clear hx hy
  go_enter Tryz.func9, Tryz.ntmps9
  go_upto_region 1 with (fail)
  obtain ⟨wx, hwx, bb, B0, B1, hsz⟩ := vars2 w 36 36 #[.bool b, .slice A0 l.length c0, .slice D0 m.length e0] #[.bool false, .slice none 0 0, .slice none 0 0]
  rw [hwx]
  clear hwx
  have k0s := h0.below bb
  have k0d := h1.below bb
  obtain ⟨x00, x01, x02, _, _, _⟩ := three B0
  have hs0 := bb.size
  go_wp2_with fail
  refine (HY.out ▸ clean_any _ m _ most _ HM.out k0d u1 (Nat.le_trans hmost (by decide))).mono ?_
  rintro e w1 ⟨v1, rfl, k1, f1, b1⟩
  obtain ⟨A1, c1, rfl, _⟩ := id k1
  replace B0 := B0.below b1
  replace B1 := B1.below b1
  replace k0s := k0s.below b1
  replace bb := bb.trans (b1.mono bb.size)
  have hs1 := bb.size
  clear x00 x01 x02 k0d
  have HL1 : Hid (lenZ x ≤ 30000) := Nat.le_trans lx (by omega)
  have HL2 : Hid ((digs 4294967296 (lowD y)).length ≤ 30000) := Nat.le_trans (lowD_len my (by omega)) (by omega)
  have HLQ : Hid (lenQ (mkRat x (lowD y)) 30000) := lenQ_mk (lowD_pos y) HL1.out HL2.out
  by_cases hy0 : y = 0
  · have HZ : Hid ((digs 4294967296 y).length = 0) := by show _ = _; rw [hy0, digs_zero]; rfl
    have HO : Hid (digs 4294967296 (lowD y) = [1]) := by show _ = _; rw [hy0]; exact digs_one 1 (by omega) (by omega)
    have hz0 : (digs 4294967296 y).length = 0 := HZ.out
    clear hy0
    have bA := below_alloc (Nat.le_refl w1.heap.size) (.cells #[.int .u64 1] 78)
    have k1o := (own_lit1 w1 w1.heap.size 78 .u64 (show (1 : Int) = ((1 : Nat) : Int) from rfl) (Nat.le_refl _)).isS
    rw [← HO.out] at k1o
    replace k0s := k0s.below bA
    obtain ⟨x10, x11, x12, _, _, _⟩ := three (B0.below bA)
    replace B1 := B1.below bA
    replace bb := bb.trans (bA.mono bb.size)
    have hs2 := bb.size
    clear k1 f1
    go_wp2_with fail
    refine (HX.out ▸ zclean_any b _ l _ most _ HM.out k0s u0 (Nat.le_trans hmost (by decide))).mono ?_
    rintro e w2 ⟨v2, rfl, k2, f2, b2⟩
    replace B1 := B1.below b2
    replace k1o := k1o.below b2
    replace bb := bb.trans (b2.mono bb.size)
    have hs3 := bb.size
    go_wp2_with fail
    refine (rof_any _ x _ k2 HL1.out).mono ?_
    rintro e w3 ⟨v3, rfl, k3, b3⟩
    replace B1 := B1.below b3
    replace k1o := k1o.below b3
    replace bb := bb.trans (b3.mono bb.size)
    have hs4 := bb.size
    go_wp2_with fail
    refine (refOf_any _ (lowD y) _ k1o (Nat.le_trans HL2.out (by decide))).mono ?_
    rintro e w4 ⟨v4, rfl, k4, f4, b4⟩
    replace B1 := B1.below b4
    replace k3 := k3.below b4
    replace bb := bb.trans (b4.mono bb.size)
    have hs5 := bb.size
    go_wp2_with fail
    refine (rlow_any _ x _ (lowD y) _ k3 k4 (lowD_pos y) HL1.out HL2.out).mono ?_
    rintro e w5 ⟨v5, rfl, k5, f5, b5⟩
    replace B1 := B1.below b5
    replace bb := bb.trans (b5.mono bb.size)
    have hs6 := bb.size
    have hg5 := B1.lt
    go_wp2_with fail
    refine (qback_any _ _ _ k5 HLQ.out).mono ?_
    rintro e w6 ⟨v6, rfl, ⟨u6, t6, rfl, k6, d6⟩, f6, b6⟩
    obtain ⟨A6, c6, rfl, _⟩ := id k6
    obtain ⟨D6, e6, rfl, _⟩ := id d6
    replace B1 := B1.below b6
    replace bb := bb.trans (b6.mono bb.size)
    obtain ⟨y0, y1, y2, z0, z1, z2⟩ := three B1
    go_wp2
    exact bodyPost_ret (v := .agg #[.bool (ngB (mkRat x (lowD y)).num), .slice A6 (digs 4294967296 (mkRat x (lowD y)).num.natAbs).length c6, .slice D6 (digs 4294967296 (mkRat x (lowD y)).den).length e6]) (by simp [results, Tryz.results9, go_sem, y0, y1, y2]) rfl (by rw [HQ.out]; exact endQ bb (by omega) hg5 k6 d6 f6)
  · have HZ : 0 < (digs 4294967296 y).length := len_pos (by omega)
    have HO : Hid (lowD y = y) := if_neg hy0
    clear hy0
    obtain ⟨x10, x11, x12, _, _, _⟩ := three B0
    have k1o : IsS w1 .u64 (.slice A1 (digs 4294967296 y).length c1) (digs 4294967296 (lowD y)) := by rw [HO.out]; exact k1
    go_wp2_with fail
    refine (HX.out ▸ zclean_any b _ l _ most _ HM.out k0s u0 (Nat.le_trans hmost (by decide))).mono ?_
    rintro e w2 ⟨v2, rfl, k2, f2, b2⟩
    replace B1 := B1.below b2
    replace k1o := k1o.below b2
    replace bb := bb.trans (b2.mono bb.size)
    have hs3 := bb.size
    go_wp2_with fail
    refine (rof_any _ x _ k2 HL1.out).mono ?_
    rintro e w3 ⟨v3, rfl, k3, b3⟩
    replace B1 := B1.below b3
    replace k1o := k1o.below b3
    replace bb := bb.trans (b3.mono bb.size)
    have hs4 := bb.size
    go_wp2_with fail
    refine (refOf_any _ (lowD y) _ k1o (Nat.le_trans HL2.out (by decide))).mono ?_
    rintro e w4 ⟨v4, rfl, k4, f4, b4⟩
    replace B1 := B1.below b4
    replace k3 := k3.below b4
    replace bb := bb.trans (b4.mono bb.size)
    have hs5 := bb.size
    go_wp2_with fail
    refine (rlow_any _ x _ (lowD y) _ k3 k4 (lowD_pos y) HL1.out HL2.out).mono ?_
    rintro e w5 ⟨v5, rfl, k5, f5, b5⟩
    replace B1 := B1.below b5
    replace bb := bb.trans (b5.mono bb.size)
    have hs6 := bb.size
    have hg5 := B1.lt
    go_wp2_with fail
    refine (qback_any _ _ _ k5 HLQ.out).mono ?_
    rintro e w6 ⟨v6, rfl, ⟨u6, t6, rfl, k6, d6⟩, f6, b6⟩
    obtain ⟨A6, c6, rfl, _⟩ := id k6
    obtain ⟨D6, e6, rfl, _⟩ := id d6
    replace B1 := B1.below b6
    replace bb := bb.trans (b6.mono bb.size)
    obtain ⟨y0, y1, y2, z0, z1, z2⟩ := three B1
    go_wp2
    exact bodyPost_ret (v := .agg #[.bool (ngB (mkRat x (lowD y)).num), .slice A6 (digs 4294967296 (mkRat x (lowD y)).num.natAbs).length c6, .slice D6 (digs 4294967296 (mkRat x (lowD y)).den).length e6]) (by simp [results, Tryz.results9, go_sem, y0, y1, y2]) rfl (by rw [HQ.out]; exact endQ bb (by omega) hg5 k6 d6 f6)
end Go.Proofs.YtpcdkepkipadaaaGreat.rat
namespace Go.Proofs.YtpcdkepkipadaaaGreat.whl
open Go.RowKit Go.Proofs.YtpcdkepkipadaaaGreat.num Go.Proofs.YtpcdkepkipadaaaGreat.mem Go.Proofs.YtpcdkepkipadaaaGreat.nat Go.Proofs.YtpcdkepkipadaaaGreat.txt Go.Proofs.YtpcdkepkipadaaaGreat.str Go.Proofs.YtpcdkepkipadaaaGreat.flow
set_option linter.unusedVariables false
def prf (z : Int) (B : Nat) : Pd := ⟨fun w v => IsR w v z ∧ FreshZ B v, fun h hb => ⟨h.1.below hb, h.2⟩⟩
/-- The call's answer is this whole number, in new memory. -/
def RetRF (z : Int) (w : World) (e : Ending) (w' : World) : Prop := ∃ v, e = .returned v ∧ IsR w' v z ∧ FreshZ w.heap.size v ∧ Below w.heap.size w w'
theorem RetRF.pd {z : Int} {w : World} {e : Ending} {w' : World} {B : Nat} (h : RetRF z w e w') (hB : B ≤ w.heap.size) : RetPd (prf z B) w e w' := by
  obtain ⟨v, h1, h2, h3, h4⟩ := h
  exact ⟨v, h1, ⟨h2, h3.mono hB⟩, h4⟩
theorem made_pdf (b : Bool) (u : Value) (x : Nat) (z : Int) (w : World) {B : Nat} (h : IsS w .i64 u (digs 10000 x)) (hf : Fresh B u) (hz : sg b x = z) : Calls Tryz.prog 76 #[.bool b, u] w (RetPd (prf z B) w) :=
  (rmade_any b u x w h).mono fun e w' h' => ⟨_, h'.1, ⟨isR_mk (h.below h'.2) (by rw [← hz, sg_abs]) (by rw [hz]), freshZ_mk hf⟩, h'.2⟩
end Go.Proofs.YtpcdkepkipadaaaGreat.whl
namespace Go.Proofs.YtpcdkepkipadaaaGreat.rat
open Go.RowKit Go.Proofs.YtpcdkepkipadaaaGreat.num Go.Proofs.YtpcdkepkipadaaaGreat.mem Go.Proofs.YtpcdkepkipadaaaGreat.nat Go.Proofs.YtpcdkepkipadaaaGreat.txt Go.Proofs.YtpcdkepkipadaaaGreat.str Go.Proofs.YtpcdkepkipadaaaGreat.flow Go.Proofs.YtpcdkepkipadaaaGreat.whl
set_option linter.unusedVariables false
set_option maxHeartbeats 1600000 in
set_option maxRecDepth 100000 in
theorem roff_any (a0 : Value) (x : Int) (w : World) (h0 : IsZ w a0 x) (hl : lenZ x ≤ 30000) :
    Calls Tryz.prog 39 #[a0] w (RetRF x w) := by
  obtain ⟨u0, rfl, s0⟩ := h0
  obtain ⟨A0, c0, rfl, _⟩ := id s0
  have HL : Hid ((digs 4294967296 x.natAbs).length ≤ 100000) := by show _ ≤ _; unfold lenZ at hl; omega
  have HZ : Hid (sg (ngB x) x.natAbs = x) := by show _ = _; exact sg_self x
  go_enter Tryz.func39, Tryz.ntmps39
  go_upto_region 1 with (fail)
  obtain ⟨wx, hwx, bb, B0, B1, hsz⟩ := vars2 w 34 45 #[.bool (ngB x), .slice A0 (digs 4294967296 (x).natAbs).length c0] #[.bool false, .slice none 0 0]
  rw [hwx]
  clear hwx
  have k0s := s0.below bb
  have k0 : IsZ wx (.agg #[.bool (ngB x), .slice A0 (digs 4294967296 (x).natAbs).length c0]) (x) := isZ_mk k0s rfl rfl
  have hszb := bb.size
  refine flow 6 [Pd.eq (.pointer (some ⟨w.heap.size, 0, none⟩)), Pd.eq (.bool (ngB x)), Pd.eq (.pointer (some ⟨w.heap.size, 1, none⟩)), Pd.eq (.slice A0 (digs 4294967296 (x).natAbs).length c0), ps .i64 (digs 10000 x.natAbs) wx.heap.size, prf (x) wx.heap.size] (by kernel_rfl) (by kernel_rfl) ?ob1 ?done1
  case ob1 =>
    refine And.intro (ob_fieldAddr rfl (wt_none rfl) (ev_far rfl rfl) (fun _ => by kernel_rfl) (fun _ => rfl)) ?_
    refine And.intro (ob_load rfl (wt_none rfl) (ev_dep (j := 0) (by kernel_rfl) rfl rfl) (fun w2 hb => run_load1 Tryz.underlying4 rfl ((B0.drew.below hb).cell 0)) (fun _ _ => rfl)) ?_
    refine And.intro (ob_fieldAddr rfl (wt_none rfl) (ev_far rfl rfl) (fun _ => by kernel_rfl) (fun _ => rfl)) ?_
    refine And.intro (ob_load rfl (wt_none rfl) (ev_dep (j := 2) (by kernel_rfl) rfl rfl) (fun w2 hb => run_load1 Tryz.underlying32 rfl ((B0.drew.below hb).cell 1)) (fun _ _ => rfl)) ?_
    refine And.intro (ob_call1 rfl Tryz.func41 (by kernel_rfl) (wt_none rfl) (ev_dep (j := 3) (by kernel_rfl) rfl rfl) (fun w2 u0 hb h0 => by obtain rfl := h0; exact (refOf_any _ _ _ (k0s.drew.below hb) HL.out).mono fun e w3 h => RetS.pd h hb.size)) ?_
    refine And.intro (ob_call2 rfl Tryz.func76 (by kernel_rfl) (wt_none rfl) (ev_dep (j := 1) (by kernel_rfl) rfl rfl) (ev_dep (j := 4) (by kernel_rfl) rfl rfl) (fun w2 u0 u1 hb h0 h1 => by obtain rfl := h0; exact made_pdf _ _ _ (x) _ h1.1 h1.2 HZ.out)) ?_
    trivial
  case done1 =>
    refine fun w1 hb1 v0 h0 v1 h1 v2 h2 v3 h3 v4 h4 v5 h5 b hbf => ?_
    obtain rfl := h0; obtain rfl := h1; obtain rfl := h2; obtain rfl := h3
    obtain ⟨q4, f4⟩ := h4
    obtain ⟨q5, f5⟩ := h5
    simp only [Act.put, List.setIfInBounds_toArray, List.set_cons_zero, List.set_cons_succ] at hbf
    subst hbf
    obtain ⟨u5, rfl, q5⟩ := q5
    obtain ⟨A9, c9, rfl, _⟩ := id q5
    have B9 := B1.below hb1
    refine any_store (i := 6) (by kernel_rfl) rfl rfl rfl rfl rfl rfl (cells := [.bool (ngB (x)), .slice A9 (digs 10000 (x).natAbs).length c9]) rfl B9 rfl (by kernel_rfl) (one2 rfl rfl) fun w9 hg9 BB9 => ?_
    have k9 := off q5 B9 no_ints2 hg9
    have f9 := (f5 _ _ rfl).mono (show w.heap.size ≤ wx.heap.size from bb.size)
    have bb9 := ((bb.trans (hb1.mono bb.size)).trans ((Below.refl _ _).grown hg9 (Nat.le_trans bb.size hb1.size) (fun g hg => by injection hg with hg; omega)))
    obtain ⟨c0, c1, _, _⟩ := Blk.two BB9
    refine any_done (by kernel_rfl) ?_
    go_wp2
    exact bodyPost_ret (v := .agg #[.bool (ngB (x)), .slice A9 (digs 10000 (x).natAbs).length c9]) (by simp [results, Tryz.results39, go_sem, c0, c1]) rfl ⟨_, rfl, isR_mk k9 rfl rfl, freshZ_mk f9, bb9⟩
set_option maxHeartbeats 1600000 in
set_option maxRecDepth 100000 in
theorem qoff_any (a0 : Value) (q : Rat) (w : World) (h0 : IsQ w a0 q) (hl : lenQ q 30000) :
    Calls Tryz.prog 12 #[a0] w (RetPF q w) := by
  obtain ⟨u0, t0, rfl, s0, r0⟩ := h0
  obtain ⟨A0, c0, rfl, _⟩ := id s0
  obtain ⟨D0, e0, rfl, _⟩ := id r0
  go_enter Tryz.func12, Tryz.ntmps12
  go_upto_region 1 with (fail)
  obtain ⟨wx, hwx, bb, B0, BR0, hsz⟩ := vars2 w 36 47 #[.bool (ngB (q).num), .slice A0 (digs 4294967296 (q).num.natAbs).length c0, .slice D0 (digs 4294967296 (q).den).length e0] #[.bool false, .slice none 0 0, .slice none 0 0]
  rw [hwx]
  clear hwx
  have k0s := s0.below bb
  have k0d := r0.below bb
  have k0z : IsZ wx (.agg #[.bool (ngB (q).num), .slice A0 (digs 4294967296 (q).num.natAbs).length c0]) (q).num := ⟨_, rfl, k0s⟩
  have k0 : IsQ wx (.agg #[.bool (ngB (q).num), .slice A0 (digs 4294967296 (q).num.natAbs).length c0, .slice D0 (digs 4294967296 (q).den).length e0]) (q) := ⟨_, _, rfl, k0s, k0d⟩
  have hsz0 := bb.size
  have sB := bb.size
  refine flow 7 [Pd.eq (.pointer (some ⟨w.heap.size, 0, none⟩)), Pd.eq (.agg #[.bool (ngB (q).num), .slice A0 (digs 4294967296 (q).num.natAbs).length c0]), prf ((q).num) wx.heap.size, Pd.eq (.pointer (some ⟨w.heap.size, 2, none⟩)), Pd.eq (.slice D0 (digs 4294967296 (q).den).length e0), ps .i64 (digs 10000 (q).den) wx.heap.size, ppf (q) wx.heap.size] (by kernel_rfl) (by kernel_rfl) ?ob2 ?done2
  case ob2 =>
    refine And.intro (ob_fieldAddr rfl (wt_none rfl) (ev_far rfl rfl) (fun _ => by kernel_rfl) (fun _ => rfl)) ?_
    refine And.intro (ob_load rfl (wt_none rfl) (ev_dep (j := 0) (by kernel_rfl) rfl rfl) (fun w2 hb => run_loadPart Tryz.underlying34 rfl (by kernel_rfl) (B0.drew.below hb) rfl) (fun _ _ => rfl)) ?_
    refine And.intro (ob_call1 rfl Tryz.func39 (by kernel_rfl) (wt_none rfl) (ev_dep (j := 1) (by kernel_rfl) rfl rfl) (fun w2 u0 hb h0 => by obtain rfl := h0; exact (roff_any _ _ _ (k0z.drew.below hb) (Nat.le_trans hl.1 (by decide))).mono fun e w3 h => RetRF.pd h hb.size)) ?_
    refine And.intro (ob_fieldAddr rfl (wt_none rfl) (ev_far rfl rfl) (fun _ => by kernel_rfl) (fun _ => rfl)) ?_
    refine And.intro (ob_load rfl (wt_none rfl) (ev_dep (j := 3) (by kernel_rfl) rfl rfl) (fun w2 hb => run_load1 Tryz.underlying32 rfl ((B0.drew.below hb).cell 2)) (fun _ _ => rfl)) ?_
    refine And.intro (ob_call1 rfl Tryz.func41 (by kernel_rfl) (wt_none rfl) (ev_dep (j := 4) (by kernel_rfl) rfl rfl) (fun w2 u0 hb h0 => by obtain rfl := h0; exact (refOf_any _ _ _ (k0d.drew.below hb) (Nat.le_trans hl.2 (by decide))).mono fun e w3 h => RetS.pd h hb.size)) ?_
    refine And.intro (ob_build2b rfl (wt_none rfl) (ev_dep (j := 2) (by kernel_rfl) rfl rfl) (ev_dep (j := 5) (by kernel_rfl) rfl rfl) (fun w2 u v hb hu hv => by obtain ⟨u7, rfl, hu7⟩ := hu.1; obtain ⟨A7, c7, rfl, _⟩ := id hu7; obtain ⟨A8, c8, rfl, _⟩ := id hv.1; exact ⟨.agg #[.bool (ngB (q).num), .slice A7 (digs 10000 (q).num.natAbs).length c7, .slice A8 (digs 10000 (q).den).length c8], by kernel_rfl, ⟨⟨_, _, rfl, hu7, hv.1⟩, freshQ_mk (hu.2 _ _ rfl) hv.2⟩⟩)) ?_
    trivial
  case done2 =>
    refine fun w11 hb11 v0 h0 v1 h1 v2 h2 v3 h3 v4 h4 v5 h5 v6 h6 b hbf => ?_
    obtain rfl := h0; obtain rfl := h1; obtain rfl := h3; obtain rfl := h4
    obtain ⟨q2, f2⟩ := h2
    obtain ⟨q5, f5⟩ := h5
    obtain ⟨q6, f6⟩ := h6
    simp only [Act.put, List.setIfInBounds_toArray, List.set_cons_zero, List.set_cons_succ] at hbf
    subst hbf
    replace B0 := B0.below hb11
    replace k0s := k0s.below hb11
    replace k0d := k0d.below hb11
    replace k0z := k0z.below hb11
    replace k0 := k0.below hb11
    replace BR0 := BR0.below hb11
    replace bb := bb.trans (hb11.mono bb.size)
    have hsz11 := bb.size
    have s_2 := sB
    have s_5 := sB
    have s_6 := sB
    obtain ⟨u6, t6, rfl, q6, d6⟩ := q6
    obtain ⟨A9, c9, rfl, _⟩ := id q6
    obtain ⟨D9, e9, rfl, _⟩ := id d6
    refine any_store (i := 7) (by kernel_rfl) rfl rfl rfl rfl rfl rfl (cells := [.bool (ngB (q).num), .slice A9 (digs 10000 (q).num.natAbs).length c9, .slice D9 (digs 10000 (q).den).length e9]) rfl BR0 rfl (by kernel_rfl) (one3 rfl rfl rfl) fun w9 hg9 B9 => ?_
    have k9 := off q6 BR0 no_ints3 hg9
    have d9 := off d6 BR0 no_ints3 hg9
    have f9 := f6.mono (show w.heap.size ≤ _ from s_6)
    have bb9 := bb.trans ((Below.refl _ _).grown hg9 bb.size (fun g hg => by injection hg with hg; omega))
    obtain ⟨C0, C1, C2, _, _, _⟩ := three B9
    refine any_done (by kernel_rfl) ?_
    go_wp2
    exact bodyPost_ret (v := .agg #[.bool (ngB (q).num), .slice A9 (digs 10000 (q).num.natAbs).length c9, .slice D9 (digs 10000 (q).den).length e9]) (by simp [results, Tryz.results12, go_sem, C0, C1, C2]) rfl ⟨_, rfl, ⟨_, _, rfl, k9, d9⟩, f9, bb9⟩
end Go.Proofs.YtpcdkepkipadaaaGreat.rat
namespace Go.Proofs.YtpcdkepkipadaaaGreat.rat
open Go.RowKit Go.Proofs.YtpcdkepkipadaaaGreat.num Go.Proofs.YtpcdkepkipadaaaGreat.mem Go.Proofs.YtpcdkepkipadaaaGreat.nat Go.Proofs.YtpcdkepkipadaaaGreat.flow
set_option linter.unusedVariables false
theorem IsS.cut {w : World} {k : IntKind} {A : Option Addr} {c : Nat} {l : List Nat} (h : IsS w k (.slice A l.length c) l) (m : Nat) : IsS w k (.slice A (min l.length m) c) (l.take m) := by
  obtain ⟨A', c', e, h1, h2, h3⟩ := h
  injection e with e1 e2 e3
  subst e1; subst e3
  refine ⟨A, c, by rw [List.length_take, Nat.min_comm], by rw [List.length_take]; omega, h2, fun i d hd => ?_⟩
  rw [List.getElem?_take] at hd
  split at hd
  · exact h3 i d hd
  · cases hd
end Go.Proofs.YtpcdkepkipadaaaGreat.rat
namespace Go.Proofs.YtpcdkepkipadaaaGreat.rat
open Go.RowKit Go.Proofs.YtpcdkepkipadaaaGreat.num Go.Proofs.YtpcdkepkipadaaaGreat.mem Go.Proofs.YtpcdkepkipadaaaGreat.nat Go.Proofs.YtpcdkepkipadaaaGreat.txt Go.Proofs.YtpcdkepkipadaaaGreat.str Go.Proofs.YtpcdkepkipadaaaGreat.flow Go.Proofs.YtpcdkepkipadaaaGreat.whl
set_option linter.unusedVariables false
theorem mk_num_eq (z : Int) {d : Nat} (hd : d ≠ 0) : (mkRat z d).num = z / ((z.natAbs.gcd d : Nat) : Int) := by
  rw [Rat.num_mkRat, if_neg hd, Nat.gcd_comm]
/-- The upper part, and what it divides. -/
theorem mk_upper (z : Int) {d : Nat} (hd : d ≠ 0) : z = (mkRat z d).num * ((z.natAbs.gcd d : Nat) : Int) := by
  rw [mk_num_eq z hd, Int.ediv_mul_cancel (Int.ofNat_dvd_left.2 (Nat.gcd_dvd_left _ _))]
theorem mk_lower (z : Int) {d : Nat} (hd : d ≠ 0) : d = (mkRat z d).den * (z.natAbs.gcd d) := by
  rw [mk_den z hd, Nat.div_mul_cancel (Nat.gcd_dvd_right _ _)]
/-- A fraction by its own parts, which nothing divides. -/
theorem parts_of {q : Rat} {n : Int} {d : Nat} (hd : d ≠ 0) (h : q = mkRat n d) (hc : Nat.gcd n.natAbs d = 1) : q.num = n ∧ q.den = d := by
  subst h
  constructor
  · rw [mk_num_eq n hd, hc]; exact Int.ediv_one n
  · rw [mk_den n hd, hc, Nat.div_one]
theorem mul_parts (x y : Rat) : (x * y).num = (mkRat x.num y.den).num * (mkRat y.num x.den).num ∧ (x * y).den = (mkRat y.num x.den).den * (mkRat x.num y.den).den := by
  have e1 := mk_upper x.num y.den_nz
  have e2 := mk_lower x.num y.den_nz
  have e3 := mk_upper y.num x.den_nz
  have e4 := mk_lower y.num x.den_nz
  have r1 := (mkRat x.num y.den).reduced
  have r2 := (mkRat y.num x.den).reduced
  have n1 := (mkRat x.num y.den).den_nz
  have n2 := (mkRat y.num x.den).den_nz
  have x1 := x.reduced
  have y1 := y.reduced
  refine parts_of (Nat.mul_ne_zero n2 n1) ?_ ?_
  · rw [Nat.mul_comm, ← Rat.mkRat_mul_mkRat, Rat.mkRat_self, Rat.mkRat_self, Rat.mkRat_mul_mkRat, Nat.mul_comm y.den, Rat.mul_def']
  · have d1 : (mkRat x.num y.den).num.natAbs ∣ x.num.natAbs := Int.natAbs_dvd_natAbs.2 ⟨_, e1⟩
    have d2 : (mkRat y.num x.den).den ∣ x.den := ⟨_, e4⟩
    have d3 : (mkRat y.num x.den).num.natAbs ∣ y.num.natAbs := Int.natAbs_dvd_natAbs.2 ⟨_, e3⟩
    have d4 : (mkRat x.num y.den).den ∣ y.den := ⟨_, e2⟩
    rw [Int.natAbs_mul]
    have c1 : Nat.Coprime (mkRat x.num y.den).num.natAbs (mkRat y.num x.den).den := Nat.Coprime.coprime_dvd_left d1 (Nat.Coprime.coprime_dvd_right d2 x1)
    have c2 : Nat.Coprime (mkRat y.num x.den).num.natAbs (mkRat x.num y.den).den := Nat.Coprime.coprime_dvd_left d3 (Nat.Coprime.coprime_dvd_right d4 y1)
    exact (Nat.Coprime.mul_right c1 r1).mul_left (Nat.Coprime.mul_right r2 c2)
theorem add_parts (x y : Rat) {g a b : Nat} (hg : g = x.den.gcd y.den) (ha : a = x.den / g) (hb : b = y.den / g) : (x + y).num = (mkRat (x.num * (b : Int) + y.num * (a : Int)) g).num ∧ (x + y).den = a * b * (mkRat (x.num * (b : Int) + y.num * (a : Int)) g).den := by
  have gp : 0 < g := by rw [hg]; exact Nat.gcd_pos_of_pos_left _ x.den_pos
  have haux := Rat.add.aux x y hg ha hb
  have e1 : x.den = a * g := by rw [ha, Nat.div_mul_cancel (by rw [hg]; exact Nat.gcd_dvd_left _ _)]
  have e2 : y.den = b * g := by rw [hb, Nat.div_mul_cancel (by rw [hg]; exact Nat.gcd_dvd_right _ _)]
  obtain ⟨S, hS⟩ : ∃ S, S = x.num * (b : Int) + y.num * (a : Int) := ⟨_, rfl⟩
  rw [← hS]
  have haux : S.natAbs.gcd g = S.natAbs.gcd (a * y.den) := by rw [hS]; exact haux
  have e3 : x + y = mkRat S (a * y.den) := by
    rw [Rat.add_def', show x.num * (y.den : Int) + y.num * (x.den : Int) = S * (g : Int) by rw [hS, e1, e2, Int.natCast_mul, Int.natCast_mul, Int.add_mul, Int.mul_assoc, Int.mul_assoc], show x.den * y.den = a * y.den * g by rw [e1]; rw [Nat.mul_assoc, Nat.mul_comm g, ← Nat.mul_assoc], Rat.mkRat_mul_right (by omega)]
  have ne : a * y.den ≠ 0 := Nat.mul_ne_zero (fun e => x.den_nz (by rw [e1, e, Nat.zero_mul])) y.den_nz
  rw [e3]
  constructor
  · rw [mk_num_eq S ne, mk_num_eq S (by omega), haux]
  · rw [mk_den S ne, mk_den S (by omega), ← haux, e2, ← Nat.mul_assoc, Nat.mul_div_assoc _ (Nat.gcd_dvd_right _ _)]
theorem eq_parts {x y : Rat} : x = y ↔ x.num = y.num ∧ x.den = y.den := ⟨fun h => by rw [h]; exact ⟨rfl, rfl⟩, fun h => Rat.ext h.1 h.2⟩
theorem lenQ_of {x : Rat} {m : Nat} (h1 : lenZ x.num ≤ m) (h2 : (digs 4294967296 x.den).length ≤ m) : lenQ x m := ⟨h1, h2⟩
/-- A whole number, and a number, both in new memory. -/
def RetZS (z : Int) (d : Nat) (w : World) (e : Ending) (w' : World) : Prop := ∃ v u, e = .returned (.tuple #[v, u]) ∧ IsZ w' v z ∧ IsS w' .u64 u (digs 4294967296 d) ∧ FreshZ w.heap.size v ∧ Fresh w.heap.size u ∧ Below w.heap.size w w'
def pzs (z : Int) (d : Nat) (B : Nat) : Pd := ⟨fun w t => ∃ v u, t = .tuple #[v, u] ∧ IsZ w v z ∧ IsS w .u64 u (digs 4294967296 d) ∧ FreshZ B v ∧ Fresh B u, fun h hb => by obtain ⟨v, u, e, h1, h2, h3, h4⟩ := h; exact ⟨v, u, e, h1.below hb, h2.below hb, h3, h4⟩⟩
theorem RetZS.pd {z : Int} {d : Nat} {w : World} {e : Ending} {w' : World} {B : Nat} (h : RetZS z d w e w') (hB : B ≤ w.heap.size) : RetPd (pzs z d B) w e w' := by
  obtain ⟨v, u, h1, h2, h3, h4, h5, h6⟩ := h
  exact ⟨_, h1, ⟨v, u, rfl, h2, h3, h4.mono hB, h5.mono hB⟩, h6⟩
/-- A fraction in new memory, and an error's number. -/
def RetQF (q : Rat) (n : Int) (w : World) (e : Ending) (w' : World) : Prop := ∃ v, e = .returned (.tuple #[v, .int .i64 n]) ∧ IsQ w' v q ∧ FreshQ w.heap.size v ∧ Below w.heap.size w w'
def pqf (q : Rat) (n : Int) (B : Nat) : Pd := ⟨fun w t => ∃ v, t = .tuple #[v, .int .i64 n] ∧ IsQ w v q ∧ FreshQ B v, fun h hb => by obtain ⟨v, e, h1, h2⟩ := h; exact ⟨v, e, h1.below hb, h2⟩⟩
theorem RetQF.pd {q : Rat} {n : Int} {w : World} {e : Ending} {w' : World} {B : Nat} (h : RetQF q n w e w') (hB : B ≤ w.heap.size) : RetPd (pqf q n B) w e w' := by
  obtain ⟨v, h1, h2, h3, h4⟩ := h
  exact ⟨_, h1, ⟨v, rfl, h2, h3.mono hB⟩, h4⟩
theorem RetQF.e {q : Rat} {n : Int} {w : World} {e : Ending} {w' : World} (h : RetQF q n w e w') : RetQE q n w e w' := by
  obtain ⟨v, h1, h2, _, h4⟩ := h
  exact ⟨v, h1, h2, h4⟩
theorem RetZ.to {x y : Int} {w : World} {e : Ending} {w' : World} (h : RetZ x w e w') (k : x = y) : RetZ y w e w' := k ▸ h
theorem RetS.to {l m : List Nat} {w : World} {e : Ending} {w' : World} (h : RetS .u64 l w e w') (k : l = m) : RetS .u64 m w e w' := k ▸ h
theorem RetQ.to {x y : Rat} {w : World} {e : Ending} {w' : World} (h : RetQ x w e w') (k : x = y) : RetQ y w e w' := k ▸ h
/-- A struct of a sign, a slice told, and a new number. -/
def pbq (b : Bool) (S : Value) (l : List Nat) (B : Nat) : Pd := ⟨fun w v => ∃ A c, v = .agg #[.bool b, S, .slice A l.length c] ∧ IsS w .u64 (.slice A l.length c) l ∧ Fresh B (.slice A l.length c), fun h hb => by obtain ⟨A, c, e, h1, h2⟩ := h; exact ⟨A, c, e, h1.below hb, h2⟩⟩
set_option maxHeartbeats 1600000 in
set_option maxRecDepth 100000 in
theorem unsigned_any (a0 : Value) (x : Nat) (w : World) (h0 : IsS w .u64 a0 (digs 4294967296 x)) :
    Calls Tryz.prog 84 #[a0] w (RetV (.agg #[.bool false, a0]) w) := by
  have s0 := h0
  obtain ⟨A0, c0, rfl, _⟩ := id s0
  go_enter Tryz.func84, Tryz.ntmps84
  go_upto_region 1 with (fail)
  obtain ⟨wx, hwx, bb, BR0, hsz⟩ := vars1 w 34 #[.bool false, .slice none 0 0]
  rw [hwx]
  clear hwx
  have k0 := s0.below bb
  have hsz0 := bb.size
  have sB := bb.size
  refine flowp 2 [Pd.eq (.slice A0 (digs 4294967296 x).length c0), Pd.eq (.agg #[.bool false, .slice A0 (digs 4294967296 x).length c0])] (by kernel_rfl) ?ob1 ?done1
  case ob1 =>
    refine And.intro (ob_move rfl (wt_none rfl) (ev_far rfl rfl) (fun _ _ h => h)) ?_
    refine And.intro (ob_build1b rfl (wt_none rfl) (ev_dep (j := 0) (by kernel_rfl) rfl rfl) (fun w2 u hb hu => by obtain rfl := hu; exact ⟨.agg #[.bool false, .slice A0 (digs 4294967296 x).length c0], by kernel_rfl, rfl⟩)) ?_
    trivial
  case done1 =>
    refine fun w1 hb1 v0 h0 v1 h1 b hbf => ?_
    obtain rfl := h0; obtain rfl := h1
    simp only [Act.put, List.setIfInBounds_toArray, List.set_cons_zero, List.set_cons_succ] at hbf
    subst hbf
    replace BR0 := BR0.below hb1
    replace k0 := k0.below hb1
    replace bb := bb.trans (hb1.mono bb.size)
    have hsz1 := bb.size
    refine ops_store (i := 2) rfl rfl rfl rfl rfl rfl (cells := [.bool false, .slice A0 (digs 4294967296 x).length c0]) rfl BR0 rfl (by kernel_rfl) (one2 rfl rfl) fun w9 hg9 B9 => ?_
    have bb9 := bb.trans ((Below.refl _ _).grown hg9 bb.size (fun g hg => by injection hg with hg; omega))
    obtain ⟨C0, C1, _, _⟩ := Blk.two B9
    refine ops_done ?_
    go_wp2
    exact bodyPost_ret (v := .agg #[.bool false, .slice A0 (digs 4294967296 x).length c0]) (by simp [results, Tryz.results84, go_sem, C0, C1]) rfl ⟨rfl, bb9⟩
theorem unsigned_pd (a0 : Value) (x : Nat) (w : World) (h0 : IsS w .u64 a0 (digs 4294967296 x)) : Calls Tryz.prog 84 #[a0] w (RetPd (pi ((x : Nat) : Int)) w) :=
  (unsigned_any a0 x w h0).mono fun e w' h => ⟨_, h.1, isZ_mk (h0.below h.2) (Int.natAbs_natCast _) (ngB_of_pos (by omega)).symm, h.2⟩
set_option maxHeartbeats 1600000 in
set_option maxRecDepth 100000 in
theorem times_any (a0 : Value) (x : Nat) (a1 : Value) (y : Nat) (w : World) (h0 : IsS w .u64 a0 (digs 4294967296 x)) (h1 : IsS w .u64 a1 (digs 4294967296 y)) (hl : (digs 4294967296 x).length ≤ 100000) (hl2 : (digs 4294967296 y).length ≤ 100000) :
    Calls Tryz.prog 86 #[a0, a1] w (RetS .u64 (digs 4294967296 (x * y)) w) := by
  have s0 := h0
  obtain ⟨A0, c0, rfl, _⟩ := id s0
  have s1 := h1
  obtain ⟨A1, c1, rfl, _⟩ := id s1
  have bb : Below w.heap.size w w := Below.refl _ _
  have HM : Hid (((x * y : Nat) : Int) = ((x : Nat) : Int) * ((y : Nat) : Int)) := Int.natCast_mul x y
  have HL1 : Hid (lenZ ((x : Nat) : Int) ≤ 100000) := by show _ ≤ _; rw [lenD]; omega
  have HL2 : Hid (lenZ ((y : Nat) : Int) ≤ 100000) := by show _ ≤ _; rw [lenD]; omega
  go_enter Tryz.func86, Tryz.ntmps86
  go_upto_region 1 with (fail)
  have k0 := s0.below bb
  have k1 := s1.below bb
  have hsz0 := bb.size
  have sB := bb.size
  refine flowp 7 [Pd.eq (.slice A0 (digs 4294967296 x).length c0), pi (((x : Nat) : Int)), Pd.eq (.slice A1 (digs 4294967296 y).length c1), pi (((y : Nat) : Int)), pz (((x * y : Nat) : Int)) w.heap.size, ps .u64 (digs 4294967296 (x * y)) w.heap.size, ps .u64 (digs 4294967296 (x * y)) w.heap.size] (by kernel_rfl) ?ob2 ?done2
  case ob2 =>
    refine And.intro (ob_move rfl (wt_none rfl) (ev_far rfl rfl) (fun _ _ h => h)) ?_
    refine And.intro (ob_call1 rfl Tryz.func84 (by kernel_rfl) (wt_none rfl) (ev_dep (j := 0) (by kernel_rfl) rfl rfl) (fun w2 u0 hb h0 => by obtain rfl := h0; exact unsigned_pd _ (x) _ (k0.below hb))) ?_
    refine And.intro (ob_move rfl (wt_none rfl) (ev_far rfl rfl) (fun _ _ h => h)) ?_
    refine And.intro (ob_call1 rfl Tryz.func84 (by kernel_rfl) (wt_none rfl) (ev_dep (j := 2) (by kernel_rfl) rfl rfl) (fun w2 u0 hb h0 => by obtain rfl := h0; exact unsigned_pd _ (y) _ (k1.below hb))) ?_
    refine And.intro (ob_call2 rfl Tryz.func83 (by kernel_rfl) (wt_none rfl) (ev_dep (j := 1) (by kernel_rfl) rfl rfl) (ev_dep (j := 3) (by kernel_rfl) rfl rfl) (fun w2 u0 u1 hb h0 h1 => by exact (zmul_any _ _ _ _ _ _ h0 h1 HL1.out HL2.out HM.out).mono fun e w3 h => RetZ.pd h hb.size)) ?_
    refine And.intro (ob_field rfl (wt_none rfl) (ev_dep (j := 4) (by kernel_rfl) rfl rfl) (fun w2 u hu => by obtain ⟨⟨u', rfl, q'⟩, f'⟩ := hu; exact ⟨u', by kernel_rfl, q', f' _ _ rfl⟩)) ?_
    refine And.intro (ob_assign rfl (wt_none rfl) (ev_dep (j := 5) (by kernel_rfl) rfl rfl) (fun _ _ h => h)) ?_
    trivial
  case done2 =>
    refine fun w1 hb1 v0 h0 v1 h1 v2 h2 v3 h3 v4 h4 v5 h5 v6 h6 b hbf => ?_
    obtain rfl := h0; obtain rfl := h2
    have q1 := h1
    have q3 := h3
    obtain ⟨q4, f4⟩ := h4
    obtain ⟨q5, f5⟩ := h5
    obtain ⟨q6, f6⟩ := h6
    simp only [Act.put, List.setIfInBounds_toArray, List.set_cons_zero, List.set_cons_succ] at hbf
    subst hbf
    replace k0 := k0.below hb1
    replace k1 := k1.below hb1
    replace bb := bb.trans (hb1.mono bb.size)
    have hsz1 := bb.size
    have s_4 := sB
    have s_5 := sB
    have s_6 := sB
    refine ops_done ?_
    go_wp2
    go_ret
    exact ⟨_, rfl, q6, f6.mono s_6, bb⟩
set_option maxHeartbeats 1600000 in
set_option maxRecDepth 100000 in
theorem reduced_any (a0 : Value) (z : Int) (a1 : Value) (d : Nat) (U : Int) (L : Nat) (w : World) (h0 : IsZ w a0 z) (h1 : IsS w .u64 a1 (digs 4294967296 d)) (hd : d ≠ 0) (hl : lenZ z ≤ 20000) (hl2 : (digs 4294967296 d).length ≤ 20000) (hU : U = (mkRat z d).num) (hL : L = (mkRat z d).den) :
    Calls Tryz.prog 85 #[a0, a1] w (RetZS U L w) := by
  obtain ⟨u0, rfl, s0⟩ := h0
  obtain ⟨A0, c0, rfl, _⟩ := id s0
  have s1 := h1
  obtain ⟨A1, c1, rfl, _⟩ := id s1
  obtain ⟨G, hG⟩ : ∃ G, G = Nat.gcd z.natAbs d := ⟨_, rfl⟩
  have hGp : 0 < G := by rw [hG]; exact Nat.gcd_pos_of_pos_right _ (by omega)
  have hGd : G ≤ d := by rw [hG]; exact Nat.le_of_dvd (by omega) (Nat.gcd_dvd_right _ _)
  have HL1 : Hid ((digs 4294967296 z.natAbs).length ≤ 90000) := Nat.le_trans hl (by decide)
  have HL2 : Hid ((digs 4294967296 d).length ≤ 90000) := Nat.le_trans hl2 (by decide)
  have HL3 : Hid (lenZ ((G : Nat) : Int) ≤ 20000) := by show _ ≤ _; rw [lenD]; exact Nat.le_trans (digs_len_mono (by omega) hGd) hl2
  have HL4 : Hid ((digs 4294967296 G).length ≤ 90000) := Nat.le_trans (digs_len_mono (by omega) hGd) HL2.out
  have HG : Hid (gcds [z.natAbs, d] = G) := by show _ = _; rw [hG]; simp [gcds]
  have HU : Hid (z = U * ((G : Nat) : Int)) := by show _ = _; rw [hU, hG]; exact mk_upper z hd
  have HM : Hid (d % G = 0) := by show _ = _; rw [hG]; exact Nat.mod_eq_zero_of_dvd (Nat.gcd_dvd_right _ _)
  have HQ : Hid (L = d / G) := by show _ = _; rw [hL, hG]; exact mk_den z hd
  have HN : Hid (((G : Nat) : Int) ≠ 0) := by show _ ≠ _; omega
  clear hG hU hL hGd
  go_enter Tryz.func85, Tryz.ntmps85
  go_upto_region 1 with (fail)
  obtain ⟨wx, hwx, bb, B0, BR0, hsz⟩ := vars2 w 34 34 #[.bool (ngB z), .slice A0 (digs 4294967296 (z).natAbs).length c0] #[.bool false, .slice none 0 0]
  rw [hwx]
  clear hwx
  have k0s := s0.below bb
  have k0 : IsZ wx (.agg #[.bool (ngB z), .slice A0 (digs 4294967296 (z).natAbs).length c0]) (z) := isZ_mk k0s rfl rfl
  have k1 := s1.below bb
  have hsz0 := bb.size
  obtain ⟨x00, x01, _, _⟩ := Blk.two B0
  go_wp2_with fail
  have hbA := below_alloc (Nat.le_refl wx.heap.size) (.cells #[.slice A0 (digs 4294967296 (z).natAbs).length c0, .slice A1 (digs 4294967296 d).length c1] 32)
  refine (ggcd_any _ [_, _] [z.natAbs, d] _ (isV_lit wx 32 [_, _]) (nums2 (k0s.below hbA) (k1.below hbA)) (by simp) (by intro q hq; simp at hq; rcases hq with rfl | rfl; exact HL1.out; exact HL2.out)).mono ?_
  rintro e w1 ⟨v1, rfl, kg, kgf, b1⟩
  have hb1 := hbA.trans (b1.mono hbA.size)
  rw [HG.out] at kg
  clear x00 x01
  replace B0 := B0.below hb1
  replace k0s := k0s.below hb1
  replace k0 := k0.below hb1
  replace BR0 := BR0.below hb1
  replace k1 := k1.below hb1
  replace bb := bb.trans (hb1.mono bb.size)
  have hsz1 := bb.size
  obtain ⟨Akg, ckg, rfl, _⟩ := id kg
  have sB := bb.size
  go_upto_region 2 with (fail)
  have lt1_2 := Blk.lt B0
  have lt1_4 := Blk.lt BR0
  refine flowl 8 [Pd.eq (.agg #[.bool (ngB z), .slice A0 (digs 4294967296 (z).natAbs).length c0]), Pd.eq (.slice Akg (digs 4294967296 G).length ckg), pi (((G : Nat) : Int)), pze (U) 0 w1.heap.size, pze (U) 0 w1.heap.size, pz (U) w1.heap.size, Pd.eq (.int .i64 0), pn 34 #[.bool false, .slice none 0 0] w1.heap.size] (by kernel_rfl) 6 rfl (by kernel_rfl) (fun _ _ _ _ h => h) (late_extract rfl rfl (ev_dep (j := 4) (by kernel_rfl) rfl rfl) (fun w2 u hu => by obtain ⟨v, rfl, q1, q2⟩ := hu; exact ⟨_, fun _ => rfl, rfl⟩)) ?ob3 ?done3
  case ob3 =>
    refine And.intro (ob_load rfl (wt_none rfl) (ev_far rfl rfl) (fun w2 hb => run_loadAll Tryz.underlying34 rfl (by kernel_rfl) (B0.drew.below hb)) (fun _ _ => rfl)) ?_
    refine And.intro (ob_move rfl (wt_none rfl) (ev_far rfl rfl) (fun _ _ h => h)) ?_
    refine And.intro (ob_call1 rfl Tryz.func84 (by kernel_rfl) (wt_none rfl) (ev_dep (j := 1) (by kernel_rfl) rfl rfl) (fun w2 u0 hb h0 => by obtain rfl := h0; exact unsigned_pd _ (G) _ (kg.drew.below hb))) ?_
    refine And.intro (ob_call2 rfl Tryz.func114 (by kernel_rfl) (wt_none rfl) (ev_dep (j := 0) (by kernel_rfl) rfl rfl) (ev_dep (j := 2) (by kernel_rfl) rfl rfl) (fun w2 u0 u1 hb h0 h1 => by obtain rfl := h0; exact (zexact_ok _ z _ _ U _ (k0.drew.below hb) h1 hl HL3.out HN.out HU.out).mono fun e w3 h => RetZE.pd h hb.size)) ?_
    refine And.intro (ob_move rfl (wt_none rfl) (ev_dep (j := 3) (by kernel_rfl) rfl rfl) (fun _ _ h => h)) ?_
    refine And.intro (ob_extract rfl (wt_none rfl) (ev_dep (j := 4) (by kernel_rfl) rfl rfl) (fun w2 u hu => by obtain ⟨v, rfl, q1, q2⟩ := hu; exact ⟨v, rfl, q1, q2⟩)) ?_
    refine And.intro (ob_extract rfl (wt_none rfl) (ev_dep (j := 4) (by kernel_rfl) rfl rfl) (fun w2 u hu => by obtain ⟨v, rfl, q1, q2⟩ := hu; exact ⟨_, rfl, rfl⟩)) ?_
    refine And.intro (ob_alloc (z := .agg #[.bool false, .slice none 0 0]) rfl rfl (fun _ => by kernel_rfl) (fun _ _ hB h => ⟨_, rfl, hB, h⟩)) ?_
    trivial
  case done3 =>
    refine fun w2 hb2 v0 h0 v1 h1 v2 h2 v3 h3 v4 h4 v5 h5 v6 h6 v7 h7 d7 b hbf => ?_
    obtain rfl := h0; obtain rfl := h1; obtain rfl := h6
    have q2 := h2
    clear h3
    clear h4
    obtain ⟨q5, f5⟩ := h5
    obtain ⟨g3_7, rfl, hg7, B7⟩ := h7
    simp only [Act.put, List.setIfInBounds_toArray, List.set_cons_zero, List.set_cons_succ] at hbf
    subst hbf
    replace B0 := B0.below hb2
    replace k0s := k0s.below hb2
    replace k0 := k0.below hb2
    replace BR0 := BR0.below hb2
    replace k1 := k1.below hb2
    replace kg := kg.below hb2
    replace bb := bb.trans (hb2.mono bb.size)
    have hsz2 := bb.size
    have s_5 := sB
    have BA7 := B7
    obtain ⟨u5, rfl, q5⟩ := q5
    obtain ⟨A7, c7, rfl, _⟩ := id q5
    refine any_store (i := 8) (by kernel_rfl) rfl rfl rfl rfl rfl rfl (cells := [.bool (ngB U), .slice A7 (digs 4294967296 (U).natAbs).length c7]) rfl BA7 rfl (by kernel_rfl) (one2 rfl rfl) fun w3 hg3 BN3 => ?_
    replace q5 := off q5 BA7 no_ints2 hg3
    replace k1 := off k1 BA7 no_ints2 hg3
    replace kg := off kg BA7 no_ints2 hg3
    replace k0s := off k0s BA7 no_ints2 hg3
    replace k0 : IsZ w3 (.agg #[.bool (ngB z), .slice A0 (digs 4294967296 (z).natAbs).length c0]) (z) := ⟨_, rfl, k0s⟩
    replace B0 := B0.grown hg3 (by omega)
    replace BR0 := BR0.grown hg3 (by omega)
    replace bb := bb.trans ((Below.refl _ _).grown hg3 bb.size (fun g hg => by injection hg with hg; omega))
    have hsz3 := bb.size
    have B7 : Blk w3 (g3_7) _ _ := BN3
    have k7s := q5
    have k7 : IsZ w3 (.agg #[.bool (ngB U), .slice A7 (digs 4294967296 (U).natAbs).length c7]) (U) := ⟨_, rfl, k7s⟩
    refine any_assign (i := 9) (.int .i64 0) (by kernel_rfl) rfl rfl rfl rfl rfl fun b hbf => ?_
    simp only [Act.put, List.setIfInBounds_toArray, List.set_cons_zero, List.set_cons_succ] at hbf
    subst hbf
    refine any_done (by kernel_rfl) ?_
    have f7_ := (f5 _ _ rfl).mono s_5
    have sB := bb.size
    go_upto_region 3 with (fail)
    refine flowp 8 [Pd.eq (.slice A1 (digs 4294967296 d).length c1), Pd.eq (.slice Akg (digs 4294967296 G).length ckg), pt .u64 (digs 4294967296 L) 0 w3.heap.size, pt .u64 (digs 4294967296 L) 0 w3.heap.size, ps .u64 (digs 4294967296 L) w3.heap.size, Pd.eq (.int .i64 0), ps .u64 (digs 4294967296 L) w3.heap.size, Pd.eq (.int .i64 0)] (by kernel_rfl) ?ob4 ?done4
    case ob4 =>
      refine And.intro (ob_move rfl (wt_none rfl) (ev_far rfl rfl) (fun _ _ h => h)) ?_
      refine And.intro (ob_move rfl (wt_none rfl) (ev_far rfl rfl) (fun _ _ h => h)) ?_
      refine And.intro (ob_call2 rfl Tryz.func81 (by kernel_rfl) (wt_none rfl) (ev_dep (j := 0) (by kernel_rfl) rfl rfl) (ev_dep (j := 1) (by kernel_rfl) rfl rfl) (fun w2 u0 u1 hb h0 h1 => by obtain rfl := h0; obtain rfl := h1; exact (dexact_ok _ _ d G _ (k1.below hb) (kg.below hb) HL2.out HL4.out hGp L HM.out HQ.out).mono fun e w3 h => RetSI.pd h hb.size)) ?_
      refine And.intro (ob_move rfl (wt_none rfl) (ev_dep (j := 2) (by kernel_rfl) rfl rfl) (fun _ _ h => h)) ?_
      refine And.intro (ob_extract rfl (wt_none rfl) (ev_dep (j := 3) (by kernel_rfl) rfl rfl) (fun w2 u hu => by obtain ⟨v, rfl, q1, q2⟩ := hu; exact ⟨v, rfl, q1, q2⟩)) ?_
      refine And.intro (ob_extract rfl (wt_none rfl) (ev_dep (j := 3) (by kernel_rfl) rfl rfl) (fun w2 u hu => by obtain ⟨v, rfl, q1, q2⟩ := hu; exact ⟨_, rfl, rfl⟩)) ?_
      refine And.intro (ob_assign rfl (wt_none rfl) (ev_dep (j := 4) (by kernel_rfl) rfl rfl) (fun _ _ h => h)) ?_
      refine And.intro (ob_assign rfl (wt_none rfl) (ev_dep (j := 5) (by kernel_rfl) rfl rfl) (fun _ _ h => h)) ?_
      trivial
    case done4 =>
      refine fun w4 hb4 v0 h0 v1 h1 v2 h2 v3 h3 v4 h4 v5 h5 v6 h6 v7 h7 b hbf => ?_
      obtain rfl := h0; obtain rfl := h1; obtain rfl := h5; obtain rfl := h7
      clear h2
      clear h3
      obtain ⟨q4, f4⟩ := h4
      obtain ⟨q6, f6⟩ := h6
      simp only [Act.put, List.setIfInBounds_toArray, List.set_cons_zero, List.set_cons_succ] at hbf
      subst hbf
      replace B0 := B0.below hb4
      replace k0s := k0s.below hb4
      replace k0 := k0.below hb4
      replace BR0 := BR0.below hb4
      replace B7 := B7.below hb4
      replace k7s := k7s.below hb4
      replace k7 := k7.below hb4
      replace k1 := k1.below hb4
      replace kg := kg.below hb4
      replace bb := bb.trans (hb4.mono bb.size)
      have hsz4 := bb.size
      have s_4 := sB
      have s_6 := sB
      refine ops_done ?_
      obtain ⟨A9, c9, rfl, _⟩ := id q6
      have n9 := q6
      have n9f := f6
      have n9z_ := s_6
      have sB := bb.size
      go_upto_region 4 with (fail)
      refine flowp 2 [Pd.eq (.agg #[.bool (ngB U), .slice A7 (digs 4294967296 (U).natAbs).length c7]), Pd.eq (.slice A9 (digs 4294967296 L).length c9)] (by kernel_rfl) ?ob5 ?done5
      case ob5 =>
        refine And.intro (ob_load rfl (wt_none rfl) (ev_far rfl rfl) (fun w2 hb => run_loadAll Tryz.underlying34 rfl (by kernel_rfl) (B7.below hb)) (fun _ _ => rfl)) ?_
        refine And.intro (ob_move rfl (wt_none rfl) (ev_far rfl rfl) (fun _ _ h => h)) ?_
        trivial
      case done5 =>
        refine fun w5 hb5 v0 h0 v1 h1 b hbf => ?_
        obtain rfl := h0; obtain rfl := h1
        simp only [Act.put, List.setIfInBounds_toArray, List.set_cons_zero, List.set_cons_succ] at hbf
        subst hbf
        replace B0 := B0.below hb5
        replace k0s := k0s.below hb5
        replace k0 := k0.below hb5
        replace BR0 := BR0.below hb5
        replace B7 := B7.below hb5
        replace k7s := k7s.below hb5
        replace k7 := k7.below hb5
        replace k1 := k1.below hb5
        replace kg := kg.below hb5
        replace n9 := n9.below hb5
        replace bb := bb.trans (hb5.mono bb.size)
        have hsz5 := bb.size
        refine ops_store (i := 2) rfl rfl rfl rfl rfl rfl (cells := [.bool (ngB U), .slice A7 (digs 4294967296 (U).natAbs).length c7]) rfl BR0 rfl (by kernel_rfl) (one2 rfl rfl) fun wx9 hg9 BX9 => ?_
        have m9 := off k7s BR0 no_ints2 hg9
        have l9 := off n9 BR0 no_ints2 hg9
        have bb9 := bb.trans ((Below.refl _ _).grown hg9 bb.size (fun g hg => by injection hg with hg; omega))
        obtain ⟨C0, C1, _, _⟩ := Blk.two BX9
        refine ops_assign (i := 3) (.slice A9 (digs 4294967296 L).length c9) rfl rfl rfl rfl rfl fun b hbf => ?_
        simp only [Act.put, List.setIfInBounds_toArray, List.set_cons_zero, List.set_cons_succ] at hbf
        subst hbf
        refine ops_done ?_
        go_wp2
        exact bodyPost_ret (v := .tuple #[.agg #[.bool (ngB U), .slice A7 (digs 4294967296 (U).natAbs).length c7], .slice A9 (digs 4294967296 L).length c9]) (by simp [results, Tryz.results85, go_sem, C0, C1]) rfl ⟨_, _, rfl, isZ_mk m9 rfl rfl, l9, freshZ_mk f7_, n9f.mono n9z_, bb9⟩
set_option maxHeartbeats 1600000 in
set_option maxRecDepth 100000 in
theorem fsign0_any (a0 : Value) (x : Rat) (t : Int) (w : World) (h0 : IsQ w a0 x) (ht : t = ordz x.num 0) :
    Calls Tryz.prog 43 #[a0] w (RetV (.int .i64 t) w) := by
  obtain ⟨u0, t0, rfl, s0, r0⟩ := h0
  obtain ⟨A0, c0, rfl, _⟩ := id s0
  obtain ⟨D0, e0, rfl, _⟩ := id r0
  have HT := Lib.hid ht
  clear ht
  go_enter Tryz.func43, Tryz.ntmps43
  go_upto_region 1 with (fail)
  obtain ⟨wx, hwx, bb, B0, hsz⟩ := vars1 w 36 #[.bool (ngB (x).num), .slice A0 (digs 4294967296 (x).num.natAbs).length c0, .slice D0 (digs 4294967296 (x).den).length e0]
  rw [hwx]
  clear hwx
  have k0s := s0.below bb
  have k0d := r0.below bb
  have k0z : IsZ wx (.agg #[.bool (ngB (x).num), .slice A0 (digs 4294967296 (x).num.natAbs).length c0]) (x).num := ⟨_, rfl, k0s⟩
  have k0 : IsQ wx (.agg #[.bool (ngB (x).num), .slice A0 (digs 4294967296 (x).num.natAbs).length c0, .slice D0 (digs 4294967296 (x).den).length e0]) (x) := ⟨_, _, rfl, k0s, k0d⟩
  have hsz0 := bb.size
  have sB := bb.size
  refine flowp 4 [Pd.eq (.pointer (some ⟨w.heap.size, 0, none⟩)), Pd.eq (.agg #[.bool (ngB (x).num), .slice A0 (digs 4294967296 (x).num.natAbs).length c0]), Pd.eq (.int .i64 t), Pd.eq (.int .i64 t)] (by kernel_rfl) ?ob7 ?done7
  case ob7 =>
    refine And.intro (ob_fieldAddr rfl (wt_none rfl) (ev_far rfl rfl) (fun _ => by kernel_rfl) (fun _ => rfl)) ?_
    refine And.intro (ob_load rfl (wt_none rfl) (ev_dep (j := 0) (by kernel_rfl) rfl rfl) (fun w2 hb => run_loadPart Tryz.underlying34 rfl (by kernel_rfl) (B0.below hb) rfl) (fun _ _ => rfl)) ?_
    refine And.intro (ob_call1 rfl Tryz.func78 (by kernel_rfl) (wt_none rfl) (ev_dep (j := 1) (by kernel_rfl) rfl rfl) (fun w2 u0 hb h0 => by obtain rfl := h0; exact (sign_any _ x.num t _ (k0z.below hb) HT.out).mono fun e w3 h => RetV.pd h)) ?_
    refine And.intro (ob_assign rfl (wt_none rfl) (ev_dep (j := 2) (by kernel_rfl) rfl rfl) (fun _ _ h => h)) ?_
    trivial
  case done7 =>
    refine fun w1 hb1 v0 h0 v1 h1 v2 h2 v3 h3 b hbf => ?_
    obtain rfl := h0; obtain rfl := h1; obtain rfl := h2; obtain rfl := h3
    simp only [Act.put, List.setIfInBounds_toArray, List.set_cons_zero, List.set_cons_succ] at hbf
    subst hbf
    replace B0 := B0.below hb1
    replace k0s := k0s.below hb1
    replace k0d := k0d.below hb1
    replace k0z := k0z.below hb1
    replace k0 := k0.below hb1
    replace bb := bb.trans (hb1.mono bb.size)
    have hsz1 := bb.size
    refine ops_done ?_
    go_wp2
    go_ret
    exact ⟨rfl, bb⟩
theorem SlF.drew {k : IntKind} {B : Nat} {w : World} {v : Value} {qs : List Rat} (h : SlF k B w v qs) : SlF k B w.drew v qs := h
/-- A slice of fractions is kept where a variable without ints is set that is not its row. -/
theorem SlF.off {k : IntKind} {B : Nat} {w w' : World} {v : Value} {qs : List Rat} {g : Nat} {e : TypeId} {cs : Array Value} (h : SlF k B w v qs) (hB : w.heap[g]? = some (.cells cs e (0, 0))) (hno : ∀ c ∈ cs, ∀ n, c ≠ .int k n) (hg : w.grownBy w' (some g)) (hne : v.ownBlock ≠ some g) : SlF k B w' v qs := by
  obtain ⟨ps, e1, ⟨A, c, rfl, h1, h2, h3⟩, h4⟩ := h
  have key : ∀ (g2 o2 : Nat) (x : Value), A = some ⟨g2, o2, none⟩ → ∀ j, w.cell? ⟨g2, j, none⟩ = some x → w'.cell? ⟨g2, j, none⟩ = some x := fun g2 o2 x hA j hc => by
    subst hA
    have hne2 : g2 ≠ g := fun e => hne (by subst e; rfl)
    have hb := hg.block g2 (World.block_lt_of_cell? w _ hc) (fun e => hne2 (by injection e))
    rw [← hc]
    simp only [World.cell?, hb]
  refine ⟨ps, e1, ⟨A, c, rfl, h1, h2, fun i p hp => ?_⟩, fun p hp => ⟨Go.Proofs.YtpcdkepkipadaaaGreat.flow.off (h4 p hp).1 hB hno hg, Go.Proofs.YtpcdkepkipadaaaGreat.flow.off (h4 p hp).2 hB hno hg⟩⟩
  obtain ⟨g2, o2, hA, c0, c1, c2⟩ := h3 i p hp
  exact ⟨g2, o2, hA, key g2 o2 _ hA _ c0, key g2 o2 _ hA _ c1, key g2 o2 _ hA _ c2⟩
/-- A variable that holds this fraction (of the document's own, of the program's). -/
def HoldP (w : World) (g : Nat) (q : Rat) : Prop := ∃ u t, Blk w g 47 #[.bool (ngB q.num), u, t] ∧ IsS w .i64 u (digs 10000 q.num.natAbs) ∧ IsS w .i64 t (digs 10000 q.den)
def HoldQ (w : World) (g : Nat) (q : Rat) : Prop := ∃ u t, Blk w g 36 #[.bool (ngB q.num), u, t] ∧ IsS w .u64 u (digs 4294967296 q.num.natAbs) ∧ IsS w .u64 t (digs 4294967296 q.den)
theorem HoldP.below {w w' : World} {g : Nat} {q : Rat} (h : HoldP w g q) (hb : Below w.heap.size w w') : HoldP w' g q := by
  obtain ⟨u, t, h1, h2, h3⟩ := h
  exact ⟨u, t, h1.below hb, h2.below hb, h3.below hb⟩
theorem HoldQ.below {w w' : World} {g : Nat} {q : Rat} (h : HoldQ w g q) (hb : Below w.heap.size w w') : HoldQ w' g q := by
  obtain ⟨u, t, h1, h2, h3⟩ := h
  exact ⟨u, t, h1.below hb, h2.below hb, h3.below hb⟩
/-- The sum, and the product, of these. -/
def sumq (l : List Rat) : Rat := l.foldl (· + ·) 0
theorem sumq_snoc (l : List Rat) (q : Rat) : sumq (l ++ [q]) = sumq l + q := by simp [sumq]
theorem take_snoc {l : List Rat} {k : Nat} {q : Rat} (h : l[k]? = some q) : l.take (k + 1) = l.take k ++ [q] := by rw [List.take_add_one, h]; rfl
theorem lenQ_sumq {l : List Rat} {m : Nat} (h : ∀ q ∈ l, lenQ q m) : lenQ (sumq l) ((m + 1) * l.length + 1) := by
  have key : ∀ k, k ≤ l.length → lenQ (sumq (l.take k)) ((m + 1) * k + 1) := by
    intro k
    induction k with
    | zero => intro _; rw [List.take_zero]; exact ⟨by show lenZ 0 ≤ _; rw [lenZ_zero]; omega, digs_len_le (k := 1) (by omega) (by decide +kernel)⟩
    | succ k ih =>
      intro hk
      have hq : l[k]? = some (l[k]'hk) := List.getElem?_eq_getElem hk
      rw [take_snoc hq, sumq_snoc]
      refine (lenQ_add2 (ih (by omega)) (h _ (List.getElem_mem hk))).mono ?_
      rw [Nat.mul_succ]; omega
  have := key l.length (Nat.le_refl _)
  rwa [List.take_length] at this
/-- All from 0 to 1, and their sum 1. -/
def wholeQ (l : List Rat) : Prop := (∀ q ∈ l, ¬ q < 0 ∧ ¬ 1 < q) ∧ sumq l = 1
instance (l : List Rat) : Decidable (wholeQ l) := by unfold wholeQ; infer_instance
/-- A fraction of the document's own and an error's number; nothing and one. -/
def RetPE (q : Rat) (n : Int) (w : World) (e : Ending) (w' : World) : Prop := ∃ v, e = .returned (.tuple #[v, .int .i64 n]) ∧ IsP w' v q ∧ Below w.heap.size w w'
def ppn (q : Rat) (n : Int) : Pd := ⟨fun w t => ∃ v, t = .tuple #[v, .int .i64 n] ∧ IsP w v q, fun h hb => by obtain ⟨v, e, h1⟩ := h; exact ⟨v, e, h1.below hb⟩⟩
theorem RetPE.pd {q : Rat} {n : Int} {w : World} {e : Ending} {w' : World} (h : RetPE q n w e w') : RetPd (ppn q n) w e w' := by
  obtain ⟨v, h1, h2, h3⟩ := h
  exact ⟨_, h1, ⟨v, rfl, h2⟩, h3⟩
/-- The value is a slice of these ints. -/
def IsI (w : World) (v : Value) (l : List Int) : Prop := ∃ A c, v = .slice A l.length c ∧ l.length ≤ c ∧ c ≤ maxLen ∧ (∀ z ∈ l, -9223372036854775808 ≤ z ∧ z ≤ 9223372036854775807) ∧ ∀ (i : Nat) (z : Int), l[i]? = some z → ∃ ad, A = some ad ∧ w.cell? (ad.add i) = some (.int .i64 z)
theorem IsI.below {w w' : World} {v : Value} {l : List Int} (h : IsI w v l) (hb : Below w.heap.size w w') : IsI w' v l := by
  obtain ⟨A, c, e, h1, h2, hr, h3⟩ := h
  refine ⟨A, c, e, h1, h2, hr, fun i z hz => ?_⟩
  obtain ⟨ad, e2, c0⟩ := h3 i z hz
  exact ⟨ad, e2, (hb.cell (World.block_lt_of_cell? w _ c0)).trans c0⟩
theorem IsI.shape {w : World} {v : Value} {l : List Int} (h : IsI w v l) : ∃ A c, v = .slice A l.length c ∧ l.length ≤ c ∧ c ≤ maxLen := by
  obtain ⟨A, c, e, h1, h2, _⟩ := h
  exact ⟨A, c, e, h1, h2⟩
theorem IsI.at_ {w : World} {A : Option Addr} {n c : Nat} {l : List Int} {i : Nat} {z : Int} (h : IsI w (.slice A n c) l) (hz : l[i]? = some z) : ∃ ad, A = some ad ∧ i < n ∧ w.cell? (ad.add i) = some (.int .i64 z) ∧ -9223372036854775808 ≤ z ∧ z ≤ 9223372036854775807 := by
  obtain ⟨A', c', e, h1, h2, hr, h3⟩ := h
  injection e with e1 e2 e3
  subst e1; subst e2; subst e3
  obtain ⟨ad, e4, c0⟩ := h3 i z hz
  have := hr z (List.mem_of_getElem? hz)
  exact ⟨ad, e4, (List.getElem?_eq_some_iff.1 hz).1, c0, this.1, this.2⟩
/-- Fractions of the document's own, and an error's number. -/
def RetLE (l : List Rat) (n : Int) (w : World) (e : Ending) (w' : World) : Prop := ∃ V, e = .returned (.tuple #[V, .int .i64 n]) ∧ SlF .i64 10000 w' V (if n = 0 then l else []) ∧ Below w.heap.size w w'
theorem slF_nil (k : IntKind) (B : Nat) (w : World) : SlF k B w (.slice none 0 0) [] := ⟨[], rfl, ⟨none, 0, rfl, by simp, by unfold maxLen; omega, fun i p hp => by simp at hp⟩, fun p hp => by cases hp⟩
theorem index1_any {P : Program} {t e : TypeId} (hu : P.underlying t = some (.slice e)) (hs : (P.info? e).map (·.size) = some 1) (ad : Addr) {n c k : Nat} (hk : k < n) (w : World) : (Instr.indexAt t (.slice (some ad) n c) (.int .i64 (k : Int))).run P w = .ok (.pointer (some (ad.add k))) w := by
  cases hq : P.info? e with
  | none => simp [hq] at hs
  | some inf =>
    have hsz : inf.size = 1 := by simpa [hq] using hs
    simp [Instr.indexAt, asIntOf, go_sem, run_underlying hu, sizeOf, typeInfo, hq, hsz, hk]
/-- The lesser, and the greater one. -/
def minq (a b : Rat) : Rat := if b < a then b else a
def maxq (a b : Rat) : Rat := if a < b then b else a
def lowq (a : Rat) (l : List Rat) : Rat := l.foldl minq a
def higq (a : Rat) (l : List Rat) : Rat := l.foldl maxq a
/-- The least, and the greatest one of these (0 of none). -/
def leastq : List Rat → Rat
  | [] => 0
  | q :: l => lowq q l
def greatq : List Rat → Rat
  | [] => 0
  | q :: l => higq q l
theorem minq_le (a b : Rat) : minq a b ≤ a ∧ minq a b ≤ b := by unfold minq; split <;> grind
theorem le_maxq (a b : Rat) : a ≤ maxq a b ∧ b ≤ maxq a b := by unfold maxq; split <;> grind
theorem minq_or (a b : Rat) : minq a b = a ∨ minq a b = b := by unfold minq; split <;> simp
theorem maxq_or (a b : Rat) : maxq a b = a ∨ maxq a b = b := by unfold maxq; split <;> simp
theorem lowq_le (l : List Rat) : ∀ a, lowq a l ≤ a ∧ ∀ q ∈ l, lowq a l ≤ q := by
  induction l with
  | nil => intro a; exact ⟨Rat.le_refl, fun q h => by cases h⟩
  | cons b l ih =>
    intro a
    have h := ih (minq a b)
    have h2 := minq_le a b
    have e : lowq a (b :: l) = lowq (minq a b) l := rfl
    rw [e]
    refine ⟨Rat.le_trans h.1 h2.1, fun q hq => ?_⟩
    rcases List.mem_cons.1 hq with rfl | hq
    · exact Rat.le_trans h.1 h2.2
    · exact h.2 q hq
theorem le_higq (l : List Rat) : ∀ a, a ≤ higq a l ∧ ∀ q ∈ l, q ≤ higq a l := by
  induction l with
  | nil => intro a; exact ⟨Rat.le_refl, fun q h => by cases h⟩
  | cons b l ih =>
    intro a
    have h := ih (maxq a b)
    have h2 := le_maxq a b
    have e : higq a (b :: l) = higq (maxq a b) l := rfl
    rw [e]
    refine ⟨Rat.le_trans h2.1 h.1, fun q hq => ?_⟩
    rcases List.mem_cons.1 hq with rfl | hq
    · exact Rat.le_trans h2.2 h.1
    · exact h.2 q hq
theorem lowq_mem (l : List Rat) : ∀ a, lowq a l ∈ a :: l := by
  induction l with
  | nil => intro a; simp [lowq]
  | cons b l ih =>
    intro a
    have h := ih (minq a b)
    have e : lowq a (b :: l) = lowq (minq a b) l := rfl
    rw [e]
    rcases List.mem_cons.1 h with h | h
    · rw [h]
      rcases minq_or a b with k | k <;> rw [k] <;> simp
    · simp [h]
theorem higq_mem (l : List Rat) : ∀ a, higq a l ∈ a :: l := by
  induction l with
  | nil => intro a; simp [higq]
  | cons b l ih =>
    intro a
    have h := ih (maxq a b)
    have e : higq a (b :: l) = higq (maxq a b) l := rfl
    rw [e]
    rcases List.mem_cons.1 h with h | h
    · rw [h]
      rcases maxq_or a b with k | k <;> rw [k] <;> simp
    · simp [h]
theorem leastq_mem {l : List Rat} (h : l ≠ []) : leastq l ∈ l := by
  cases l with
  | nil => exact absurd rfl h
  | cons a l => exact lowq_mem l a
theorem greatq_mem {l : List Rat} (h : l ≠ []) : greatq l ∈ l := by
  cases l with
  | nil => exact absurd rfl h
  | cons a l => exact higq_mem l a
theorem leastq_le {l : List Rat} {q : Rat} (h : q ∈ l) : leastq l ≤ q := by
  cases l with
  | nil => cases h
  | cons a l =>
    rcases List.mem_cons.1 h with rfl | h
    · exact (lowq_le l _).1
    · exact (lowq_le l a).2 q h
theorem le_greatq {l : List Rat} {q : Rat} (h : q ∈ l) : q ≤ greatq l := by
  cases l with
  | nil => cases h
  | cons a l =>
    rcases List.mem_cons.1 h with rfl | h
    · exact (le_higq l _).1
    · exact (le_higq l a).2 q h
theorem leastq_eq {l : List Rat} {x : Rat} (hx : x ∈ l) (h : ∀ q ∈ l, x ≤ q) : leastq l = x :=
  Rat.le_antisymm (leastq_le hx) (h _ (leastq_mem (List.ne_nil_of_mem hx)))
theorem greatq_eq {l : List Rat} {x : Rat} (hx : x ∈ l) (h : ∀ q ∈ l, q ≤ x) : greatq l = x :=
  Rat.le_antisymm (h _ (greatq_mem (List.ne_nil_of_mem hx))) (le_greatq hx)
theorem foldl_add (l : List Rat) : ∀ a : Rat, l.foldl (· + ·) a = a + l.foldl (· + ·) 0 := by
  induction l with
  | nil => intro a; simp [Rat.add_zero]
  | cons b l ih => intro a; rw [List.foldl_cons, List.foldl_cons, ih (a + b), ih (0 + b)]; grind
theorem sumq_cons (q : Rat) (l : List Rat) : sumq (q :: l) = q + sumq l := by
  unfold sumq
  rw [List.foldl_cons, foldl_add l (0 + q)]; grind
/-- All of these, rising. -/
def Sorts (ss qs : List Rat) : Prop := ss.Perm qs ∧ ss.Pairwise (· ≤ ·)
theorem Sorts.len {ss qs : List Rat} (h : Sorts ss qs) : ss.length = qs.length := h.1.length_eq
theorem Sorts.le {ss qs : List Rat} (h : Sorts ss qs) {i k : Nat} {x y : Rat} (hx : ss[i]? = some x) (hy : ss[k]? = some y) (hik : i < k) : x ≤ y := by
  obtain ⟨h1, rfl⟩ := List.getElem?_eq_some_iff.1 hx
  obtain ⟨h2, rfl⟩ := List.getElem?_eq_some_iff.1 hy
  exact List.pairwise_iff_getElem.1 h.2 i k h1 h2 hik
theorem Sorts.first {ss qs : List Rat} (h : Sorts ss qs) {x : Rat} (hx : ss[0]? = some x) : leastq qs = x := by
  refine leastq_eq (h.1.mem_iff.1 (List.mem_of_getElem? hx)) fun q hq => ?_
  obtain ⟨k, hk⟩ := List.mem_iff_getElem?.1 (h.1.mem_iff.2 hq)
  rcases Nat.eq_zero_or_pos k with rfl | h0
  · rw [hx] at hk; injection hk with hk; rw [hk]; exact Rat.le_refl
  · exact h.le hx hk h0
theorem Sorts.last {ss qs : List Rat} (h : Sorts ss qs) {x : Rat} {n : Nat} (hn : n + 1 = ss.length) (hx : ss[n]? = some x) : greatq qs = x := by
  refine greatq_eq (h.1.mem_iff.1 (List.mem_of_getElem? hx)) fun q hq => ?_
  obtain ⟨k, hk⟩ := List.mem_iff_getElem?.1 (h.1.mem_iff.2 hq)
  have hk2 : k < ss.length := (List.getElem?_eq_some_iff.1 hk).1
  rcases Nat.lt_or_ge k n with h0 | h0
  · exact h.le hk hx h0
  · obtain rfl : k = n := by omega
    rw [hx] at hk; injection hk with hk; rw [hk]; exact Rat.le_refl
theorem Sorts.count {ss qs : List Rat} (h : Sorts ss qs) (q : Rat) : ss.count q = qs.count q := h.1.count_eq q
/-- A slice of these. -/
def RetSl (qs : List Rat) (w : World) (e : Ending) (w' : World) : Prop := ∃ V, e = .returned V ∧ SlF .u64 4294967296 w' V qs ∧ Below w.heap.size w w'
/-- Two fractions, and an error's number. -/
def RetQ2 (x y : Rat) (n : Int) (w : World) (e : Ending) (w' : World) : Prop := ∃ v u, e = .returned (.tuple #[v, u, .int .i64 n]) ∧ IsQ w' v x ∧ IsQ w' u y ∧ Below w.heap.size w w'
def pq2 (x y : Rat) (n : Int) : Pd := ⟨fun w t => ∃ v u, t = .tuple #[v, u, .int .i64 n] ∧ IsQ w v x ∧ IsQ w u y, fun h hb => by obtain ⟨v, u, e, h1, h2⟩ := h; exact ⟨v, u, e, h1.below hb, h2.below hb⟩⟩
theorem RetQ2.pd {x y : Rat} {n : Int} {w : World} {e : Ending} {w' : World} (h : RetQ2 x y n w e w') : RetPd (pq2 x y n) w e w' := by
  obtain ⟨v, u, h1, h2, h3, h4⟩ := h
  exact ⟨_, h1, ⟨v, u, rfl, h2, h3⟩, h4⟩
theorem SlF.at2 {k : IntKind} {B : Nat} {w : World} {g o n c : Nat} {qs : List Rat} {i : Nat} {q : Rat} (h : SlF k B w (.slice (some ⟨g, o, none⟩) n c) qs) (hq : qs[i]? = some q) : ∃ u t, i < n ∧ w.cell? ⟨g, o + i * 3, none⟩ = some (.bool (ngB q.num)) ∧ w.cell? ⟨g, o + i * 3 + 1, none⟩ = some u ∧ w.cell? ⟨g, o + i * 3 + 2, none⟩ = some t ∧ IsS w k u (digs B q.num.natAbs) ∧ IsS w k t (digs B q.den) := by
  obtain ⟨g', o', u, t, hA, h1, h2, h3, h4, h5, h6⟩ := h.at_ hq
  injection hA with hA
  injection hA with e1 e2
  subst e1
  subst e2
  exact ⟨u, t, h1, h2, h3, h4, h5, h6⟩
/-- A row that holds something has a place, and lies in what there is. -/
theorem SlF.place {k : IntKind} {B : Nat} {w : World} {v : Value} {qs : List Rat} (h : SlF k B w v qs) (hne : qs ≠ []) : ∃ g o c, v = .slice (some ⟨g, o, none⟩) qs.length c ∧ g < w.heap.size ∧ qs.length ≤ c ∧ c ≤ maxLen := by
  obtain ⟨A, c, rfl, h1, h2⟩ := h.shape
  cases qs with
  | nil => exact absurd rfl hne
  | cons q qs =>
    obtain ⟨g, o, u, t, rfl, _, hc, _⟩ := h.at_ (i := 0) (q := q) rfl
    exact ⟨g, o, c, rfl, World.block_lt_of_cell? w _ hc, h1, h2⟩
/-- A row of nothing lies nowhere. -/
theorem SlF.any {k : IntKind} {B : Nat} {w w' : World} {v : Value} (h : SlF k B w v []) : SlF k B w' v [] := by
  obtain ⟨ps, hp, ⟨A, c, h1, h2, h3, _⟩, _⟩ := h
  obtain rfl : ps = [] := List.map_eq_nil_iff.1 hp
  exact ⟨[], rfl, ⟨A, c, h1, h2, h3, fun i p hp => by simp at hp⟩, fun p hp => by cases hp⟩
theorem SlF.lt {k : IntKind} {B : Nat} {w : World} {g o n c : Nat} {qs : List Rat} (h : SlF k B w (.slice (some ⟨g, o, none⟩) n c) qs) (hne : qs ≠ []) : g < w.heap.size := by
  obtain ⟨g', o', c', hv, h1, _⟩ := h.place hne
  injection hv with hA
  injection hA with hA
  injection hA with e1
  rw [e1]; exact h1
theorem SlF.take {k : IntKind} {B : Nat} {w : World} {A : Option Addr} {n c : Nat} {qs : List Rat} (h : SlF k B w (.slice A n c) qs) {m : Nat} (hm : m ≤ qs.length) : SlF k B w (.slice A m c) (qs.take m) := by
  obtain ⟨ps, rfl, ⟨A', c', hv, h1, h2, h3⟩, h4⟩ := h
  injection hv with e1 e2 e3
  subst e1; subst e2; subst e3
  rw [List.length_map] at hm
  refine ⟨ps.take m, by rw [List.map_take], ⟨A, c, by rw [List.length_take, Nat.min_eq_left hm], by rw [List.length_take]; omega, h2, fun i p hp => h3 i p ?_⟩, fun p hp => h4 p (List.mem_of_mem_take hp)⟩
  rw [List.getElem?_take] at hp
  split at hp
  · exact hp
  · cases hp
section
variable {P : Program}
end
/-- A row of two rows. -/
def Two (w : World) (v : Value) (p q : List Rat) : Prop := ∃ u0 u1, IsV w v [u0, u1] ∧ SlF .u64 4294967296 w u0 p ∧ SlF .u64 4294967296 w u1 q
theorem Two.below {w w' : World} {v : Value} {p q : List Rat} (h : Two w v p q) (hb : Below w.heap.size w w') : Two w' v p q := by
  obtain ⟨u0, u1, h1, h2, h3⟩ := h
  exact ⟨u0, u1, h1.below hb, h2.below hb, h3.below hb⟩
theorem slF_lit2 (w : World) (T : TypeId) {q r : Rat} {u t u' t' : Value} (h1 : IsS w .u64 u (digs 4294967296 q.num.natAbs)) (h2 : IsS w .u64 t (digs 4294967296 q.den)) (h3 : IsS w .u64 u' (digs 4294967296 r.num.natAbs)) (h4 : IsS w .u64 t' (digs 4294967296 r.den)) :
    SlF .u64 4294967296 (w.alloc (.cells #[.bool (ngB q.num), u, t, .bool (ngB r.num), u', t'] T)) (.slice (some ⟨w.heap.size, 0, none⟩) 2 2) [q, r] := by
  have hbb := below_alloc (w := w) (Nat.le_refl _) (.cells #[.bool (ngB q.num), u, t, .bool (ngB r.num), u', t'] T)
  have hB := Blk.new w T #[.bool (ngB q.num), u, t, .bool (ngB r.num), u', t']
  refine ⟨[(q, u, t), (r, u', t')], rfl, ⟨some ⟨w.heap.size, 0, none⟩, 2, rfl, Nat.le_refl _, by unfold maxLen; omega, fun i p hp => ?_⟩, fun p hp => ?_⟩
  · rcases i with _ | _ | i
    · obtain rfl : ((q, u, t) : Elt) = p := by simpa using hp
      exact ⟨_, _, rfl, hB.cell 0, hB.cell 1, hB.cell 2⟩
    · obtain rfl : ((r, u', t') : Elt) = p := by simpa using hp
      exact ⟨_, _, rfl, hB.cell 3, hB.cell 4, hB.cell 5⟩
    · simp at hp
  · rcases List.mem_cons.1 hp with rfl | hp
    · exact ⟨h1.below hbb, h2.below hbb⟩
    · obtain rfl := List.mem_singleton.1 hp
      exact ⟨h3.below hbb, h4.below hbb⟩
section
variable {P : Program} {Q : Exit → Act → World → Prop} {ops : Array Oper} {L : List Oper} {Φ : List Pd} {w0 : World} {a0 : Act} {i : Nat} {o : Oper}
end
end Go.Proofs.YtpcdkepkipadaaaGreat.rat
namespace Go.Proofs.YtpcdkepkipadaaaGreat.rat
open Go.RowKit Go.ChangeShapes Go.WideShapes Go.ChangeAt Go.Joins Go.Deep Go.Proofs.YtpcdkepkipadaaaGreat.num Go.Proofs.YtpcdkepkipadaaaGreat.mem Go.Proofs.YtpcdkepkipadaaaGreat.nat Go.Proofs.YtpcdkepkipadaaaGreat.txt Go.Proofs.YtpcdkepkipadaaaGreat.str Go.Proofs.YtpcdkepkipadaaaGreat.flow Go.Proofs.YtpcdkepkipadaaaGreat.whl
set_option linter.unusedVariables false
theorem ArgQs.below {w w' : World} {v : Value} (h : ArgQs w v) (hb : Below w.heap.size w w') : ArgQs w' v := by
  obtain ⟨A, n, c, e, h1, h2, h3⟩ := h
  refine ⟨A, n, c, e, h1, h2, fun i hi => ?_⟩
  obtain ⟨ad, b, u, t, l, m, e2, c0, c1, c2, k1, k2, k3, k4⟩ := h3 i hi
  exact ⟨ad, b, u, t, l, m, e2, (hb.cell (World.block_lt_of_cell? w _ c0)).trans c0, (hb.cell (World.block_lt_of_cell? w _ c1)).trans c1, (hb.cell (World.block_lt_of_cell? w _ c2)).trans c2, k1.below hb, k2, k3.below hb, k4⟩
/-- Fractions of the program's in a slice, and an error's number. -/
def RetQLE (l : List Rat) (n : Int) (w : World) (e : Ending) (w' : World) : Prop := ∃ V, e = .returned (.tuple #[V, .int .i64 n]) ∧ SlF .u64 4294967296 w' V (if n = 0 then l else []) ∧ Below w.heap.size w w'
def vi (l : List Int) : List Value := l.map (.int .i64)
theorem IsI.news {w : World} {A : Option Addr} {n c : Nat} {l : List Int} (h : IsI w (.slice A n c) l) : ∀ (i : Nat) (u : Value), (vi l)[i]? = some u → ∃ ad, A = some ad ∧ w.cell? (ad.add i) = some u := by
  intro i u hu
  rw [vi, List.getElem?_map] at hu
  cases hz : l[i]? with
  | none => rw [hz] at hu; cases hu
  | some z =>
    rw [hz] at hu
    obtain rfl := Option.some.inj hu
    obtain ⟨ad, h1, _, h2, _⟩ := h.at_ hz
    exact ⟨ad, h1, h2⟩
theorem IsI.take {w : World} {A : Option Addr} {n c : Nat} {l : List Int} (h : IsI w (.slice A n c) l) {m : Nat} (hm : m ≤ l.length) : IsI w (.slice A m c) (l.take m) := by
  obtain ⟨A', c', hv, h1, h2, h3, h4⟩ := h
  injection hv with e1 e2 e3
  subst e1; subst e2; subst e3
  refine ⟨A, c, by rw [List.length_take, Nat.min_eq_left hm], by rw [List.length_take]; omega, h2, fun z hz => h3 z (List.mem_of_mem_take hz), fun i z hz => h4 i z ?_⟩
  rw [List.getElem?_take] at hz
  split at hz
  · exact hz
  · cases hz
section
variable {P : Program}
end
end Go.Proofs.YtpcdkepkipadaaaGreat.rat
namespace Go.Proofs.YtpcdkepkipadaaaGreat.flow
open Go.RowKit Go.Proofs.YtpcdkepkipadaaaGreat.num Go.Proofs.YtpcdkepkipadaaaGreat.mem Go.Proofs.YtpcdkepkipadaaaGreat.rat
set_option linter.unusedVariables false
section
variable {P : Program} {Q : Exit → Act → World → Prop} {ops : Array Oper} {L : List Oper} {Φ : List Pd} {w0 : World} {a0 : Act} {i : Nat} {o : Oper}
end
end Go.Proofs.YtpcdkepkipadaaaGreat.flow
namespace Go.Proofs.YtpcdkepkipadaaaGreat.rat
open Go.RowKit Go.Proofs.YtpcdkepkipadaaaGreat.num Go.Proofs.YtpcdkepkipadaaaGreat.mem Go.Proofs.YtpcdkepkipadaaaGreat.nat Go.Proofs.YtpcdkepkipadaaaGreat.txt Go.Proofs.YtpcdkepkipadaaaGreat.str Go.Proofs.YtpcdkepkipadaaaGreat.flow Go.Proofs.YtpcdkepkipadaaaGreat.whl
theorem IsI.drew {w : World} {v : Value} {l : List Int} (h : IsI w v l) : IsI w.drew v l := h
theorem IsI.off {w w' : World} {v : Value} {l : List Int} {g : Nat} {e : TypeId} {cs : Array Value} (h : IsI w v l) (hB : w.heap[g]? = some (.cells cs e (0, 0))) (hno : ∀ c ∈ cs, ∀ n, c ≠ .int .i64 n) (hg : w.grownBy w' (some g)) : IsI w' v l := by
  obtain ⟨A, c, rfl, h1, h2, h3, h4⟩ := h
  refine ⟨A, c, rfl, h1, h2, h3, fun i z hz => ?_⟩
  obtain ⟨ad, rfl, hc⟩ := h4 i z hz
  refine ⟨ad, rfl, hg.cell hc fun e1 => ?_⟩
  injection e1 with e1
  have hcell : ∀ q : Addr, q.block = g → w.cell? q = some (.int .i64 z) → False := by
    intro p hp hpc
    unfold World.cell? at hpc
    rw [hp, hB] at hpc
    simp only [] at hpc
    split at hpc
    · cases hpc
    · exact hno _ (Array.mem_of_getElem? hpc) _ rfl
  exact hcell _ e1 hc
/-- A slice of these, and an error's number. -/
def psl (k : IntKind) (B : Nat) (L : List Rat) (n : Int) : Pd := ⟨fun w t => ∃ V, t = .tuple #[V, .int .i64 n] ∧ SlF k B w V L, fun h hb => by obtain ⟨V, e, h1⟩ := h; exact ⟨V, e, h1.below hb⟩⟩
theorem RetQLE.pd {l : List Rat} {n : Int} {w : World} {e : Ending} {w' : World} (h : RetQLE l n w e w') : RetPd (psl .u64 4294967296 (if n = 0 then l else []) n) w e w' := by
  obtain ⟨V, h1, h2, h3⟩ := h
  exact ⟨_, h1, ⟨V, rfl, h2⟩, h3⟩
theorem RetLE.pd {l : List Rat} {n : Int} {w : World} {e : Ending} {w' : World} (h : RetLE l n w e w') : RetPd (psl .i64 10000 (if n = 0 then l else []) n) w e w' := by
  obtain ⟨V, h1, h2, h3⟩ := h
  exact ⟨_, h1, ⟨V, rfl, h2⟩, h3⟩
set_option linter.unusedVariables false
/-- What a row of pairs is made of. -/
theorem zip_mem {f : Rat → Rat → Rat} : ∀ {p q : List Rat} {r : Rat}, r ∈ List.zipWith f p q → ∃ x ∈ p, ∃ y ∈ q, r = f x y
  | [], _, _, h => by simp at h
  | _ :: _, [], _, h => by simp at h
  | x :: p, y :: q, r, h => by
    rw [List.zipWith_cons_cons] at h
    rcases List.mem_cons.1 h with h | h
    · exact ⟨x, List.mem_cons_self, y, List.mem_cons_self, h⟩
    · obtain ⟨a, ha, b, hb, e⟩ := zip_mem h
      exact ⟨a, List.mem_cons_of_mem _ ha, b, List.mem_cons_of_mem _ hb, e⟩
theorem zip_at {f : Rat → Rat → Rat} {p q : List Rat} {k : Nat} {x y : Rat} (hx : p[k]? = some x) (hy : q[k]? = some y) : (List.zipWith f p q)[k]? = some (f x y) := by rw [List.getElem?_zipWith, hx, hy]
theorem zip_len {f : Rat → Rat → Rat} {p q : List Rat} (h : p.length = q.length) : (List.zipWith f p q).length = p.length := by rw [List.length_zipWith, h, Nat.min_self]
/-- The sum of the products; a row less another so many times; so many times a row. -/
def prods (p q : List Rat) : List Rat := List.zipWith (fun x y => x * y) p q
def dotq (p q : List Rat) : Rat := sumq (prods p q)
def scaleq (p : List Rat) (k : Rat) : List Rat := p.map (fun x => x * k)
theorem lenQ_prods {p q : List Rat} {m : Nat} (h : ∀ x ∈ p, lenQ x m) (h2 : ∀ x ∈ q, lenQ x m) : ∀ r ∈ prods p q, lenQ r (m + m) := by
  intro r hr
  obtain ⟨x, hx, y, hy, rfl⟩ := zip_mem hr
  exact lenQ_mul (h x hx) (h2 y hy)
theorem lenQ_dotq {p q : List Rat} {m : Nat} (h : ∀ x ∈ p, lenQ x m) (h2 : ∀ x ∈ q, lenQ x m) (he : p.length = q.length) : lenQ (dotq p q) ((m + m + 1) * p.length + 1) := by
  have := lenQ_sumq (lenQ_prods h h2)
  rwa [show (prods p q).length = p.length from zip_len he] at this
/-- The sum, place by place. -/
def addq (p q : List Rat) : List Rat := List.zipWith (fun x y => x + y) p q
theorem addq_len {p q : List Rat} (h : p.length = q.length) : (addq p q).length = p.length := zip_len h
theorem scaleq_len (p : List Rat) (k : Rat) : (scaleq p k).length = p.length := List.length_map _
theorem dotq_cons (x y : Rat) (p q : List Rat) : dotq (x :: p) (y :: q) = x * y + dotq p q := by
  unfold dotq prods
  rw [List.zipWith_cons_cons, sumq_cons]
theorem dotq_nil (q : List Rat) : dotq [] q = 0 := rfl
theorem dotq_add : ∀ (p q r : List Rat), p.length = q.length → p.length = r.length → dotq (addq p q) r = dotq p r + dotq q r
  | [], [], _, _, _ => by show dotq [] _ = _; rw [dotq_nil]; grind
  | _ :: _, [], _, h, _ => by simp at h
  | [], _ :: _, _, h, _ => by simp at h
  | _ :: _, _ :: _, [], _, h => by simp at h
  | x :: p, y :: q, z :: r, h1, h2 => by
    show dotq ((x + y) :: addq p q) (z :: r) = _
    rw [dotq_cons, dotq_cons, dotq_cons, dotq_add p q r (by simpa using h1) (by simpa using h2)]
    grind
theorem dotq_scale : ∀ (p r : List Rat) (k : Rat), p.length = r.length → dotq (scaleq p k) r = k * dotq p r
  | [], _, k, _ => by show dotq [] _ = _; rw [dotq_nil]; grind
  | _ :: _, [], _, h => by simp at h
  | x :: p, z :: r, k, h => by
    show dotq ((x * k) :: scaleq p k) (z :: r) = _
    rw [dotq_cons, dotq_cons, dotq_scale p r k (by simpa using h)]
    grind
/-- Noughts, and a unit. -/
def zerosq (d : Nat) : List Rat := List.replicate d 0
def unitq (d k : Nat) : List Rat := (zerosq d).set k 1
theorem zerosq_len (d : Nat) : (zerosq d).length = d := List.length_replicate
theorem unitq_len (d k : Nat) : (unitq d k).length = d := by rw [unitq, List.length_set, zerosq_len]
theorem zerosq_at {d k : Nat} (h : k < d) : (zerosq d)[k]? = some 0 := by simp [zerosq, h]
theorem unitq_at {d k : Nat} (h : k < d) : (unitq d k)[k]? = some 1 := by rw [unitq, List.getElem?_set_self (by rw [zerosq_len]; exact h)]
theorem zerosq_mem {d : Nat} {x : Rat} (h : x ∈ zerosq d) : x = 0 := (List.mem_replicate.1 h).2
theorem unitq_mem {d k : Nat} {x : Rat} (h : x ∈ unitq d k) : x = 0 ∨ x = 1 := by
  rcases List.mem_or_eq_of_mem_set h with h | h
  · exact .inl (zerosq_mem h)
  · exact .inr h
/-- How many places rows have; whether all have so many; the places of one number; a product; what is turned; the table that changes nothing. -/
def wideq : List (List Rat) → Nat
  | [] => 0
  | r :: _ => r.length
def evenq (t : List (List Rat)) : Prop := ∀ r ∈ t, r.length = wideq t
def colq (t : List (List Rat)) (j : Nat) : List Rat := t.map fun r => r.getD j 0
def rowq (r : List Rat) (b : List (List Rat)) (n : Nat) : List Rat := (List.range n).map fun j => dotq r (colq b j)
def mulq (a b : List (List Rat)) : List (List Rat) := a.map fun r => rowq r b (wideq b)
def turnq (t : List (List Rat)) : List (List Rat) := (List.range (wideq t)).map (colq t)
def identq (n : Nat) : List (List Rat) := (List.range n).map (unitq n)
theorem colq_len (t : List (List Rat)) (j : Nat) : (colq t j).length = t.length := List.length_map _
theorem rowq_len (r : List Rat) (b : List (List Rat)) (n : Nat) : (rowq r b n).length = n := by rw [rowq, List.length_map, List.length_range]
theorem mulq_len (a b : List (List Rat)) : (mulq a b).length = a.length := List.length_map _
theorem turnq_len (t : List (List Rat)) : (turnq t).length = wideq t := by rw [turnq, List.length_map, List.length_range]
theorem identq_len (n : Nat) : (identq n).length = n := by rw [identq, List.length_map, List.length_range]
theorem rowq_at {r : List Rat} {b : List (List Rat)} {n j : Nat} (h : j < n) : (rowq r b n)[j]? = some (dotq r (colq b j)) := by simp [rowq, h]
theorem mulq_at {a b : List (List Rat)} {i : Nat} {r : List Rat} (h : a[i]? = some r) : (mulq a b)[i]? = some (rowq r b (wideq b)) := by rw [mulq, List.getElem?_map, h]; rfl
theorem turnq_at {t : List (List Rat)} {j : Nat} (h : j < wideq t) : (turnq t)[j]? = some (colq t j) := by simp [turnq, h]
theorem identq_at {n i : Nat} (h : i < n) : (identq n)[i]? = some (unitq n i) := by simp [identq, h]
theorem colq_at {t : List (List Rat)} {i j : Nat} {r : List Rat} (h : t[i]? = some r) : (colq t j)[i]? = some (r.getD j 0) := by rw [colq, List.getElem?_map, h]; rfl
theorem wideq_of {t : List (List Rat)} {n : Nat} (hne : t ≠ []) (h : ∀ r ∈ t, r.length = n) : wideq t = n := by
  cases t with
  | nil => exact absurd rfl hne
  | cons r t => exact h r List.mem_cons_self
theorem evenq_of {t : List (List Rat)} {n : Nat} (h : ∀ r ∈ t, r.length = n) : evenq t := by
  intro r hr
  rw [wideq_of (List.ne_nil_of_mem hr) h]
  exact h r hr
theorem mulq_rows {a b : List (List Rat)} : ∀ r ∈ mulq a b, r.length = wideq b := by
  intro r hr
  obtain ⟨s, _, rfl⟩ := List.mem_map.1 hr
  exact rowq_len _ _ _
theorem mulq_even (a b : List (List Rat)) : evenq (mulq a b) := evenq_of mulq_rows
theorem mulq_wide {a b : List (List Rat)} (h : a ≠ []) : wideq (mulq a b) = wideq b := wideq_of (fun e => h (by cases a with | nil => rfl | cons x a => cases e)) mulq_rows
theorem turnq_rows {t : List (List Rat)} : ∀ r ∈ turnq t, r.length = t.length := by
  intro r hr
  obtain ⟨j, _, rfl⟩ := List.mem_map.1 hr
  exact colq_len _ _
theorem turnq_even (t : List (List Rat)) : evenq (turnq t) := evenq_of turnq_rows
theorem ne_of_len {α : Type} {l : List α} (h : 0 < l.length) : l ≠ [] := List.length_pos_iff.1 h
theorem turnq_wide {t : List (List Rat)} (h : 0 < wideq t) : wideq (turnq t) = t.length := wideq_of (ne_of_len (by rw [turnq_len]; exact h)) turnq_rows
theorem identq_rows {n : Nat} : ∀ r ∈ identq n, r.length = n := by
  intro r hr
  obtain ⟨j, _, rfl⟩ := List.mem_map.1 hr
  exact unitq_len _ _
theorem identq_even (n : Nat) : evenq (identq n) := evenq_of identq_rows
theorem identq_wide (n : Nat) : wideq (identq n) = n := by
  cases n with
  | zero => rfl
  | succ n => exact wideq_of (ne_of_len (by rw [identq_len]; omega)) identq_rows
theorem getD_at {r : List Rat} {j : Nat} (h : j < r.length) : r[j]? = some (r.getD j 0) := by rw [List.getD_eq_getElem?_getD, List.getElem?_eq_getElem h]; rfl
theorem getD_of {r : List Rat} {j : Nat} {x : Rat} (h : r[j]? = some x) : r.getD j 0 = x := by rw [List.getD_eq_getElem?_getD, h]; rfl
/-- A row is told by its places. -/
theorem row_ext {p q : List Rat} {n : Nat} (hp : p.length = n) (hq : q.length = n) (h : ∀ j, j < n → p.getD j 0 = q.getD j 0) : p = q := by
  refine List.ext_getElem? fun j => ?_
  by_cases hj : j < n
  · rw [getD_at (by omega), getD_at (by omega), h j hj]
  · rw [List.getElem?_eq_none (by omega), List.getElem?_eq_none (by omega)]
theorem rowq_getD {r : List Rat} {b : List (List Rat)} {n j : Nat} (h : j < n) : (rowq r b n).getD j 0 = dotq r (colq b j) := by rw [List.getD_eq_getElem?_getD, rowq_at h]; rfl
theorem colq_getD {t : List (List Rat)} {i j : Nat} {r : List Rat} (h : t[i]? = some r) : (colq t j).getD i 0 = r.getD j 0 := by rw [List.getD_eq_getElem?_getD, colq_at h]; rfl
theorem colq_cons (s : List Rat) (b : List (List Rat)) (j : Nat) : colq (s :: b) j = s.getD j 0 :: colq b j := rfl
theorem dotq_comm : ∀ (p q : List Rat), dotq p q = dotq q p
  | [], [] => rfl
  | [], _ :: _ => rfl
  | _ :: _, [] => rfl
  | x :: p, y :: q => by rw [dotq_cons, dotq_cons, dotq_comm p q, Rat.mul_comm]
theorem dotq_zeros : ∀ (n : Nat) (v : List Rat), dotq (zerosq n) v = 0
  | 0, _ => rfl
  | n + 1, [] => rfl
  | n + 1, y :: v => by
    show dotq (0 :: zerosq n) (y :: v) = 0
    rw [dotq_cons, dotq_zeros n v]
    grind
theorem rowq_nil (n : Nat) : rowq [] [] n = zerosq n := by
  refine row_ext (rowq_len _ _ _) (zerosq_len n) fun j hj => ?_
  rw [rowq_getD hj, List.getD_eq_getElem?_getD, zerosq_at hj]
  rfl
theorem rowq_cons {x : Rat} {s r : List Rat} {b : List (List Rat)} {n : Nat} (hs : s.length = n) : rowq (x :: r) (s :: b) n = addq (scaleq s x) (rowq r b n) := by
  have h1 : (scaleq s x).length = (rowq r b n).length := by rw [scaleq_len, rowq_len, hs]
  refine row_ext (rowq_len _ _ _) (by rw [addq_len h1, scaleq_len, hs]) fun j hj => ?_
  rw [rowq_getD hj, colq_cons, dotq_cons]
  have e1 : (scaleq s x)[j]? = some (s.getD j 0 * x) := by rw [scaleq, List.getElem?_map, getD_at (by omega)]; rfl
  have e2 : (addq (scaleq s x) (rowq r b n))[j]? = some (s.getD j 0 * x + dotq r (colq b j)) := zip_at e1 (rowq_at hj)
  rw [getD_of e2, Rat.mul_comm x]
/-- A sum of sums, the other way round. -/
theorem dotq_row : ∀ (r : List Rat) (b : List (List Rat)) (v : List Rat) (n : Nat), r.length = b.length → (∀ s ∈ b, s.length = n) → v.length = n → dotq (rowq r b n) v = dotq r (b.map fun s => dotq s v)
  | [], [], v, n, _, _, _ => by rw [rowq_nil, dotq_zeros]; rfl
  | [], _ :: _, _, _, h, _, _ => by simp at h
  | _ :: _, [], _, _, h, _, _ => by simp at h
  | x :: r, s :: b, v, n, h, hs, hv => by
    have h1 : s.length = n := hs s List.mem_cons_self
    rw [rowq_cons h1, dotq_add _ _ _ (by rw [scaleq_len, rowq_len, h1]) (by rw [scaleq_len, h1, hv]), dotq_scale _ _ _ (by rw [h1, hv]), dotq_row r b v n (by simpa using h) (fun t ht => hs t (List.mem_cons_of_mem _ ht)) hv, List.map_cons, dotq_cons]
theorem colq_mul {b c : List (List Rat)} {j : Nat} (h : j < wideq c) : colq (mulq b c) j = b.map fun s => dotq s (colq c j) := by
  unfold colq mulq
  rw [List.map_map]
  refine List.map_congr_left fun s _ => ?_
  exact rowq_getD h
/-- Products may be put together in any order of doing them. -/
theorem mulq_assoc {a b c : List (List Rat)} (ha : evenq a) (hb : evenq b) (hab : a = [] ∨ wideq a = b.length) (hbc : wideq b = c.length) : mulq (mulq a b) c = mulq a (mulq b c) := by
  rcases hab with rfl | hab
  · rfl
  by_cases hne : b = []
  · subst hne
    have hc : c = [] := List.length_eq_zero_iff.1 hbc.symm
    subst hc
    unfold mulq
    rw [List.map_map]
    rfl
  have hw : wideq (mulq b c) = wideq c := mulq_wide hne
  unfold mulq
  rw [List.map_map]
  refine List.map_congr_left fun r hr => ?_
  show rowq (rowq r b (wideq b)) c (wideq c) = rowq r (mulq b c) (wideq (mulq b c))
  rw [hw]
  refine row_ext (rowq_len _ _ _) (rowq_len _ _ _) fun j hj => ?_
  rw [rowq_getD hj, rowq_getD hj, colq_mul hj]
  exact dotq_row r b _ _ (by rw [ha r hr, hab]) hb (by rw [colq_len, hbc])
/-- The product with a unit is a place. -/
theorem dotq_unit : ∀ (n i : Nat) (v : List Rat), i < n → v.length = n → dotq (unitq n i) v = v.getD i 0
  | 0, _, _, h, _ => by omega
  | n + 1, _, [], _, h => by simp at h
  | n + 1, 0, y :: v, _, hv => by
    show dotq (1 :: zerosq n) (y :: v) = y
    rw [dotq_cons, dotq_zeros]
    grind
  | n + 1, i + 1, y :: v, hi, hv => by
    show dotq (0 :: unitq n i) (y :: v) = v.getD i 0
    rw [dotq_cons, dotq_unit n i v (by omega) (by simpa using hv)]
    grind
theorem unitq_getD {n i j : Nat} (hi : i < n) (hj : j < n) : (unitq n i).getD j 0 = if i = j then 1 else 0 := by
  by_cases e : i = j
  · subst e
    rw [List.getD_eq_getElem?_getD, unitq_at hi, if_pos rfl]; rfl
  · rw [List.getD_eq_getElem?_getD, unitq, List.getElem?_set_ne e, zerosq_at hj, if_neg e]; rfl
theorem colq_ident {n j : Nat} (hj : j < n) : colq (identq n) j = unitq n j := by
  refine row_ext (by rw [colq_len, identq_len]) (unitq_len n j) fun i hi => ?_
  rw [colq_getD (identq_at hi), unitq_getD hi hj, unitq_getD hj hi]
  by_cases e : i = j
  · rw [if_pos e, if_pos e.symm]
  · rw [if_neg e, if_neg fun h => e h.symm]
theorem identq_mul {a : List (List Rat)} {n : Nat} (ha : evenq a) (hn : a.length = n) : mulq (identq n) a = a := by
  refine List.ext_getElem? fun i => ?_
  by_cases hi : i < n
  · obtain ⟨r, hr⟩ : ∃ r, a[i]? = some r := ⟨_, List.getElem?_eq_getElem (by omega)⟩
    rw [mulq_at (identq_at hi), hr]
    congr 1
    refine row_ext (rowq_len _ _ _) (ha r (List.mem_of_getElem? hr)) fun j hj => ?_
    rw [rowq_getD hj, dotq_unit n i _ hi (by rw [colq_len, hn]), colq_getD hr]
  · rw [List.getElem?_eq_none (by rw [mulq_len, identq_len]; omega), List.getElem?_eq_none (by omega)]
theorem mulq_ident {a : List (List Rat)} {n : Nat} (ha : evenq a) (hn : a = [] ∨ wideq a = n) : mulq a (identq n) = a := by
  rcases hn with rfl | hn
  · rfl
  unfold mulq
  rw [identq_wide]
  conv => rhs; rw [← List.map_id a]
  refine List.map_congr_left fun r hr => ?_
  have hl : r.length = n := by rw [ha r hr, hn]
  refine row_ext (rowq_len _ _ _) hl fun j hj => ?_
  rw [rowq_getD hj, colq_ident hj, dotq_comm, dotq_unit n j r hj hl]
  rfl
theorem colq_turn {t : List (List Rat)} {i : Nat} {r : List Rat} (ht : evenq t) (h : t[i]? = some r) : colq (turnq t) i = r := by
  refine row_ext (by rw [colq_len, turnq_len]) (ht r (List.mem_of_getElem? h)) fun j hj => ?_
  rw [colq_getD (turnq_at hj), colq_getD h]
/-- What is turned twice is as it was. -/
theorem turnq_turn {t : List (List Rat)} (ht : evenq t) (hw : 0 < wideq t) : turnq (turnq t) = t := by
  refine List.ext_getElem? fun i => ?_
  by_cases hi : i < t.length
  · obtain ⟨r, hr⟩ : ∃ r, t[i]? = some r := ⟨_, List.getElem?_eq_getElem hi⟩
    rw [turnq_at (by rw [turnq_wide hw]; exact hi), hr, colq_turn ht hr]
  · rw [List.getElem?_eq_none (by rw [turnq_len, turnq_wide hw]; omega), List.getElem?_eq_none (by omega)]
/-- A product turned is the product of what is turned, the other way round. -/
theorem turnq_mul {a b : List (List Rat)} (ha : evenq a) (hne : a ≠ []) (hwa : 0 < wideq a) : turnq (mulq a b) = mulq (turnq b) (turnq a) := by
  have hw : wideq (mulq a b) = wideq b := mulq_wide hne
  refine List.ext_getElem? fun j => ?_
  by_cases hj : j < wideq b
  · rw [turnq_at (by rw [hw]; exact hj), mulq_at (turnq_at hj)]
    congr 1
    rw [turnq_wide hwa]
    refine row_ext (by rw [colq_len, mulq_len]) (rowq_len _ _ _) fun i hi => ?_
    obtain ⟨r, hr⟩ : ∃ r, a[i]? = some r := ⟨_, List.getElem?_eq_getElem hi⟩
    rw [colq_getD (mulq_at hr), rowq_getD hj, rowq_getD hi, colq_turn ha hr, dotq_comm]
  · rw [List.getElem?_eq_none (by rw [turnq_len, hw]; omega), List.getElem?_eq_none (by rw [mulq_len, turnq_len]; omega)]
/-- Limbs in new memory; a row in new memory, limbs and all. -/
def NewL (B : Nat) (ps : List Elt) : Prop := ∀ p ∈ ps, Fresh B p.2.1 ∧ Fresh B p.2.2
theorem NewL.nil (B : Nat) : NewL B [] := fun p hp => by cases hp
theorem NewL.snoc {B : Nat} {ps : List Elt} {p : Elt} (h : NewL B ps) (h1 : Fresh B p.2.1) (h2 : Fresh B p.2.2) : NewL B (ps ++ [p]) := fun a ha => by
  rcases List.mem_append.1 ha with ha | ha
  · exact h a ha
  · rw [List.mem_singleton.1 ha]; exact ⟨h1, h2⟩
def IsN (k : IntKind) (B : Nat) (w : World) (B0 : Nat) (v : Value) (r : List Rat) : Prop := ∃ ps : List Elt, ps.map (·.1) = r ∧ IsVF w v ps ∧ (∀ p ∈ ps, IsE k B w p ∧ Fresh B0 p.2.1 ∧ Fresh B0 p.2.2) ∧ ∀ g, v.ownBlock = some g → B0 ≤ g ∧ g < w.heap.size
theorem IsN.sl {k : IntKind} {B : Nat} {w : World} {B0 : Nat} {v : Value} {r : List Rat} (h : IsN k B w B0 v r) : SlF k B w v r := by
  obtain ⟨ps, h1, h2, h3, _⟩ := h
  exact ⟨ps, h1, h2, fun p hp => (h3 p hp).1⟩
theorem IsN.below {k : IntKind} {B : Nat} {w w' : World} {B0 : Nat} {v : Value} {r : List Rat} (h : IsN k B w B0 v r) (hb : Below w.heap.size w w') : IsN k B w' B0 v r := by
  obtain ⟨ps, h1, h2, h3, h4⟩ := h
  exact ⟨ps, h1, h2.below hb, fun p hp => ⟨(h3 p hp).1.below hb, (h3 p hp).2⟩, fun g hg => ⟨(h4 g hg).1, Nat.lt_of_lt_of_le (h4 g hg).2 hb.size⟩⟩
theorem IsN.mono {k : IntKind} {B : Nat} {w : World} {B0 B1 : Nat} {v : Value} {r : List Rat} (h : IsN k B w B0 v r) (hb : B1 ≤ B0) : IsN k B w B1 v r := by
  obtain ⟨ps, h1, h2, h3, h4⟩ := h
  exact ⟨ps, h1, h2, fun p hp => ⟨(h3 p hp).1, (h3 p hp).2.1.mono hb, (h3 p hp).2.2.mono hb⟩, fun g hg => ⟨Nat.le_trans hb (h4 g hg).1, (h4 g hg).2⟩⟩
/-- A slice of slices of fractions. -/
def SlT (k : IntKind) (B : Nat) (w : World) (v : Value) (t : List (List Rat)) : Prop := ∃ us : List Value, us.length = t.length ∧ (∃ A c, v = .slice A us.length c ∧ us.length ≤ c ∧ c ≤ maxLen ∧ ∀ (i : Nat) (u : Value), us[i]? = some u → ∃ ad, A = some ad ∧ w.cell? (ad.add i) = some u) ∧ ∀ (i : Nat) (u : Value) (r : List Rat), us[i]? = some u → t[i]? = some r → SlF k B w u r
theorem SlT.below {k : IntKind} {B : Nat} {w w' : World} {v : Value} {t : List (List Rat)} (h : SlT k B w v t) (hb : Below w.heap.size w w') : SlT k B w' v t := by
  obtain ⟨us, h1, ⟨A, c, e, h2, h3, h4⟩, h5⟩ := h
  refine ⟨us, h1, ⟨A, c, e, h2, h3, fun i u hu => ?_⟩, fun i u r hu hr => (h5 i u r hu hr).below hb⟩
  obtain ⟨ad, ha, hc⟩ := h4 i u hu
  exact ⟨ad, ha, (hb.cell (World.block_lt_of_cell? w _ hc)).trans hc⟩
theorem SlT.shape {k : IntKind} {B : Nat} {w : World} {v : Value} {t : List (List Rat)} (h : SlT k B w v t) : ∃ A c, v = .slice A t.length c ∧ t.length ≤ c ∧ c ≤ maxLen := by
  obtain ⟨us, h1, ⟨A, c, e, h2, h3, _⟩, _⟩ := h
  exact ⟨A, c, by rw [e, h1], by omega, h3⟩
theorem SlT.at_ {k : IntKind} {B : Nat} {w : World} {A : Option Addr} {n c i : Nat} {t : List (List Rat)} {r : List Rat} (h : SlT k B w (.slice A n c) t) (hr : t[i]? = some r) : ∃ ad Ar cr, A = some ad ∧ i < n ∧ w.cell? (ad.add i) = some (.slice Ar r.length cr) ∧ SlF k B w (.slice Ar r.length cr) r := by
  obtain ⟨us, h1, ⟨A', c', e, h2, h3, h4⟩, h5⟩ := h
  injection e with e1 e2 e3
  subst e1; subst e2; subst e3
  have hi : i < us.length := by have := (List.getElem?_eq_some_iff.1 hr).1; omega
  obtain ⟨ad, ha, hc⟩ := h4 i _ (List.getElem?_eq_getElem hi)
  have hs := h5 i _ r (List.getElem?_eq_getElem hi) hr
  obtain ⟨Ar, cr, e, _, _⟩ := hs.shape
  rw [e] at hc hs
  exact ⟨ad, Ar, cr, ha, hi, hc, hs⟩
theorem slT_nil (k : IntKind) (B : Nat) (w : World) : SlT k B w (.slice none 0 0) [] := ⟨[], rfl, ⟨none, 0, rfl, by simp, by unfold maxLen; omega, fun i u hu => by simp at hu⟩, fun i u r hu => by simp at hu⟩
/-- A slice of these rows; and an error's number. -/
def RetSlT (k : IntKind) (B : Nat) (t : List (List Rat)) (w : World) (e : Ending) (w' : World) : Prop := ∃ V, e = .returned V ∧ SlT k B w' V t ∧ Below w.heap.size w w'
def RetTE (t : List (List Rat)) (n : Int) (w : World) (e : Ending) (w' : World) : Prop := ∃ V, e = .returned (.tuple #[V, .int .i64 n]) ∧ SlT .u64 4294967296 w' V (if n = 0 then t else []) ∧ Below w.heap.size w w'
def pst (k : IntKind) (B : Nat) (t : List (List Rat)) : Pd := ⟨fun w v => SlT k B w v t, fun h hb => h.below hb⟩
def pste (t : List (List Rat)) (n : Int) : Pd := ⟨fun w v => ∃ V, v = .tuple #[V, .int .i64 n] ∧ SlT .u64 4294967296 w V t, fun h hb => by obtain ⟨V, e, h1⟩ := h; exact ⟨V, e, h1.below hb⟩⟩
theorem RetTE.pd {t : List (List Rat)} {n : Int} {w : World} {e : Ending} {w' : World} (h : RetTE t n w e w') : RetPd (pste (if n = 0 then t else []) n) w e w' := by
  obtain ⟨V, h1, h2, h3⟩ := h
  exact ⟨_, h1, ⟨V, rfl, h2⟩, h3⟩
theorem RetSlT.pd {k : IntKind} {B : Nat} {t : List (List Rat)} {w : World} {e : Ending} {w' : World} (h : RetSlT k B t w e w') : RetPd (pst k B t) w e w' := by
  obtain ⟨V, h1, h2, h3⟩ := h
  exact ⟨V, h1, h2, h3⟩
/-! Tables that a call makes by append. -/
/-- A row of fractions that lies elsewhere, limbs and all. -/
def FarS (k : IntKind) (B : Nat) (w : World) (v u : Value) (r : List Rat) : Prop := ∃ ps : List Elt, ps.map (·.1) = r ∧ IsVF w u ps ∧ FarF k B w v ps ∧ ∀ g, u.ownBlock = some g → g < w.heap.size ∧ v.ownBlock ≠ some g
theorem FarS.sl {k : IntKind} {B : Nat} {w : World} {v u : Value} {r : List Rat} (h : FarS k B w v u r) : SlF k B w u r := by
  obtain ⟨ps, h1, h2, h3, _⟩ := h
  exact ⟨ps, h1, h2, fun p hp => (h3 p hp).1⟩
theorem FarS.below {k : IntKind} {B : Nat} {w w' : World} {v u : Value} {r : List Rat} (h : FarS k B w v u r) (hb : Below w.heap.size w w') : FarS k B w' v u r := by
  obtain ⟨ps, h1, h2, h3, h4⟩ := h
  exact ⟨ps, h1, h2.below hb, h3.below hb, fun g hg => ⟨Nat.lt_of_lt_of_le (h4 g hg).1 hb.size, (h4 g hg).2⟩⟩
theorem FarS.keep {k : IntKind} {B : Nat} {w w' : World} {v v' u : Value} {r : List Rat} (h : FarS k B w v u r) (hk : Grew w w' v v') : FarS k B w' v' u r := by
  obtain ⟨ps, h1, ⟨A, c, e, h2, h2', h2''⟩, h3, h4⟩ := h
  obtain ⟨k1, k2, k3⟩ := hk
  refine ⟨ps, h1, ⟨A, c, e, h2, h2', fun i p hp => ?_⟩, h3.keep k1, fun g hg => ⟨Nat.lt_of_lt_of_le (h4 g hg).1 k2.size, k3 g (h4 g hg).1 (h4 g hg).2⟩⟩
  obtain ⟨g, o, rfl, c0, c1, c2⟩ := h2'' i p hp
  have hne : some g ≠ v.ownBlock := fun e' => (h4 g (by rw [e]; rfl)).2 e'.symm
  exact ⟨g, o, rfl, k2.cell c0 hne, k2.cell c1 hne, k2.cell c2 hne⟩
theorem IsN.far {k : IntKind} {B : Nat} {w : World} {B0 : Nat} {v u : Value} {r : List Rat} (h : IsN k B w B0 u r) (hv : ∀ g, v.ownBlock = some g → g < B0) : FarS k B w v u r := by
  obtain ⟨ps, h1, h2, h3, h4⟩ := h
  exact ⟨ps, h1, h2, fun p hp => ⟨(h3 p hp).1, (h3 p hp).2.1.far hv, (h3 p hp).2.2.far hv⟩, fun g hg => ⟨(h4 g hg).2, fun e => by have h5 := hv _ e; have h6 := (h4 g hg).1; omega⟩⟩
def TabF (k : IntKind) (B : Nat) (w : World) (v : Value) (us : List Value) (t : List (List Rat)) : Prop := us.length = t.length ∧ ∀ (i : Nat) (u : Value) (r : List Rat), us[i]? = some u → t[i]? = some r → FarS k B w v u r
theorem TabF.nil (k : IntKind) (B : Nat) (w : World) (v : Value) : TabF k B w v [] [] := ⟨rfl, fun i u r hu => by simp at hu⟩
theorem TabF.below {k : IntKind} {B : Nat} {w w' : World} {v : Value} {us : List Value} {t : List (List Rat)} (h : TabF k B w v us t) (hb : Below w.heap.size w w') : TabF k B w' v us t := ⟨h.1, fun i u r hu hr => (h.2 i u r hu hr).below hb⟩
theorem TabF.keep {k : IntKind} {B : Nat} {w w' : World} {v v' : Value} {us : List Value} {t : List (List Rat)} (h : TabF k B w v us t) (hk : Grew w w' v v') : TabF k B w' v' us t := ⟨h.1, fun i u r hu hr => (h.2 i u r hu hr).keep hk⟩
theorem TabF.snoc {k : IntKind} {B : Nat} {w w' : World} {v v' u : Value} {us : List Value} {t : List (List Rat)} {r : List Rat} (h : TabF k B w v us t) (hk : Grew w w' v v') (hu : FarS k B w v u r) : TabF k B w' v' (us ++ [u]) (t ++ [r]) := by
  have h0 := h.1
  have hk2 := h.keep hk
  refine ⟨by simp [h0], fun i a b ha hb => ?_⟩
  by_cases hi : i < us.length
  · rw [List.getElem?_append_left hi] at ha
    rw [List.getElem?_append_left (by omega)] at hb
    exact hk2.2 i a b ha hb
  · rw [List.getElem?_append_right (by omega)] at ha
    rw [List.getElem?_append_right (by omega), ← h0] at hb
    rcases hj : i - us.length with _ | j
    · rw [hj] at ha hb
      obtain rfl : u = a := by simpa using ha
      obtain rfl : r = b := by simpa using hb
      exact hu.keep hk
    · rw [hj] at ha
      simp at ha
end Go.Proofs.YtpcdkepkipadaaaGreat.rat
namespace Go.Proofs.YtpcdkepkipadaaaGreat.flow
open Go.RowKit Go.Proofs.YtpcdkepkipadaaaGreat.num Go.Proofs.YtpcdkepkipadaaaGreat.mem Go.Proofs.YtpcdkepkipadaaaGreat.whl Go.Proofs.YtpcdkepkipadaaaGreat.rat
set_option linter.unusedVariables false
section
variable {P : Program} {Q : Exit → Act → World → Prop} {ops : Array Oper} {L : List Oper} {Φ : List Pd} {w0 : World} {a0 : Act} {i : Nat} {o : Oper}
end
end Go.Proofs.YtpcdkepkipadaaaGreat.flow
namespace Go.Proofs.YtpcdkepkipadaaaGreat.rat
open Go.RowKit Go.Proofs.YtpcdkepkipadaaaGreat.num Go.Proofs.YtpcdkepkipadaaaGreat.mem Go.Proofs.YtpcdkepkipadaaaGreat.nat Go.Proofs.YtpcdkepkipadaaaGreat.txt Go.Proofs.YtpcdkepkipadaaaGreat.str Go.Proofs.YtpcdkepkipadaaaGreat.flow Go.Proofs.YtpcdkepkipadaaaGreat.whl
set_option linter.unusedVariables false
set_option maxHeartbeats 3200000 in
set_option maxRecDepth 100000 in
theorem mul8_any (a0 : Value) (x : Rat) (a1 : Value) (y : Rat) (w : World) (h0 : IsQ w a0 x) (h1 : IsQ w a1 y) (hl : lenQ x 10000) (hl2 : lenQ y 10000) :
    Calls Tryz.prog 119 #[a0, a1] w (RetQ (x * y) w) := by
  obtain ⟨u0, t0, rfl, s0, r0⟩ := h0
  obtain ⟨A0, c0, rfl, _⟩ := id s0
  obtain ⟨D0, e0, rfl, _⟩ := id r0
  obtain ⟨u1, t1, rfl, s1, r1⟩ := h1
  obtain ⟨A1, c1, rfl, _⟩ := id s1
  obtain ⟨D1, e1, rfl, _⟩ := id r1
  obtain ⟨U, hU⟩ : ∃ U, U = (mkRat x.num y.den).num := ⟨_, rfl⟩
  obtain ⟨L, hL⟩ : ∃ L, L = (mkRat x.num y.den).den := ⟨_, rfl⟩
  obtain ⟨V, hV⟩ : ∃ V, V = (mkRat y.num x.den).num := ⟨_, rfl⟩
  obtain ⟨M, hM⟩ : ∃ M, M = (mkRat y.num x.den).den := ⟨_, rfl⟩
  obtain ⟨Q, hQ⟩ : ∃ Q, Q = x * y := ⟨_, rfl⟩
  have HQ0 : Hid (x * y = Q) := hQ.symm
  have HP := mul_parts x y
  rw [← hU, ← hL, ← hV, ← hM, ← hQ] at HP
  have HQN : Hid (U * V = (Q).num) := HP.1.symm
  have HQD : Hid (M * L = (Q).den) := HP.2.symm
  have lx1 := hl.1
  have lx2 := hl.2
  have ly1 := hl2.1
  have ly2 := hl2.2
  have HX : Hid (x.den ≠ 0) := x.den_nz
  have HY : Hid (y.den ≠ 0) := y.den_nz
  have lU : lenQ (mkRat x.num y.den) 10000 := lenQ_mk HY.out lx1 ly2
  have lV : lenQ (mkRat y.num x.den) 10000 := lenQ_mk HX.out ly1 lx2
  unfold lenQ at lU lV
  rw [← hU, ← hL] at lU
  rw [← hV, ← hM] at lV
  have HU := Lib.hid hU
  have HL := Lib.hid hL
  have HV := Lib.hid hV
  have HM := Lib.hid hM
  clear hU hL hV hM hQ HP
  go_enter Tryz.func119, Tryz.ntmps119
  go_upto_region 1 with (fail)
  obtain ⟨wx, hwx, bb, B0, B1, BR0, hsz⟩ := vars3 w 36 36 36 #[.bool (ngB (x).num), .slice A0 (digs 4294967296 (x).num.natAbs).length c0, .slice D0 (digs 4294967296 (x).den).length e0] #[.bool (ngB (y).num), .slice A1 (digs 4294967296 (y).num.natAbs).length c1, .slice D1 (digs 4294967296 (y).den).length e1] #[.bool false, .slice none 0 0, .slice none 0 0]
  rw [hwx]
  clear hwx
  have k0s := s0.below bb
  have k0d := r0.below bb
  have k0z : IsZ wx (.agg #[.bool (ngB (x).num), .slice A0 (digs 4294967296 (x).num.natAbs).length c0]) (x).num := ⟨_, rfl, k0s⟩
  have k0 : IsQ wx (.agg #[.bool (ngB (x).num), .slice A0 (digs 4294967296 (x).num.natAbs).length c0, .slice D0 (digs 4294967296 (x).den).length e0]) (x) := ⟨_, _, rfl, k0s, k0d⟩
  have k1s := s1.below bb
  have k1d := r1.below bb
  have k1z : IsZ wx (.agg #[.bool (ngB (y).num), .slice A1 (digs 4294967296 (y).num.natAbs).length c1]) (y).num := ⟨_, rfl, k1s⟩
  have k1 : IsQ wx (.agg #[.bool (ngB (y).num), .slice A1 (digs 4294967296 (y).num.natAbs).length c1, .slice D1 (digs 4294967296 (y).den).length e1]) (y) := ⟨_, _, rfl, k1s, k1d⟩
  have hsz0 := bb.size
  have sB := bb.size
  have lt0_2 := Blk.lt B0
  have lt0_3 := Blk.lt B1
  have lt0_4 := Blk.lt BR0
  refine flowp 9 [Pd.eq (.pointer (some ⟨w.heap.size, 0, none⟩)), Pd.eq (.agg #[.bool (ngB (x).num), .slice A0 (digs 4294967296 (x).num.natAbs).length c0]), Pd.eq (.pointer (some ⟨w.heap.size + 1, 2, none⟩)), Pd.eq (.slice D1 (digs 4294967296 (y).den).length e1), pzs (U) (L) wx.heap.size, pzs (U) (L) wx.heap.size, pz (U) wx.heap.size, ps .u64 (digs 4294967296 L) wx.heap.size, pn 34 #[.bool false, .slice none 0 0] wx.heap.size] (by kernel_rfl) ?ob28 ?done28
  case ob28 =>
    refine And.intro (ob_fieldAddr rfl (wt_none rfl) (ev_far rfl rfl) (fun _ => by kernel_rfl) (fun _ => rfl)) ?_
    refine And.intro (ob_load rfl (wt_none rfl) (ev_dep (j := 0) (by kernel_rfl) rfl rfl) (fun w2 hb => run_loadPart Tryz.underlying34 rfl (by kernel_rfl) (B0.below hb) rfl) (fun _ _ => rfl)) ?_
    refine And.intro (ob_fieldAddr rfl (wt_none rfl) (ev_far rfl rfl) (fun _ => by kernel_rfl) (fun _ => rfl)) ?_
    refine And.intro (ob_load rfl (wt_none rfl) (ev_dep (j := 2) (by kernel_rfl) rfl rfl) (fun w2 hb => run_load1 Tryz.underlying32 rfl ((B1.below hb).cell 2)) (fun _ _ => rfl)) ?_
    refine And.intro (ob_call2 rfl Tryz.func85 (by kernel_rfl) (wt_none rfl) (ev_dep (j := 1) (by kernel_rfl) rfl rfl) (ev_dep (j := 3) (by kernel_rfl) rfl rfl) (fun w2 u0 u1 hb h0 h1 => by obtain rfl := h0; obtain rfl := h1; exact (reduced_any _ x.num _ y.den U L _ (k0z.below hb) (k1d.below hb) HY.out (Nat.le_trans lx1 (by decide)) (Nat.le_trans ly2 (by decide)) HU.out HL.out).mono fun e w3 h => RetZS.pd h hb.size)) ?_
    refine And.intro (ob_move rfl (wt_none rfl) (ev_dep (j := 4) (by kernel_rfl) rfl rfl) (fun _ _ h => h)) ?_
    refine And.intro (ob_extract rfl (wt_none rfl) (ev_dep (j := 5) (by kernel_rfl) rfl rfl) (fun w2 u hu => by obtain ⟨v, u, rfl, q1, q2, q3, q4⟩ := hu; exact ⟨v, rfl, q1, q3⟩)) ?_
    refine And.intro (ob_extract rfl (wt_none rfl) (ev_dep (j := 5) (by kernel_rfl) rfl rfl) (fun w2 u hu => by obtain ⟨v, u, rfl, q1, q2, q3, q4⟩ := hu; exact ⟨u, rfl, q2, q4⟩)) ?_
    refine And.intro (ob_alloc (z := .agg #[.bool false, .slice none 0 0]) rfl rfl (fun _ => by kernel_rfl) (fun _ _ hB h => ⟨_, rfl, hB, h⟩)) ?_
    trivial
  case done28 =>
    refine fun w1 hb1 v0 h0 v1 h1 v2 h2 v3 h3 v4 h4 v5 h5 v6 h6 v7 h7 v8 h8 d8 b hbf => ?_
    obtain rfl := h0; obtain rfl := h1; obtain rfl := h2; obtain rfl := h3
    clear h4
    clear h5
    obtain ⟨q6, f6⟩ := h6
    obtain ⟨q7, f7⟩ := h7
    obtain ⟨g28_8, rfl, hg8, B8⟩ := h8
    simp only [Act.put, List.setIfInBounds_toArray, List.set_cons_zero, List.set_cons_succ] at hbf
    subst hbf
    replace B0 := B0.below hb1
    replace k0s := k0s.below hb1
    replace k0d := k0d.below hb1
    replace k0z := k0z.below hb1
    replace k0 := k0.below hb1
    replace B1 := B1.below hb1
    replace k1s := k1s.below hb1
    replace k1d := k1d.below hb1
    replace k1z := k1z.below hb1
    replace k1 := k1.below hb1
    replace BR0 := BR0.below hb1
    replace bb := bb.trans (hb1.mono bb.size)
    have hsz1 := bb.size
    have s_6 := sB
    have s_7 := sB
    obtain ⟨A16, c16, rfl, _⟩ := id q7
    have n16 := q7
    have n16f := f7
    have n16z_ := s_7
    have BA5 := B8
    obtain ⟨u6, rfl, q6⟩ := q6
    obtain ⟨A5, c5, rfl, _⟩ := id q6
    refine ops_store (i := 9) rfl rfl rfl rfl rfl rfl (cells := [.bool (ngB U), .slice A5 (digs 4294967296 (U).natAbs).length c5]) rfl BA5 rfl (by kernel_rfl) (one2 rfl rfl) fun w2 hg2 BN2 => ?_
    replace q6 := off q6 BA5 no_ints2 hg2
    replace n16 := off n16 BA5 no_ints2 hg2
    replace k0s := off k0s BA5 no_ints2 hg2
    replace k0d := off k0d BA5 no_ints2 hg2
    replace k0z : IsZ w2 (.agg #[.bool (ngB (x).num), .slice A0 (digs 4294967296 (x).num.natAbs).length c0]) ((x).num) := ⟨_, rfl, k0s⟩
    replace k0 : IsQ w2 (.agg #[.bool (ngB (x).num), .slice A0 (digs 4294967296 (x).num.natAbs).length c0, .slice D0 (digs 4294967296 (x).den).length e0]) (x) := ⟨_, _, rfl, k0s, k0d⟩
    replace B0 := B0.grown hg2 (by omega)
    replace k1s := off k1s BA5 no_ints2 hg2
    replace k1d := off k1d BA5 no_ints2 hg2
    replace k1z : IsZ w2 (.agg #[.bool (ngB (y).num), .slice A1 (digs 4294967296 (y).num.natAbs).length c1]) ((y).num) := ⟨_, rfl, k1s⟩
    replace k1 : IsQ w2 (.agg #[.bool (ngB (y).num), .slice A1 (digs 4294967296 (y).num.natAbs).length c1, .slice D1 (digs 4294967296 (y).den).length e1]) (y) := ⟨_, _, rfl, k1s, k1d⟩
    replace B1 := B1.grown hg2 (by omega)
    replace BR0 := BR0.grown hg2 (by omega)
    replace bb := bb.trans ((Below.refl _ _).grown hg2 bb.size (fun g hg => by injection hg with hg; omega))
    have hsz2 := bb.size
    have B5 : Blk w2 (g28_8) _ _ := BN2
    have k5s := q6
    have k5 : IsZ w2 (.agg #[.bool (ngB U), .slice A5 (digs 4294967296 (U).natAbs).length c5]) (U) := ⟨_, rfl, k5s⟩
    refine ops_assign (i := 10) (.slice A16 (digs 4294967296 L).length c16) rfl rfl rfl rfl rfl fun b hbf => ?_
    simp only [Act.put, List.setIfInBounds_toArray, List.set_cons_zero, List.set_cons_succ] at hbf
    subst hbf
    refine ops_done ?_
    have f5_ := (f6 _ _ rfl).mono s_6
    have sB := bb.size
    go_upto_region 2 with (fail)
    have lt2_2 := Blk.lt B0
    have lt2_3 := Blk.lt B1
    have lt2_4 := Blk.lt BR0
    have lt2_5 := Blk.lt B5
    refine flowp 9 [Pd.eq (.pointer (some ⟨w.heap.size + 1, 0, none⟩)), Pd.eq (.agg #[.bool (ngB (y).num), .slice A1 (digs 4294967296 (y).num.natAbs).length c1]), Pd.eq (.pointer (some ⟨w.heap.size, 2, none⟩)), Pd.eq (.slice D0 (digs 4294967296 (x).den).length e0), pzs (V) (M) w2.heap.size, pzs (V) (M) w2.heap.size, pz (V) w2.heap.size, ps .u64 (digs 4294967296 M) w2.heap.size, pn 34 #[.bool false, .slice none 0 0] w2.heap.size] (by kernel_rfl) ?ob29 ?done29
    case ob29 =>
      refine And.intro (ob_fieldAddr rfl (wt_none rfl) (ev_far rfl rfl) (fun _ => by kernel_rfl) (fun _ => rfl)) ?_
      refine And.intro (ob_load rfl (wt_none rfl) (ev_dep (j := 0) (by kernel_rfl) rfl rfl) (fun w2 hb => run_loadPart Tryz.underlying34 rfl (by kernel_rfl) (B1.below hb) rfl) (fun _ _ => rfl)) ?_
      refine And.intro (ob_fieldAddr rfl (wt_none rfl) (ev_far rfl rfl) (fun _ => by kernel_rfl) (fun _ => rfl)) ?_
      refine And.intro (ob_load rfl (wt_none rfl) (ev_dep (j := 2) (by kernel_rfl) rfl rfl) (fun w2 hb => run_load1 Tryz.underlying32 rfl ((B0.below hb).cell 2)) (fun _ _ => rfl)) ?_
      refine And.intro (ob_call2 rfl Tryz.func85 (by kernel_rfl) (wt_none rfl) (ev_dep (j := 1) (by kernel_rfl) rfl rfl) (ev_dep (j := 3) (by kernel_rfl) rfl rfl) (fun w2 u0 u1 hb h0 h1 => by obtain rfl := h0; obtain rfl := h1; exact (reduced_any _ y.num _ x.den V M _ (k1z.below hb) (k0d.below hb) HX.out (Nat.le_trans ly1 (by decide)) (Nat.le_trans lx2 (by decide)) HV.out HM.out).mono fun e w3 h => RetZS.pd h hb.size)) ?_
      refine And.intro (ob_move rfl (wt_none rfl) (ev_dep (j := 4) (by kernel_rfl) rfl rfl) (fun _ _ h => h)) ?_
      refine And.intro (ob_extract rfl (wt_none rfl) (ev_dep (j := 5) (by kernel_rfl) rfl rfl) (fun w2 u hu => by obtain ⟨v, u, rfl, q1, q2, q3, q4⟩ := hu; exact ⟨v, rfl, q1, q3⟩)) ?_
      refine And.intro (ob_extract rfl (wt_none rfl) (ev_dep (j := 5) (by kernel_rfl) rfl rfl) (fun w2 u hu => by obtain ⟨v, u, rfl, q1, q2, q3, q4⟩ := hu; exact ⟨u, rfl, q2, q4⟩)) ?_
      refine And.intro (ob_alloc (z := .agg #[.bool false, .slice none 0 0]) rfl rfl (fun _ => by kernel_rfl) (fun _ _ hB h => ⟨_, rfl, hB, h⟩)) ?_
      trivial
    case done29 =>
      refine fun w3 hb3 v0 h0 v1 h1 v2 h2 v3 h3 v4 h4 v5 h5 v6 h6 v7 h7 v8 h8 d8 b hbf => ?_
      obtain rfl := h0; obtain rfl := h1; obtain rfl := h2; obtain rfl := h3
      clear h4
      clear h5
      obtain ⟨q6, f6⟩ := h6
      obtain ⟨q7, f7⟩ := h7
      obtain ⟨g29_8, rfl, hg8, B8⟩ := h8
      simp only [Act.put, List.setIfInBounds_toArray, List.set_cons_zero, List.set_cons_succ] at hbf
      subst hbf
      replace B0 := B0.below hb3
      replace k0s := k0s.below hb3
      replace k0d := k0d.below hb3
      replace k0z := k0z.below hb3
      replace k0 := k0.below hb3
      replace B1 := B1.below hb3
      replace k1s := k1s.below hb3
      replace k1d := k1d.below hb3
      replace k1z := k1z.below hb3
      replace k1 := k1.below hb3
      replace BR0 := BR0.below hb3
      replace B5 := B5.below hb3
      replace k5s := k5s.below hb3
      replace k5 := k5.below hb3
      replace n16 := n16.below hb3
      replace bb := bb.trans (hb3.mono bb.size)
      have hsz3 := bb.size
      have s_6 := sB
      have s_7 := sB
      obtain ⟨A24, c24, rfl, _⟩ := id q7
      have n24 := q7
      have n24f := f7
      have n24z_ := s_7
      have BA7 := B8
      obtain ⟨u6, rfl, q6⟩ := q6
      obtain ⟨A7, c7, rfl, _⟩ := id q6
      refine ops_store (i := 9) rfl rfl rfl rfl rfl rfl (cells := [.bool (ngB V), .slice A7 (digs 4294967296 (V).natAbs).length c7]) rfl BA7 rfl (by kernel_rfl) (one2 rfl rfl) fun w4 hg4 BN4 => ?_
      replace q6 := off q6 BA7 no_ints2 hg4
      replace n16 := off n16 BA7 no_ints2 hg4
      replace n24 := off n24 BA7 no_ints2 hg4
      replace k0s := off k0s BA7 no_ints2 hg4
      replace k0d := off k0d BA7 no_ints2 hg4
      replace k0z : IsZ w4 (.agg #[.bool (ngB (x).num), .slice A0 (digs 4294967296 (x).num.natAbs).length c0]) ((x).num) := ⟨_, rfl, k0s⟩
      replace k0 : IsQ w4 (.agg #[.bool (ngB (x).num), .slice A0 (digs 4294967296 (x).num.natAbs).length c0, .slice D0 (digs 4294967296 (x).den).length e0]) (x) := ⟨_, _, rfl, k0s, k0d⟩
      replace B0 := B0.grown hg4 (by omega)
      replace k1s := off k1s BA7 no_ints2 hg4
      replace k1d := off k1d BA7 no_ints2 hg4
      replace k1z : IsZ w4 (.agg #[.bool (ngB (y).num), .slice A1 (digs 4294967296 (y).num.natAbs).length c1]) ((y).num) := ⟨_, rfl, k1s⟩
      replace k1 : IsQ w4 (.agg #[.bool (ngB (y).num), .slice A1 (digs 4294967296 (y).num.natAbs).length c1, .slice D1 (digs 4294967296 (y).den).length e1]) (y) := ⟨_, _, rfl, k1s, k1d⟩
      replace B1 := B1.grown hg4 (by omega)
      replace BR0 := BR0.grown hg4 (by omega)
      replace k5s := off k5s BA7 no_ints2 hg4
      replace k5 : IsZ w4 (.agg #[.bool (ngB U), .slice A5 (digs 4294967296 (U).natAbs).length c5]) (U) := ⟨_, rfl, k5s⟩
      replace B5 := B5.grown hg4 (by omega)
      replace bb := bb.trans ((Below.refl _ _).grown hg4 bb.size (fun g hg => by injection hg with hg; omega))
      have hsz4 := bb.size
      have B7 : Blk w4 (g29_8) _ _ := BN4
      have k7s := q6
      have k7 : IsZ w4 (.agg #[.bool (ngB V), .slice A7 (digs 4294967296 (V).natAbs).length c7]) (V) := ⟨_, rfl, k7s⟩
      refine ops_assign (i := 10) (.slice A24 (digs 4294967296 M).length c24) rfl rfl rfl rfl rfl fun b hbf => ?_
      simp only [Act.put, List.setIfInBounds_toArray, List.set_cons_zero, List.set_cons_succ] at hbf
      subst hbf
      refine ops_done ?_
      have f7_ := (f6 _ _ rfl).mono s_6
      have sB := bb.size
      go_upto_region 3 with (fail)
      refine flowp 7 [Pd.eq (.agg #[.bool (ngB U), .slice A5 (digs 4294967296 (U).natAbs).length c5]), Pd.eq (.agg #[.bool (ngB V), .slice A7 (digs 4294967296 (V).natAbs).length c7]), pz ((Q).num) w4.heap.size, Pd.eq (.slice A24 (digs 4294967296 M).length c24), Pd.eq (.slice A16 (digs 4294967296 L).length c16), ps .u64 (digs 4294967296 (Q).den) w4.heap.size, pq (Q) w4.heap.size] (by kernel_rfl) ?ob30 ?done30
      case ob30 =>
        refine And.intro (ob_load rfl (wt_none rfl) (ev_far rfl rfl) (fun w2 hb => run_loadAll Tryz.underlying34 rfl (by kernel_rfl) (B5.below hb)) (fun _ _ => rfl)) ?_
        refine And.intro (ob_load rfl (wt_none rfl) (ev_far rfl rfl) (fun w2 hb => run_loadAll Tryz.underlying34 rfl (by kernel_rfl) (B7.below hb)) (fun _ _ => rfl)) ?_
        refine And.intro (ob_call2 rfl Tryz.func83 (by kernel_rfl) (wt_none rfl) (ev_dep (j := 0) (by kernel_rfl) rfl rfl) (ev_dep (j := 1) (by kernel_rfl) rfl rfl) (fun w2 u0 u1 hb h0 h1 => by obtain rfl := h0; obtain rfl := h1; exact (zmul_any _ _ U V (Q).num _ (k5.below hb) (k7.below hb) (Nat.le_trans lU.1 (by decide)) (Nat.le_trans lV.1 (by decide)) HQN.out.symm).mono fun e w3 h => RetZ.pd h hb.size)) ?_
        refine And.intro (ob_move rfl (wt_none rfl) (ev_far rfl rfl) (fun _ _ h => h)) ?_
        refine And.intro (ob_move rfl (wt_none rfl) (ev_far rfl rfl) (fun _ _ h => h)) ?_
        refine And.intro (ob_call2 rfl Tryz.func86 (by kernel_rfl) (wt_none rfl) (ev_dep (j := 3) (by kernel_rfl) rfl rfl) (ev_dep (j := 4) (by kernel_rfl) rfl rfl) (fun w2 u0 u1 hb h0 h1 => by obtain rfl := h0; obtain rfl := h1; exact (times_any _ M _ L _ (n24.below hb) (n16.below hb) (Nat.le_trans lV.2 (by decide)) (Nat.le_trans lU.2 (by decide))).mono fun e w3 h => RetS.pd (RetS.to h (congrArg (digs 4294967296) HQD.out)) hb.size)) ?_
        refine And.intro (ob_build2b rfl (wt_none rfl) (ev_dep (j := 2) (by kernel_rfl) rfl rfl) (ev_dep (j := 5) (by kernel_rfl) rfl rfl) (fun w2 u v hb hu hv => by obtain ⟨u7, rfl, hu7⟩ := hu.1; obtain ⟨A7, c7, rfl, _⟩ := id hu7; obtain ⟨A8, c8, rfl, _⟩ := id hv.1; exact ⟨.agg #[.bool (ngB (Q).num), .slice A7 (digs 4294967296 (Q).num.natAbs).length c7, .slice A8 (digs 4294967296 (Q).den).length c8], by kernel_rfl, ⟨⟨_, _, rfl, hu7, hv.1⟩, freshQ_mk (hu.2 _ _ rfl) hv.2⟩⟩)) ?_
        trivial
      case done30 =>
        refine fun w5 hb5 v0 h0 v1 h1 v2 h2 v3 h3 v4 h4 v5 h5 v6 h6 b hbf => ?_
        obtain rfl := h0; obtain rfl := h1; obtain rfl := h3; obtain rfl := h4
        obtain ⟨q2, f2⟩ := h2
        obtain ⟨q5, f5⟩ := h5
        obtain ⟨q6, f6⟩ := h6
        simp only [Act.put, List.setIfInBounds_toArray, List.set_cons_zero, List.set_cons_succ] at hbf
        subst hbf
        replace B0 := B0.below hb5
        replace k0s := k0s.below hb5
        replace k0d := k0d.below hb5
        replace k0z := k0z.below hb5
        replace k0 := k0.below hb5
        replace B1 := B1.below hb5
        replace k1s := k1s.below hb5
        replace k1d := k1d.below hb5
        replace k1z := k1z.below hb5
        replace k1 := k1.below hb5
        replace BR0 := BR0.below hb5
        replace B5 := B5.below hb5
        replace k5s := k5s.below hb5
        replace k5 := k5.below hb5
        replace B7 := B7.below hb5
        replace k7s := k7s.below hb5
        replace k7 := k7.below hb5
        replace n16 := n16.below hb5
        replace n24 := n24.below hb5
        replace bb := bb.trans (hb5.mono bb.size)
        have hsz5 := bb.size
        have s_2 := sB
        have s_5 := sB
        have s_6 := sB
        obtain ⟨u6, t6, rfl, q6, d6⟩ := q6
        obtain ⟨A9, c9, rfl, _⟩ := id q6
        obtain ⟨D9, e9, rfl, _⟩ := id d6
        have fS := (f6 _ _ _ rfl).1.mono s_6
        have fT := (f6 _ _ _ rfl).2.mono s_6
        refine ops_store (i := 7) rfl rfl rfl rfl rfl rfl (cells := [.bool (ngB (Q).num), .slice A9 (digs 4294967296 (Q).num.natAbs).length c9, .slice D9 (digs 4294967296 (Q).den).length e9]) rfl BR0 rfl (by kernel_rfl) (one3 rfl rfl rfl) fun w9 hg9 B9 => ?_
        have k9 := off q6 BR0 no_ints3 hg9
        have d9 := off d6 BR0 no_ints3 hg9
        have bb9 := bb.trans ((Below.refl _ _).grown hg9 bb.size (fun g hg => by injection hg with hg; omega))
        obtain ⟨C0, C1, C2, _, _, _⟩ := three B9
        refine ops_done ?_
        go_wp2
        rw [HQ0.out]
        exact bodyPost_ret (v := .agg #[.bool (ngB (Q).num), .slice A9 (digs 4294967296 (Q).num.natAbs).length c9, .slice D9 (digs 4294967296 (Q).den).length e9]) (by simp [results, Tryz.results119, go_sem, C0, C1, C2]) rfl ⟨_, rfl, isQ_mk k9 d9 rfl rfl rfl, freshQ_mk fS fT, bb9⟩
set_option maxHeartbeats 3200000 in
set_option maxRecDepth 100000 in
theorem add8_any (a0 : Value) (x : Rat) (a1 : Value) (y : Rat) (w : World) (h0 : IsQ w a0 x) (h1 : IsQ w a1 y) (hl : lenQ x 1000) (hl2 : lenQ y 1000) :
    Calls Tryz.prog 46 #[a0, a1] w (RetQ (x + y) w) := by
  obtain ⟨u0, t0, rfl, s0, r0⟩ := h0
  obtain ⟨A0, c0, rfl, _⟩ := id s0
  obtain ⟨D0, e0, rfl, _⟩ := id r0
  obtain ⟨u1, t1, rfl, s1, r1⟩ := h1
  obtain ⟨A1, c1, rfl, _⟩ := id s1
  obtain ⟨D1, e1, rfl, _⟩ := id r1
  obtain ⟨G, hG⟩ : ∃ G, G = Nat.gcd x.den y.den := ⟨_, rfl⟩
  obtain ⟨m1, ha⟩ : ∃ m1, m1 = x.den / G := ⟨_, rfl⟩
  obtain ⟨m2, hb_⟩ : ∃ m2, m2 = y.den / G := ⟨_, rfl⟩
  have hGp : 0 < G := by rw [hG]; exact Nat.gcd_pos_of_pos_left _ x.den_pos
  have hGd : G ≤ x.den := by rw [hG]; exact Nat.gcd_le_left _ x.den_pos
  obtain ⟨S, hS⟩ : ∃ S, S = (x.num * ((m2 : Nat) : Int) + y.num * ((m1 : Nat) : Int)) := ⟨_, rfl⟩
  obtain ⟨U, hU⟩ : ∃ U, U = (mkRat S G).num := ⟨_, rfl⟩
  obtain ⟨L, hL⟩ : ∃ L, L = (mkRat S G).den := ⟨_, rfl⟩
  obtain ⟨Q, hQ⟩ : ∃ Q, Q = x + y := ⟨_, rfl⟩
  have HQ0 : Hid (x + y = Q) := hQ.symm
  have HP := add_parts x y hG ha hb_
  rw [← hS, ← hU, ← hL, ← hQ] at HP
  have HQN := Lib.hid HP.1
  have HQD := Lib.hid HP.2
  have lx1 := hl.1
  have lx2 := hl.2
  have ly1 := hl2.1
  have ly2 := hl2.2
  have la : (digs 4294967296 m1).length ≤ 1000 := Nat.le_trans (digs_len_mono (by omega) (by rw [ha]; exact Nat.div_le_self _ _)) lx2
  have lb : (digs 4294967296 m2).length ≤ 1000 := Nat.le_trans (digs_len_mono (by omega) (by rw [hb_]; exact Nat.div_le_self _ _)) ly2
  have lG : (digs 4294967296 G).length ≤ 1000 := Nat.le_trans (digs_len_mono (by omega) hGd) lx2
  have lza : lenZ ((m1 : Nat) : Int) ≤ 1000 := by rw [lenD]; exact la
  have lzb : lenZ ((m2 : Nat) : Int) ≤ 1000 := by rw [lenD]; exact lb
  have lp : lenZ (x.num * ((m2 : Nat) : Int)) ≤ 2000 := lenZ_mul_le lx1 lzb
  have lq : lenZ (y.num * ((m1 : Nat) : Int)) ≤ 2000 := lenZ_mul_le ly1 lza
  have lS : lenZ S ≤ 4001 := by rw [hS]; exact lenZ_add_le lp lq
  have HL1 : Hid ((digs 4294967296 x.den).length ≤ 90000) := Nat.le_trans lx2 (by decide)
  have HL2 : Hid ((digs 4294967296 y.den).length ≤ 90000) := Nat.le_trans ly2 (by decide)
  have lL : (digs 4294967296 L).length ≤ 1000 := Nat.le_trans (digs_len_mono (by omega) (by rw [hL, mk_den S (by omega)]; exact Nat.div_le_self _ _)) lG
  have lab : (digs 4294967296 (m1 * m2)).length ≤ 2000 := by have := mul_len m1 m2; omega
  have HG : Hid (gcds [x.den, y.den] = G) := by show _ = _; rw [hG]; simp [gcds]
  have HM1 : Hid (x.den % G = 0) := by show _ = _; rw [hG]; exact Nat.mod_eq_zero_of_dvd (Nat.gcd_dvd_left _ _)
  have HM2 : Hid (y.den % G = 0) := by show _ = _; rw [hG]; exact Nat.mod_eq_zero_of_dvd (Nat.gcd_dvd_right _ _)
  have HA := Lib.hid ha
  have HB := Lib.hid hb_
  have HS : Hid ((x.num * ((m2 : Nat) : Int) + y.num * ((m1 : Nat) : Int)) = S) := hS.symm
  have HU := Lib.hid hU
  have HL := Lib.hid hL
  have HGn : Hid (G ≠ 0) := by show _ ≠ _; omega
  clear hG ha hb_ hS hU hL hQ HP
  go_enter Tryz.func46, Tryz.ntmps46
  go_upto_region 1 with (fail)
  obtain ⟨wx, hwx, bb, B0, B1, BR0, hsz⟩ := vars3 w 36 36 36 #[.bool (ngB (x).num), .slice A0 (digs 4294967296 (x).num.natAbs).length c0, .slice D0 (digs 4294967296 (x).den).length e0] #[.bool (ngB (y).num), .slice A1 (digs 4294967296 (y).num.natAbs).length c1, .slice D1 (digs 4294967296 (y).den).length e1] #[.bool false, .slice none 0 0, .slice none 0 0]
  rw [hwx]
  clear hwx
  have k0s := s0.below bb
  have k0d := r0.below bb
  have k0z : IsZ wx (.agg #[.bool (ngB (x).num), .slice A0 (digs 4294967296 (x).num.natAbs).length c0]) (x).num := ⟨_, rfl, k0s⟩
  have k0 : IsQ wx (.agg #[.bool (ngB (x).num), .slice A0 (digs 4294967296 (x).num.natAbs).length c0, .slice D0 (digs 4294967296 (x).den).length e0]) (x) := ⟨_, _, rfl, k0s, k0d⟩
  have k1s := s1.below bb
  have k1d := r1.below bb
  have k1z : IsZ wx (.agg #[.bool (ngB (y).num), .slice A1 (digs 4294967296 (y).num.natAbs).length c1]) (y).num := ⟨_, rfl, k1s⟩
  have k1 : IsQ wx (.agg #[.bool (ngB (y).num), .slice A1 (digs 4294967296 (y).num.natAbs).length c1, .slice D1 (digs 4294967296 (y).den).length e1]) (y) := ⟨_, _, rfl, k1s, k1d⟩
  have hsz0 := bb.size
  obtain ⟨x00, x01, x02, _, _, _⟩ := three B0
  obtain ⟨x10, x11, x12, _, _, _⟩ := three B1
  go_wp2_with fail
  have hbA := below_alloc (Nat.le_refl wx.heap.size) (.cells #[.slice D0 (digs 4294967296 (x).den).length e0, .slice D1 (digs 4294967296 (y).den).length e1] 32)
  refine (ggcd_any _ [_, _] [x.den, y.den] _ (isV_lit wx 32 [_, _]) (nums2 (k0d.below hbA) (k1d.below hbA)) (by simp) (by intro q hq; simp at hq; rcases hq with rfl | rfl; exact HL1.out; exact HL2.out)).mono ?_
  rintro e w1 ⟨v1, rfl, kg, kgf, b1⟩
  have hb1 := hbA.trans (b1.mono hbA.size)
  rw [HG.out] at kg
  clear x00 x01 x02 x10 x11 x12
  replace B0 := B0.below hb1
  replace k0s := k0s.below hb1
  replace k0d := k0d.below hb1
  replace k0z := k0z.below hb1
  replace k0 := k0.below hb1
  replace B1 := B1.below hb1
  replace k1s := k1s.below hb1
  replace k1d := k1d.below hb1
  replace k1z := k1z.below hb1
  replace k1 := k1.below hb1
  replace BR0 := BR0.below hb1
  replace bb := bb.trans (hb1.mono bb.size)
  have hsz1 := bb.size
  obtain ⟨Akg, ckg, rfl, _⟩ := id kg
  have sB := bb.size
  go_upto_region 2 with (fail)
  refine flowp 9 [Pd.eq (.pointer (some ⟨w.heap.size, 2, none⟩)), Pd.eq (.slice D0 (digs 4294967296 (x).den).length e0), Pd.eq (.slice Akg (digs 4294967296 G).length ckg), pt .u64 (digs 4294967296 m1) 0 w1.heap.size, pt .u64 (digs 4294967296 m1) 0 w1.heap.size, ps .u64 (digs 4294967296 m1) w1.heap.size, Pd.eq (.int .i64 0), ps .u64 (digs 4294967296 m1) w1.heap.size, Pd.eq (.int .i64 0)] (by kernel_rfl) ?ob37 ?done37
  case ob37 =>
    refine And.intro (ob_fieldAddr rfl (wt_none rfl) (ev_far rfl rfl) (fun _ => by kernel_rfl) (fun _ => rfl)) ?_
    refine And.intro (ob_load rfl (wt_none rfl) (ev_dep (j := 0) (by kernel_rfl) rfl rfl) (fun w2 hb => run_load1 Tryz.underlying32 rfl ((B0.below hb).cell 2)) (fun _ _ => rfl)) ?_
    refine And.intro (ob_move rfl (wt_none rfl) (ev_far rfl rfl) (fun _ _ h => h)) ?_
    refine And.intro (ob_call2 rfl Tryz.func81 (by kernel_rfl) (wt_none rfl) (ev_dep (j := 1) (by kernel_rfl) rfl rfl) (ev_dep (j := 2) (by kernel_rfl) rfl rfl) (fun w2 u0 u1 hb h0 h1 => by obtain rfl := h0; obtain rfl := h1; exact (dexact_ok _ _ x.den G _ (k0d.below hb) (kg.below hb) HL1.out (Nat.le_trans lG (by decide)) hGp m1 HM1.out HA.out).mono fun e w3 h => RetSI.pd h hb.size)) ?_
    refine And.intro (ob_move rfl (wt_none rfl) (ev_dep (j := 3) (by kernel_rfl) rfl rfl) (fun _ _ h => h)) ?_
    refine And.intro (ob_extract rfl (wt_none rfl) (ev_dep (j := 4) (by kernel_rfl) rfl rfl) (fun w2 u hu => by obtain ⟨v, rfl, q1, q2⟩ := hu; exact ⟨v, rfl, q1, q2⟩)) ?_
    refine And.intro (ob_extract rfl (wt_none rfl) (ev_dep (j := 4) (by kernel_rfl) rfl rfl) (fun w2 u hu => by obtain ⟨v, rfl, q1, q2⟩ := hu; exact ⟨_, rfl, rfl⟩)) ?_
    refine And.intro (ob_assign rfl (wt_none rfl) (ev_dep (j := 5) (by kernel_rfl) rfl rfl) (fun _ _ h => h)) ?_
    refine And.intro (ob_assign rfl (wt_none rfl) (ev_dep (j := 6) (by kernel_rfl) rfl rfl) (fun _ _ h => h)) ?_
    trivial
  case done37 =>
    refine fun w2 hb2 v0 h0 v1 h1 v2 h2 v3 h3 v4 h4 v5 h5 v6 h6 v7 h7 v8 h8 b hbf => ?_
    obtain rfl := h0; obtain rfl := h1; obtain rfl := h2; obtain rfl := h6; obtain rfl := h8
    clear h3
    clear h4
    obtain ⟨q5, f5⟩ := h5
    obtain ⟨q7, f7⟩ := h7
    simp only [Act.put, List.setIfInBounds_toArray, List.set_cons_zero, List.set_cons_succ] at hbf
    subst hbf
    replace B0 := B0.below hb2
    replace k0s := k0s.below hb2
    replace k0d := k0d.below hb2
    replace k0z := k0z.below hb2
    replace k0 := k0.below hb2
    replace B1 := B1.below hb2
    replace k1s := k1s.below hb2
    replace k1d := k1d.below hb2
    replace k1z := k1z.below hb2
    replace k1 := k1.below hb2
    replace BR0 := BR0.below hb2
    replace kg := kg.below hb2
    replace bb := bb.trans (hb2.mono bb.size)
    have hsz2 := bb.size
    have s_5 := sB
    have s_7 := sB
    refine ops_done ?_
    obtain ⟨A6, c6, rfl, _⟩ := id q7
    have n6 := q7
    have n6f := f7
    have n6z_ := s_7
    have sB := bb.size
    go_upto_region 3 with (fail)
    refine flowp 9 [Pd.eq (.pointer (some ⟨w.heap.size + 1, 2, none⟩)), Pd.eq (.slice D1 (digs 4294967296 (y).den).length e1), Pd.eq (.slice Akg (digs 4294967296 G).length ckg), pt .u64 (digs 4294967296 m2) 0 w2.heap.size, pt .u64 (digs 4294967296 m2) 0 w2.heap.size, ps .u64 (digs 4294967296 m2) w2.heap.size, Pd.eq (.int .i64 0), ps .u64 (digs 4294967296 m2) w2.heap.size, Pd.eq (.int .i64 0)] (by kernel_rfl) ?ob38 ?done38
    case ob38 =>
      refine And.intro (ob_fieldAddr rfl (wt_none rfl) (ev_far rfl rfl) (fun _ => by kernel_rfl) (fun _ => rfl)) ?_
      refine And.intro (ob_load rfl (wt_none rfl) (ev_dep (j := 0) (by kernel_rfl) rfl rfl) (fun w2 hb => run_load1 Tryz.underlying32 rfl ((B1.below hb).cell 2)) (fun _ _ => rfl)) ?_
      refine And.intro (ob_move rfl (wt_none rfl) (ev_far rfl rfl) (fun _ _ h => h)) ?_
      refine And.intro (ob_call2 rfl Tryz.func81 (by kernel_rfl) (wt_none rfl) (ev_dep (j := 1) (by kernel_rfl) rfl rfl) (ev_dep (j := 2) (by kernel_rfl) rfl rfl) (fun w2 u0 u1 hb h0 h1 => by obtain rfl := h0; obtain rfl := h1; exact (dexact_ok _ _ y.den G _ (k1d.below hb) (kg.below hb) HL2.out (Nat.le_trans lG (by decide)) hGp m2 HM2.out HB.out).mono fun e w3 h => RetSI.pd h hb.size)) ?_
      refine And.intro (ob_move rfl (wt_none rfl) (ev_dep (j := 3) (by kernel_rfl) rfl rfl) (fun _ _ h => h)) ?_
      refine And.intro (ob_extract rfl (wt_none rfl) (ev_dep (j := 4) (by kernel_rfl) rfl rfl) (fun w2 u hu => by obtain ⟨v, rfl, q1, q2⟩ := hu; exact ⟨v, rfl, q1, q2⟩)) ?_
      refine And.intro (ob_extract rfl (wt_none rfl) (ev_dep (j := 4) (by kernel_rfl) rfl rfl) (fun w2 u hu => by obtain ⟨v, rfl, q1, q2⟩ := hu; exact ⟨_, rfl, rfl⟩)) ?_
      refine And.intro (ob_assign rfl (wt_none rfl) (ev_dep (j := 5) (by kernel_rfl) rfl rfl) (fun _ _ h => h)) ?_
      refine And.intro (ob_assign rfl (wt_none rfl) (ev_dep (j := 6) (by kernel_rfl) rfl rfl) (fun _ _ h => h)) ?_
      trivial
    case done38 =>
      refine fun w3 hb3 v0 h0 v1 h1 v2 h2 v3 h3 v4 h4 v5 h5 v6 h6 v7 h7 v8 h8 b hbf => ?_
      obtain rfl := h0; obtain rfl := h1; obtain rfl := h2; obtain rfl := h6; obtain rfl := h8
      clear h3
      clear h4
      obtain ⟨q5, f5⟩ := h5
      obtain ⟨q7, f7⟩ := h7
      simp only [Act.put, List.setIfInBounds_toArray, List.set_cons_zero, List.set_cons_succ] at hbf
      subst hbf
      replace B0 := B0.below hb3
      replace k0s := k0s.below hb3
      replace k0d := k0d.below hb3
      replace k0z := k0z.below hb3
      replace k0 := k0.below hb3
      replace B1 := B1.below hb3
      replace k1s := k1s.below hb3
      replace k1d := k1d.below hb3
      replace k1z := k1z.below hb3
      replace k1 := k1.below hb3
      replace BR0 := BR0.below hb3
      replace kg := kg.below hb3
      replace n6 := n6.below hb3
      replace bb := bb.trans (hb3.mono bb.size)
      have hsz3 := bb.size
      have s_5 := sB
      have s_7 := sB
      refine ops_done ?_
      obtain ⟨A8, c8, rfl, _⟩ := id q7
      have n8 := q7
      have n8f := f7
      have n8z_ := s_7
      have sB := bb.size
      go_upto_region 4 with (fail)
      have lt3_2 := Blk.lt B0
      have lt3_3 := Blk.lt B1
      have lt3_4 := Blk.lt BR0
      refine flow 12 [Pd.eq (.pointer (some ⟨w.heap.size, 0, none⟩)), Pd.eq (.agg #[.bool (ngB (x).num), .slice A0 (digs 4294967296 (x).num.natAbs).length c0]), Pd.eq (.slice A8 (digs 4294967296 m2).length c8), pi (((m2 : Nat) : Int)), pi ((x.num * ((m2 : Nat) : Int))), Pd.eq (.pointer (some ⟨w.heap.size + 1, 0, none⟩)), Pd.eq (.agg #[.bool (ngB (y).num), .slice A1 (digs 4294967296 (y).num.natAbs).length c1]), Pd.eq (.slice A6 (digs 4294967296 m1).length c6), pi (((m1 : Nat) : Int)), pi ((y.num * ((m1 : Nat) : Int))), pz (S) w3.heap.size, pn 34 #[.bool false, .slice none 0 0] w3.heap.size] (by kernel_rfl) (by kernel_rfl) ?ob39 ?done39
      case ob39 =>
        refine And.intro (ob_fieldAddr rfl (wt_none rfl) (ev_far rfl rfl) (fun _ => by kernel_rfl) (fun _ => rfl)) ?_
        refine And.intro (ob_load rfl (wt_none rfl) (ev_dep (j := 0) (by kernel_rfl) rfl rfl) (fun w2 hb => run_loadPart Tryz.underlying34 rfl (by kernel_rfl) (B0.drew.below hb) rfl) (fun _ _ => rfl)) ?_
        refine And.intro (ob_move rfl (wt_none rfl) (ev_far rfl rfl) (fun _ _ h => h)) ?_
        refine And.intro (ob_call1 rfl Tryz.func84 (by kernel_rfl) (wt_none rfl) (ev_dep (j := 2) (by kernel_rfl) rfl rfl) (fun w2 u0 hb h0 => by obtain rfl := h0; exact unsigned_pd _ (m2) _ (n8.drew.below hb))) ?_
        refine And.intro (ob_call2 rfl Tryz.func83 (by kernel_rfl) (wt_none rfl) (ev_dep (j := 1) (by kernel_rfl) rfl rfl) (ev_dep (j := 3) (by kernel_rfl) rfl rfl) (fun w2 u0 u1 hb h0 h1 => by obtain rfl := h0; exact (zmul_any _ _ _ _ (x.num * ((m2 : Nat) : Int)) _ (k0z.drew.below hb) h1 (Nat.le_trans lx1 (by decide)) (Nat.le_trans lzb (by decide)) rfl).mono fun e w3 h => RetZ.pi h)) ?_
        refine And.intro (ob_fieldAddr rfl (wt_none rfl) (ev_far rfl rfl) (fun _ => by kernel_rfl) (fun _ => rfl)) ?_
        refine And.intro (ob_load rfl (wt_none rfl) (ev_dep (j := 5) (by kernel_rfl) rfl rfl) (fun w2 hb => run_loadPart Tryz.underlying34 rfl (by kernel_rfl) (B1.drew.below hb) rfl) (fun _ _ => rfl)) ?_
        refine And.intro (ob_move rfl (wt_none rfl) (ev_far rfl rfl) (fun _ _ h => h)) ?_
        refine And.intro (ob_call1 rfl Tryz.func84 (by kernel_rfl) (wt_none rfl) (ev_dep (j := 7) (by kernel_rfl) rfl rfl) (fun w2 u0 hb h0 => by obtain rfl := h0; exact unsigned_pd _ (m1) _ (n6.drew.below hb))) ?_
        refine And.intro (ob_call2 rfl Tryz.func83 (by kernel_rfl) (wt_none rfl) (ev_dep (j := 6) (by kernel_rfl) rfl rfl) (ev_dep (j := 8) (by kernel_rfl) rfl rfl) (fun w2 u0 u1 hb h0 h1 => by obtain rfl := h0; exact (zmul_any _ _ _ _ (y.num * ((m1 : Nat) : Int)) _ (k1z.drew.below hb) h1 (Nat.le_trans ly1 (by decide)) (Nat.le_trans lza (by decide)) rfl).mono fun e w3 h => RetZ.pi h)) ?_
        refine And.intro (ob_call2 rfl Tryz.func82 (by kernel_rfl) (wt_none rfl) (ev_dep (j := 4) (by kernel_rfl) rfl rfl) (ev_dep (j := 9) (by kernel_rfl) rfl rfl) (fun w2 u0 u1 hb h0 h1 => by exact (HS.out ▸ zadd_any _ _ _ _ _ h0 h1 (Nat.le_trans lp (by decide)) (Nat.le_trans lq (by decide))).mono fun e w3 h => RetZ.pd h hb.size)) ?_
        refine And.intro (ob_alloc (z := .agg #[.bool false, .slice none 0 0]) rfl rfl (fun _ => by kernel_rfl) (fun _ _ hB h => ⟨_, rfl, hB, h⟩)) ?_
        trivial
      case done39 =>
        refine fun w4 hb4 v0 h0 v1 h1 v2 h2 v3 h3 v4 h4 v5 h5 v6 h6 v7 h7 v8 h8 v9 h9 v10 h10 v11 h11 d11 b hbf => ?_
        obtain rfl := h0; obtain rfl := h1; obtain rfl := h2; obtain rfl := h5; obtain rfl := h6; obtain rfl := h7
        have q3 := h3
        have q4 := h4
        have q8 := h8
        have q9 := h9
        obtain ⟨q10, f10⟩ := h10
        obtain ⟨g39_11, rfl, hg11, B11⟩ := h11
        simp only [Act.put, List.setIfInBounds_toArray, List.set_cons_zero, List.set_cons_succ] at hbf
        subst hbf
        replace B0 := B0.below hb4
        replace k0s := k0s.below hb4
        replace k0d := k0d.below hb4
        replace k0z := k0z.below hb4
        replace k0 := k0.below hb4
        replace B1 := B1.below hb4
        replace k1s := k1s.below hb4
        replace k1d := k1d.below hb4
        replace k1z := k1z.below hb4
        replace k1 := k1.below hb4
        replace BR0 := BR0.below hb4
        replace kg := kg.below hb4
        replace n6 := n6.below hb4
        replace n8 := n8.below hb4
        replace bb := bb.trans (hb4.mono bb.size)
        have hsz4 := bb.size
        have s_10 := sB
        have BA10 := B11
        obtain ⟨u10, rfl, q10⟩ := q10
        obtain ⟨A10, c10, rfl, _⟩ := id q10
        refine any_store (i := 12) (by kernel_rfl) rfl rfl rfl rfl rfl rfl (cells := [.bool (ngB S), .slice A10 (digs 4294967296 (S).natAbs).length c10]) rfl BA10 rfl (by kernel_rfl) (one2 rfl rfl) fun w5 hg5 BN5 => ?_
        replace q10 := off q10 BA10 no_ints2 hg5
        replace kg := off kg BA10 no_ints2 hg5
        replace n6 := off n6 BA10 no_ints2 hg5
        replace n8 := off n8 BA10 no_ints2 hg5
        replace k0s := off k0s BA10 no_ints2 hg5
        replace k0d := off k0d BA10 no_ints2 hg5
        replace k0z : IsZ w5 (.agg #[.bool (ngB (x).num), .slice A0 (digs 4294967296 (x).num.natAbs).length c0]) ((x).num) := ⟨_, rfl, k0s⟩
        replace k0 : IsQ w5 (.agg #[.bool (ngB (x).num), .slice A0 (digs 4294967296 (x).num.natAbs).length c0, .slice D0 (digs 4294967296 (x).den).length e0]) (x) := ⟨_, _, rfl, k0s, k0d⟩
        replace B0 := B0.grown hg5 (by omega)
        replace k1s := off k1s BA10 no_ints2 hg5
        replace k1d := off k1d BA10 no_ints2 hg5
        replace k1z : IsZ w5 (.agg #[.bool (ngB (y).num), .slice A1 (digs 4294967296 (y).num.natAbs).length c1]) ((y).num) := ⟨_, rfl, k1s⟩
        replace k1 : IsQ w5 (.agg #[.bool (ngB (y).num), .slice A1 (digs 4294967296 (y).num.natAbs).length c1, .slice D1 (digs 4294967296 (y).den).length e1]) (y) := ⟨_, _, rfl, k1s, k1d⟩
        replace B1 := B1.grown hg5 (by omega)
        replace BR0 := BR0.grown hg5 (by omega)
        replace bb := bb.trans ((Below.refl _ _).grown hg5 bb.size (fun g hg => by injection hg with hg; omega))
        have hsz5 := bb.size
        have B10 : Blk w5 (g39_11) _ _ := BN5
        have k10s := q10
        have k10 : IsZ w5 (.agg #[.bool (ngB S), .slice A10 (digs 4294967296 (S).natAbs).length c10]) (S) := ⟨_, rfl, k10s⟩
        refine any_done (by kernel_rfl) ?_
        have sB := bb.size
        go_upto_region 5 with (fail)
        have lt5_2 := Blk.lt B0
        have lt5_3 := Blk.lt B1
        have lt5_4 := Blk.lt BR0
        have lt5_10 := Blk.lt B10
        refine flowp 7 [Pd.eq (.agg #[.bool (ngB S), .slice A10 (digs 4294967296 (S).natAbs).length c10]), Pd.eq (.slice Akg (digs 4294967296 G).length ckg), pzs (U) (L) w5.heap.size, pzs (U) (L) w5.heap.size, pz (U) w5.heap.size, ps .u64 (digs 4294967296 L) w5.heap.size, pn 34 #[.bool false, .slice none 0 0] w5.heap.size] (by kernel_rfl) ?ob40 ?done40
        case ob40 =>
          refine And.intro (ob_load rfl (wt_none rfl) (ev_far rfl rfl) (fun w2 hb => run_loadAll Tryz.underlying34 rfl (by kernel_rfl) (B10.below hb)) (fun _ _ => rfl)) ?_
          refine And.intro (ob_move rfl (wt_none rfl) (ev_far rfl rfl) (fun _ _ h => h)) ?_
          refine And.intro (ob_call2 rfl Tryz.func85 (by kernel_rfl) (wt_none rfl) (ev_dep (j := 0) (by kernel_rfl) rfl rfl) (ev_dep (j := 1) (by kernel_rfl) rfl rfl) (fun w2 u0 u1 hb h0 h1 => by obtain rfl := h0; obtain rfl := h1; exact (reduced_any _ S _ G U L _ (k10.below hb) (kg.below hb) HGn.out (Nat.le_trans lS (by decide)) (Nat.le_trans lG (by decide)) HU.out HL.out).mono fun e w3 h => RetZS.pd h hb.size)) ?_
          refine And.intro (ob_move rfl (wt_none rfl) (ev_dep (j := 2) (by kernel_rfl) rfl rfl) (fun _ _ h => h)) ?_
          refine And.intro (ob_extract rfl (wt_none rfl) (ev_dep (j := 3) (by kernel_rfl) rfl rfl) (fun w2 u hu => by obtain ⟨v, u, rfl, q1, q2, q3, q4⟩ := hu; exact ⟨v, rfl, q1, q3⟩)) ?_
          refine And.intro (ob_extract rfl (wt_none rfl) (ev_dep (j := 3) (by kernel_rfl) rfl rfl) (fun w2 u hu => by obtain ⟨v, u, rfl, q1, q2, q3, q4⟩ := hu; exact ⟨u, rfl, q2, q4⟩)) ?_
          refine And.intro (ob_alloc (z := .agg #[.bool false, .slice none 0 0]) rfl rfl (fun _ => by kernel_rfl) (fun _ _ hB h => ⟨_, rfl, hB, h⟩)) ?_
          trivial
        case done40 =>
          refine fun w6 hb6 v0 h0 v1 h1 v2 h2 v3 h3 v4 h4 v5 h5 v6 h6 d6 b hbf => ?_
          obtain rfl := h0; obtain rfl := h1
          clear h2
          clear h3
          obtain ⟨q4, f4⟩ := h4
          obtain ⟨q5, f5⟩ := h5
          obtain ⟨g40_6, rfl, hg6, B6⟩ := h6
          simp only [Act.put, List.setIfInBounds_toArray, List.set_cons_zero, List.set_cons_succ] at hbf
          subst hbf
          replace B0 := B0.below hb6
          replace k0s := k0s.below hb6
          replace k0d := k0d.below hb6
          replace k0z := k0z.below hb6
          replace k0 := k0.below hb6
          replace B1 := B1.below hb6
          replace k1s := k1s.below hb6
          replace k1d := k1d.below hb6
          replace k1z := k1z.below hb6
          replace k1 := k1.below hb6
          replace BR0 := BR0.below hb6
          replace B10 := B10.below hb6
          replace k10s := k10s.below hb6
          replace k10 := k10.below hb6
          replace kg := kg.below hb6
          replace n6 := n6.below hb6
          replace n8 := n8.below hb6
          replace bb := bb.trans (hb6.mono bb.size)
          have hsz6 := bb.size
          have s_4 := sB
          have s_5 := sB
          obtain ⟨A49, c49, rfl, _⟩ := id q5
          have n49 := q5
          have n49f := f5
          have n49z_ := s_5
          have BA11 := B6
          obtain ⟨u4, rfl, q4⟩ := q4
          obtain ⟨A11, c11, rfl, _⟩ := id q4
          refine ops_store (i := 7) rfl rfl rfl rfl rfl rfl (cells := [.bool (ngB U), .slice A11 (digs 4294967296 (U).natAbs).length c11]) rfl BA11 rfl (by kernel_rfl) (one2 rfl rfl) fun w7 hg7 BN7 => ?_
          replace q4 := off q4 BA11 no_ints2 hg7
          replace kg := off kg BA11 no_ints2 hg7
          replace n6 := off n6 BA11 no_ints2 hg7
          replace n8 := off n8 BA11 no_ints2 hg7
          replace n49 := off n49 BA11 no_ints2 hg7
          replace k0s := off k0s BA11 no_ints2 hg7
          replace k0d := off k0d BA11 no_ints2 hg7
          replace k0z : IsZ w7 (.agg #[.bool (ngB (x).num), .slice A0 (digs 4294967296 (x).num.natAbs).length c0]) ((x).num) := ⟨_, rfl, k0s⟩
          replace k0 : IsQ w7 (.agg #[.bool (ngB (x).num), .slice A0 (digs 4294967296 (x).num.natAbs).length c0, .slice D0 (digs 4294967296 (x).den).length e0]) (x) := ⟨_, _, rfl, k0s, k0d⟩
          replace B0 := B0.grown hg7 (by omega)
          replace k1s := off k1s BA11 no_ints2 hg7
          replace k1d := off k1d BA11 no_ints2 hg7
          replace k1z : IsZ w7 (.agg #[.bool (ngB (y).num), .slice A1 (digs 4294967296 (y).num.natAbs).length c1]) ((y).num) := ⟨_, rfl, k1s⟩
          replace k1 : IsQ w7 (.agg #[.bool (ngB (y).num), .slice A1 (digs 4294967296 (y).num.natAbs).length c1, .slice D1 (digs 4294967296 (y).den).length e1]) (y) := ⟨_, _, rfl, k1s, k1d⟩
          replace B1 := B1.grown hg7 (by omega)
          replace BR0 := BR0.grown hg7 (by omega)
          replace k10s := off k10s BA11 no_ints2 hg7
          replace k10 : IsZ w7 (.agg #[.bool (ngB S), .slice A10 (digs 4294967296 (S).natAbs).length c10]) (S) := ⟨_, rfl, k10s⟩
          replace B10 := B10.grown hg7 (by omega)
          replace bb := bb.trans ((Below.refl _ _).grown hg7 bb.size (fun g hg => by injection hg with hg; omega))
          have hsz7 := bb.size
          have B11 : Blk w7 (g40_6) _ _ := BN7
          have k11s := q4
          have k11 : IsZ w7 (.agg #[.bool (ngB U), .slice A11 (digs 4294967296 (U).natAbs).length c11]) (U) := ⟨_, rfl, k11s⟩
          refine ops_assign (i := 8) (.slice A49 (digs 4294967296 L).length c49) rfl rfl rfl rfl rfl fun b hbf => ?_
          simp only [Act.put, List.setIfInBounds_toArray, List.set_cons_zero, List.set_cons_succ] at hbf
          subst hbf
          refine ops_done ?_
          have f11_ := (f4 _ _ rfl).mono s_4
          have sB := bb.size
          go_upto_region 6 with (fail)
          refine flow 7 [Pd.eq (.agg #[.bool (ngB U), .slice A11 (digs 4294967296 (U).natAbs).length c11]), Pd.eq (.slice A6 (digs 4294967296 m1).length c6), Pd.eq (.slice A8 (digs 4294967296 m2).length c8), ps .u64 (digs 4294967296 (m1 * m2)) w7.heap.size, Pd.eq (.slice A49 (digs 4294967296 L).length c49), ps .u64 (digs 4294967296 ((m1 * m2) * L)) w7.heap.size, pbq (ngB U) (.slice A11 (digs 4294967296 (U).natAbs).length c11) (digs 4294967296 ((m1 * m2) * L)) w7.heap.size] (by kernel_rfl) (by kernel_rfl) ?ob41 ?done41
          case ob41 =>
            refine And.intro (ob_load rfl (wt_none rfl) (ev_far rfl rfl) (fun w2 hb => run_loadAll Tryz.underlying34 rfl (by kernel_rfl) (B11.drew.below hb)) (fun _ _ => rfl)) ?_
            refine And.intro (ob_move rfl (wt_none rfl) (ev_far rfl rfl) (fun _ _ h => h)) ?_
            refine And.intro (ob_move rfl (wt_none rfl) (ev_far rfl rfl) (fun _ _ h => h)) ?_
            refine And.intro (ob_call2 rfl Tryz.func86 (by kernel_rfl) (wt_none rfl) (ev_dep (j := 1) (by kernel_rfl) rfl rfl) (ev_dep (j := 2) (by kernel_rfl) rfl rfl) (fun w2 u0 u1 hb h0 h1 => by obtain rfl := h0; obtain rfl := h1; exact (times_any _ m1 _ m2 _ (n6.drew.below hb) (n8.drew.below hb) (Nat.le_trans la (by decide)) (Nat.le_trans lb (by decide))).mono fun e w3 h => RetS.pd h hb.size)) ?_
            refine And.intro (ob_move rfl (wt_none rfl) (ev_far rfl rfl) (fun _ _ h => h)) ?_
            refine And.intro (ob_call2 rfl Tryz.func86 (by kernel_rfl) (wt_none rfl) (ev_dep (j := 3) (by kernel_rfl) rfl rfl) (ev_dep (j := 4) (by kernel_rfl) rfl rfl) (fun w2 u0 u1 hb h0 h1 => by obtain rfl := h1; exact (times_any _ (m1 * m2) _ L _ h0.1 (n49.drew.below hb) (Nat.le_trans lab (by decide)) (Nat.le_trans lL (by decide))).mono fun e w3 h => RetS.pd h hb.size)) ?_
            refine And.intro (ob_build2b rfl (wt_none rfl) (ev_dep (j := 0) (by kernel_rfl) rfl rfl) (ev_dep (j := 5) (by kernel_rfl) rfl rfl) (fun w2 u v hb hu hv => by obtain rfl := hu; obtain ⟨A7, c7, rfl, _⟩ := id hv.1; exact ⟨.agg #[.bool (ngB U), .slice A11 (digs 4294967296 (U).natAbs).length c11, .slice A7 (digs 4294967296 ((m1 * m2) * L)).length c7], by kernel_rfl, ⟨A7, c7, rfl, hv.1, hv.2⟩⟩)) ?_
            trivial
          case done41 =>
            refine fun w8 hb8 v0 h0 v1 h1 v2 h2 v3 h3 v4 h4 v5 h5 v6 h6 b hbf => ?_
            obtain rfl := h0; obtain rfl := h1; obtain rfl := h2; obtain rfl := h4
            obtain ⟨q3, f3⟩ := h3
            obtain ⟨q5, f5⟩ := h5
            have q6 := h6; have s9_ := sB
            simp only [Act.put, List.setIfInBounds_toArray, List.set_cons_zero, List.set_cons_succ] at hbf
            subst hbf
            replace B0 := B0.below hb8
            replace k0s := k0s.below hb8
            replace k0d := k0d.below hb8
            replace k0z := k0z.below hb8
            replace k0 := k0.below hb8
            replace B1 := B1.below hb8
            replace k1s := k1s.below hb8
            replace k1d := k1d.below hb8
            replace k1z := k1z.below hb8
            replace k1 := k1.below hb8
            replace BR0 := BR0.below hb8
            replace B10 := B10.below hb8
            replace k10s := k10s.below hb8
            replace k10 := k10.below hb8
            replace B11 := B11.below hb8
            replace k11s := k11s.below hb8
            replace k11 := k11.below hb8
            replace kg := kg.below hb8
            replace n6 := n6.below hb8
            replace n8 := n8.below hb8
            replace n49 := n49.below hb8
            replace bb := bb.trans (hb8.mono bb.size)
            have hsz8 := bb.size
            have s_3 := sB
            have s_5 := sB
            obtain ⟨A9, c9, rfl, q9, f9⟩ := q6
            refine any_store (i := 7) (by kernel_rfl) rfl rfl rfl rfl rfl rfl (cells := [.bool (ngB U), .slice A11 (digs 4294967296 (U).natAbs).length c11, .slice A9 (digs 4294967296 ((m1 * m2) * L)).length c9]) rfl BR0 rfl (by kernel_rfl) (one3 rfl rfl rfl) fun w9 hg9 B9 => ?_
            have k9 := off k11s BR0 no_ints3 hg9
            have d9 := off q9 BR0 no_ints3 hg9
            have bb9 := bb.trans ((Below.refl _ _).grown hg9 bb.size (fun g hg => by injection hg with hg; omega))
            obtain ⟨C0, C1, C2, _, _, _⟩ := three B9
            refine any_done (by kernel_rfl) ?_
            go_wp2
            rw [HQ0.out]
            exact bodyPost_ret (v := .agg #[.bool (ngB U), .slice A11 (digs 4294967296 (U).natAbs).length c11, .slice A9 (digs 4294967296 ((m1 * m2) * L)).length c9]) (by simp [results, Tryz.results46, go_sem, C0, C1, C2]) rfl ⟨_, rfl, isQ_mk k9 d9 (by rw [HQN.out]) (by rw [HQN.out]) HQD.out, freshQ_mk f11_ (f9.mono s9_), bb9⟩
set_option maxHeartbeats 1600000 in
set_option maxRecDepth 100000 in
theorem of8_any (n : Int) (w : World) (h1 : -9223372036854775808 ≤ n) (h2 : n ≤ 9223372036854775807) :
    Calls Tryz.prog 53 #[.int .i64 n] w (RetQ (n : Rat) w) := by
  obtain ⟨Q, hQ⟩ : ∃ Q, Q = (n : Rat) := ⟨_, rfl⟩
  have HQ0 : Hid ((n : Rat) = Q) := hQ.symm
  have HQN : Hid (Q.num = n) := by show _ = _; rw [hQ]; exact Rat.num_intCast n
  have HQD : Hid (Q.den = 1) := by show _ = _; rw [hQ]; exact Rat.den_intCast n
  clear hQ
  go_enter Tryz.func53, Tryz.ntmps53
  go_upto_region 1 with (fail)
  obtain ⟨wx, hwx, bb, BR0, hsz⟩ := vars1 w 36 #[.bool false, .slice none 0 0, .slice none 0 0]
  rw [hwx]
  clear hwx
  have hsz0 := bb.size
  have sB := bb.size
  refine flowp 4 [Pd.eq (.int .i64 n), pz ((Q).num) wx.heap.size, ps .u64 (digs 4294967296 (Q).den) wx.heap.size, pq (Q) wx.heap.size] (by kernel_rfl) ?ob19 ?done19
  case ob19 =>
    refine And.intro (ob_move rfl (wt_none rfl) (ev_far rfl rfl) (fun _ _ h => h)) ?_
    refine And.intro (ob_call1 rfl Tryz.func93 (by kernel_rfl) (wt_none rfl) (ev_dep (j := 0) (by kernel_rfl) rfl rfl) (fun w2 u0 hb h0 => by obtain rfl := h0; exact (zof_any n _ h1 h2).mono fun e w3 h => RetZ.pd (RetZ.to h HQN.out.symm) hb.size)) ?_
    refine And.intro (ob_call1 rfl Tryz.func94 (by kernel_rfl) (wt_none rfl) (ev_const _) (fun w2 u0 hb h0 => by obtain rfl := h0; exact (of_any 1 1 _ rfl (by omega)).mono fun e w3 h => RetS.pd (RetS.to h (congrArg (digs 4294967296) HQD.out.symm)) hb.size)) ?_
    refine And.intro (ob_build2b rfl (wt_none rfl) (ev_dep (j := 1) (by kernel_rfl) rfl rfl) (ev_dep (j := 2) (by kernel_rfl) rfl rfl) (fun w2 u v hb hu hv => by obtain ⟨u7, rfl, hu7⟩ := hu.1; obtain ⟨A7, c7, rfl, _⟩ := id hu7; obtain ⟨A8, c8, rfl, _⟩ := id hv.1; exact ⟨.agg #[.bool (ngB (Q).num), .slice A7 (digs 4294967296 (Q).num.natAbs).length c7, .slice A8 (digs 4294967296 (Q).den).length c8], by kernel_rfl, ⟨⟨_, _, rfl, hu7, hv.1⟩, freshQ_mk (hu.2 _ _ rfl) hv.2⟩⟩)) ?_
    trivial
  case done19 =>
    refine fun w1 hb1 v0 h0 v1 h1 v2 h2 v3 h3 b hbf => ?_
    obtain rfl := h0
    obtain ⟨q1, f1⟩ := h1
    obtain ⟨q2, f2⟩ := h2
    obtain ⟨q3, f3⟩ := h3
    simp only [Act.put, List.setIfInBounds_toArray, List.set_cons_zero, List.set_cons_succ] at hbf
    subst hbf
    replace BR0 := BR0.below hb1
    replace bb := bb.trans (hb1.mono bb.size)
    have hsz1 := bb.size
    have s_1 := sB
    have s_2 := sB
    have s_3 := sB
    obtain ⟨u3, t3, rfl, q3, d3⟩ := q3
    obtain ⟨A9, c9, rfl, _⟩ := id q3
    obtain ⟨D9, e9, rfl, _⟩ := id d3
    refine ops_store (i := 4) rfl rfl rfl rfl rfl rfl (cells := [.bool (ngB (Q).num), .slice A9 (digs 4294967296 (Q).num.natAbs).length c9, .slice D9 (digs 4294967296 (Q).den).length e9]) rfl BR0 rfl (by kernel_rfl) (one3 rfl rfl rfl) fun w9 hg9 B9 => ?_
    have k9 := off q3 BR0 no_ints3 hg9
    have d9 := off d3 BR0 no_ints3 hg9
    have f9 := f3.mono (show w.heap.size ≤ _ from s_3)
    have bb9 := bb.trans ((Below.refl _ _).grown hg9 bb.size (fun g hg => by injection hg with hg; omega))
    obtain ⟨C0, C1, C2, _, _, _⟩ := three B9
    refine ops_done ?_
    go_wp2
    rw [HQ0.out]
    exact bodyPost_ret (v := .agg #[.bool (ngB (Q).num), .slice A9 (digs 4294967296 (Q).num.natAbs).length c9, .slice D9 (digs 4294967296 (Q).den).length e9]) (by simp [results, Tryz.results53, go_sem, C0, C1, C2]) rfl ⟨_, rfl, ⟨_, _, rfl, k9, d9⟩, f9, bb9⟩
end Go.Proofs.YtpcdkepkipadaaaGreat.rat
