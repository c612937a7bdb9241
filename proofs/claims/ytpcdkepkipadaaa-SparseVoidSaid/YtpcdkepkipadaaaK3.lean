/- Maps of fractions by row and place: a block that holds, by arrays of two numbers, what of a table is no nought; looked up, stored, struck. Condition: as each says.
Mathematics of the greatest common divisor, by what is left and by halving. No program stands here.
The document's greatest common divisor; the program's by what is left of divisions. Condition: slices read as numbers.
The program's greatest common divisor by halving and taking off. Condition: slices read as numbers.
The program's greatest common divisor by halving and taking off: the loop. Condition: slices read as numbers.
The program's greatest common divisor of many numbers, and whether two are coprime; the chapter's example. Condition: slices read as numbers.
The chapter's example of the greatest common divisor.
The document's own fractions: Low. Condition: as each says.
What RatMakes wants: a slice cut short, the least of two lengths. No program stands here.
Fractions: what the program reckons (sums over what the lower parts have in common, products put into lowest terms crosswise, the order by products). Mathematics alone.
Package rat: its own contracts, each said of fractions: what its functions stand on, Neg, Sign. Condition: as each says.
Package rat: its own contracts, each said of fractions: Add, Sub, Cmp. Condition: as each says.
Package rat: its own contracts, each said of fractions: Make, Of, Frac. Condition: as each says.
Package rat: its own contracts, each said of fractions: Same, One, May. Condition: as each says.
The document's own folds of fractions: Sum, Product. Condition: as each says.
The document's own folds of fractions: Whole, Pow. Condition: as each says.
An argument as a slice of fractions; its elements loaded. Condition: as each says.
Rows of fractions grown in a region that draws its order. Condition: as each says.
The document's Shares. Condition: as it says.
An argument as a slice of ints. Condition: it can be read as data.
Rows of ints that the call makes by append.
The document's sum of two whole numbers lies in new memory. Condition: sizes are within bounds.
few: two rows of fractions out of an argument. Condition: as it says.
Folds of fractions: the least and the greatest one, shares are a whole, a mean lies between, sums one by one, sorting. Mathematics alone.
Elements of a row of fractions whose place is told.
A copy of ints that a region makes: an empty row, and an append to it.
Package sparse: among, made, cells, Size, Count, New. Condition: as each says.
Rows written out in a region: two fractions, two rows of fractions; as obligations of its flow. Condition: as each says.
Few: two rows of fractions out of an argument. Condition: as it says.
Tables: rows of rows of fractions, as they come in, as a call makes them by append, or by make. Condition: as each says.
A region that draws its order, a chain of whose operations may come behind the first store and reads what was there: the stores write new variables alone, so it yields the same then. No program stands here.
Rows of fractions that the call makes at their full length: one block, written element by element; calls through a function's value. Condition: as each says.
Rows that a call makes, and hands on: words for its end. Condition: as each says.
Tables that a call makes at their full length: one block of slices, written place by place; rows of the call's own that grow within such a table. Condition: as each says.
Rows of tables, as a variadic call takes them: written out in a region; read. Condition: as each says.
Rows of one fraction written out in a region; a table's place; what the types of rows and tables are. Condition: as each says.
Package sparse: copied, Get. Condition: as each says.
Package sparse: Put, More. Condition: as each says.
Package sparse: Get of none, More. Condition: as each says.
Package sparse, of none: Apply, Row, Full; the example. Condition: as each says. -/
import Derived.Test.YtpcdkepkipadaaaK2
import Derived.Maps.RangeWalk
import Derived.Maps.OwnSet
import Derived.WideKeyPair
import Derived.Deep.LoopGhost
import Derived.Deep.Slices
import Derived.BigRegion
import Derived.WalkSpells
import Derived.OrdersHeld
import Derived.Laws.IdiomRangeMap
namespace Go.Proofs.Ytpcdkepkipadaaa.rat
open Go.RowKit Go.Proofs.Ytpcdkepkipadaaa.num Go.Proofs.Ytpcdkepkipadaaa.mem Go.Proofs.Ytpcdkepkipadaaa.nat Go.Proofs.Ytpcdkepkipadaaa.txt Go.Proofs.Ytpcdkepkipadaaa.str Go.Proofs.Ytpcdkepkipadaaa.flow Go.Proofs.Ytpcdkepkipadaaa.whl
set_option linter.unusedVariables false
set_option maxRecDepth 100000
theorem arrK : Go.WideMaps.ArrKey Try.prog 54 3 2 := ⟨Try.underlying54, by kernel_rfl, by kernel_rfl, by kernel_rfl⟩
theorem keyK : Go.Maps.Keyed Try.prog 54 := Go.Maps.Keyed.of_law arrK.law
theorem typesK : ∃ m, (Try.prog).types.size = m + 1 := by
  have h : 0 < (Try.prog).types.size := of_decide_eq_true (by kernel_rfl)
  exact ⟨_, (Nat.succ_pred_eq_of_pos h).symm⟩
/-- A key. -/
def klit (a b : Int) : Lit := .string (keyBytes [.int .i64 a, .int .i64 b])
def I64 (a : Int) : Prop := -9223372036854775808 ≤ a ∧ a ≤ 9223372036854775807
theorem I64.wf {a : Int} (h : I64 a) : (Lit.int .i64 a).wf = true := by
  simp only [Lit.wf, Bool.and_eq_true, decide_eq_true_eq]
  exact h
theorem i64_wf {a : Int} (h : (Lit.int .i64 a).wf = true) : I64 a := by
  simp only [Lit.wf, Bool.and_eq_true, decide_eq_true_eq] at h
  exact h
theorem keyOf_k {a b : Int} (ha : I64 a) (hb : I64 b) : keyOf Try.prog 54 (.agg #[.int .i64 a, .int .i64 b]) = some (klit a b) := Go.WideMaps.keyOf_pair arrK Try.underlying3 typesK ha.wf hb.wf
theorem klit_inj {a b c d : Int} (ha : I64 a) (hb : I64 b) (hc : I64 c) (hd : I64 d) (h : klit a b = klit c d) : a = c ∧ b = d := by
  have h1 := keyK.inj (keyOf_k ha hb) (h ▸ keyOf_k hc hd)
  injection h1 with h1
  have h1 := congrArg Array.toList h1
  simp at h1
  exact h1
/-- An element of a map is told as it lies there. -/
def selfR (v : Value) : Option (DataW Value × List MemPlace) := some (.held v, [])
def qv (p : Elt) : Value := .agg #[.bool (ngB p.1.num), p.2.1, p.2.2]
def zq : Value := .agg #[.bool false, .slice none 0 0, .slice none 0 0]
theorem zeroQ (w : World) : (zeroValue 36).run Try.prog w = .ok zq w := by kernel_rfl
/-- What the map holds is what of the table is no nought. -/
structure MapD (D : DataW Value) (w : World) (T : List (List Rat)) : Prop where
  hit : ∀ (i j : Nat) (q : Rat), cellq T i j = some q → q ≠ 0 → Maps.has D (klit i j) = true ∧ ∃ p : Elt, (∀ z, D.atKey (klit i j) z = .held (qv p)) ∧ p.1 = q ∧ IsE .u64 4294967296 w p
  miss : ∀ a b : Int, I64 a → I64 b → (∀ (i j : Nat) (q : Rat), a = i → b = j → cellq T i j = some q → q = 0) → Maps.has D (klit a b) = false
  cnt : Maps.size D = cntT T
/-- Block b is such a map. -/
def MapQ (w : World) (b : Nat) (T : List (List Rat)) : Prop := ∃ D, w.ownsMap Try.prog 54 selfR b (Maps.size D) D ∧ MapD D w T
theorem MapQ.lt {w : World} {b : Nat} {T : List (List Rat)} (h : MapQ w b T) : b < w.heap.size := let ⟨_, h1, _⟩ := h; h1.lt
theorem MapD.kept {D : DataW Value} {w w' : World} {T : List (List Rat)} (h : MapD D w T) (hk : ∀ p : Elt, IsE .u64 4294967296 w p → IsE .u64 4294967296 w' p) : MapD D w' T :=
  ⟨fun i j q hq h0 => by obtain ⟨h1, p, h2, h3, h4⟩ := h.hit i j q hq h0; exact ⟨h1, p, h2, h3, hk p h4⟩, h.miss, h.cnt⟩
theorem MapQ.below {w w' : World} {b : Nat} {T : List (List Rat)} (h : MapQ w b T) (hb : Below w.heap.size w w') : MapQ w' b T := by
  obtain ⟨D, h1, h2⟩ := h
  exact ⟨D, h1.kept (row := none) ⟨hb.os, hb.tape, hb.output, hb.size, fun i hi _ => hb.block i hi⟩ (by simp), h2.kept fun p hp => hp.below hb⟩
theorem MapQ.drew {w : World} {b : Nat} {T : List (List Rat)} (h : MapQ w b T) : MapQ w.drew b T := h.below (Below.refl _ w).drew
/-- Another block, without limbs, is written. -/
theorem MapQ.grown {w w' : World} {b g : Nat} {T : List (List Rat)} {e : TypeId} {cs : Array Value} (h : MapQ w b T) (hB : w.heap[g]? = some (.cells cs e (0, 0))) (hno : ∀ c ∈ cs, ∀ n, c ≠ .int .u64 n) (hg : w.grownBy w' (some g)) : MapQ w' b T := by
  obtain ⟨D, h1, h2⟩ := h
  have hne : b ≠ g := fun e => by
    obtain ⟨es, ck, h3, _⟩ := h1
    rw [e, hB] at h3
    cases h3
  exact ⟨D, h1.kept hg (fun e => hne (by injection e)), h2.kept fun p hp => ⟨Go.Proofs.Ytpcdkepkipadaaa.flow.off hp.1 hB hno hg, Go.Proofs.Ytpcdkepkipadaaa.flow.off hp.2 hB hno hg⟩⟩
/-- The block is a map: no cells lie there. -/
def IsM (w : World) (b : Nat) : Prop := ∃ es ck, w.heap[b]? = some (.map es ck)
theorem MapQ.isM {w : World} {b : Nat} {T : List (List Rat)} (h : MapQ w b T) : IsM w b := by
  obtain ⟨D, ⟨es, ck, h1, _⟩, _⟩ := h
  exact ⟨es, ck, h1⟩
theorem IsM.no_cell {w : World} {b : Nat} (h : IsM w b) {p : Addr} {v : Value} (hp : w.cell? p = some v) : some p.block ≠ some b := by
  obtain ⟨es, ck, h1⟩ := h
  intro e
  injection e with e
  unfold World.cell? at hp
  rw [e, h1] at hp
  cases hp
/-- Limbs lie elsewhere than in a map. -/
theorem IsM.off {w w' : World} {b : Nat} (hm : IsM w b) {k : IntKind} {v : Value} {l : List Nat} (h : IsS w k v l) (hg : w.grownBy w' (some b)) : IsS w' k v l := by
  obtain ⟨A, c, rfl, h1, h2, h3⟩ := h
  refine ⟨A, c, rfl, h1, h2, fun i d hd => ?_⟩
  obtain ⟨ad, rfl, hc⟩ := h3 i d hd
  exact ⟨ad, rfl, hg.cell hc (hm.no_cell hc)⟩
theorem IsM.offE {w w' : World} {b : Nat} (hm : IsM w b) {k : IntKind} {B : Nat} {p : Elt} (h : IsE k B w p) (hg : w.grownBy w' (some b)) : IsE k B w' p := ⟨hm.off h.1 hg, hm.off h.2 hg⟩
theorem IsM.offBlk {w w' : World} {b : Nat} (hm : IsM w b) {g : Nat} {t : TypeId} {cs : Array Value} (h : Blk w g t cs) (hg : w.grownBy w' (some b)) : Blk w' g t cs := h.grown hg fun e => by
  obtain ⟨es, ck, h1⟩ := hm
  unfold Blk at h
  rw [e, h1] at h
  cases h
/-- A map that 'make' made. -/
theorem mapQ_made (w : World) (R C : Nat) : MapQ (w.alloc (.map #[] 0)) w.heap.size (zerosT R C) :=
  ⟨.map [], World.ownsMap_made w _ _ _, ⟨fun i j q hq h0 => absurd (cellq_zeros hq) h0, fun _ _ _ _ _ => rfl, by rw [cntT_zeros]; rfl⟩⟩
theorem tidyM {w : World} {b n : Nat} {D : DataW Value} (h : w.ownsMap Try.prog 54 selfR b n D) : Maps.Tidy D := by
  obtain ⟨es, rfl, h1, _⟩ := h.entries keyK
  exact ⟨es, rfl, h1⟩
theorem resize {w : World} {b n : Nat} {D : DataW Value} (h : w.ownsMap Try.prog 54 selfR b n D) : w.ownsMap Try.prog 54 selfR b (Maps.size D) D := by
  obtain ⟨es, ck, h1, h2, h3, rfl⟩ := h
  exact ⟨es, ck, h1, h2, by simp [Maps.size, length_sorted], rfl⟩
theorem natI64 {n m : Nat} (h : n < m) (hm : m ≤ 200) : I64 (n : Int) := ⟨by omega, by omega⟩
theorem klit_ne {i j : Nat} {R C : Nat} (hR : R ≤ 200) (hC : C ≤ 200) (hi : i < R) (hj : j < C) {a b : Int} (ha : I64 a) (hb : I64 b) (h : ¬ ((i : Int) = a ∧ (j : Int) = b)) : klit a b ≠ klit i j := fun e => by
  obtain ⟨e1, e2⟩ := klit_inj ha hb (natI64 hi hR) (natI64 hj hC) e
  exact h ⟨e1.symm, e2.symm⟩
/-- 'm[k] = v', v no nought. -/
theorem MapQ.store {w : World} {b : Nat} {T : List (List Rat)} {R C i j : Nat} {p : Elt} (h : MapQ w b T) (hs : shp T R C) (hR : R ≤ 200) (hC : C ≤ 200) (hi : i < R) (hj : j < C) (h0 : p.1 ≠ 0) (hp : IsE .u64 4294967296 w p) :
    ∃ w', (Instr.mapUpdate 48 (.map (some b)) (.agg #[.int .i64 (i : Int), .int .i64 (j : Int)]) (qv p)).run Try.prog w = .ok () w' ∧ MapQ w' b (setq T i j p.1) ∧ w.grownBy w' (some b) := by
  have hm := h.isM
  obtain ⟨D, h1, h2⟩ := h
  have hsz : Maps.size D < maxLen := by
    rw [h2.cnt]
    have h3 := cntT_le hs
    have h4 : R * C ≤ 200 * 200 := Nat.mul_le_mul hR hC
    unfold maxLen; omega
  obtain ⟨w', hrun, h3, h4⟩ := h1.update keyK Try.underlying48 hsz (keyOf_k (natI64 hi hR) (natI64 hj hC)) (val := qv p) (d := .held (qv p)) (ps := []) rfl
  have hT := tidyM h1
  have hkl := keyK.key (keyOf_k (natI64 hi hR) (natI64 hj hC))
  obtain ⟨q0, hq0⟩ := cellq_ex hs hi hj
  have hhas : Maps.has D (klit i j) = decide (q0 ≠ 0) := by
    by_cases e : q0 = 0
    · rw [h2.miss i j (natI64 hi hR) (natI64 hj hC) (fun i' j' q e1 e2 hq => by
        obtain rfl : i = i' := by omega
        obtain rfl : j = j' := by omega
        rw [hq0] at hq
        injection hq with hq
        rw [← hq, e]), e]; simp
    · rw [(h2.hit i j q0 hq0 e).1]; simp [e]
  refine ⟨w', hrun, ⟨_, resize h3, fun i' j' q hq hne => ?_, fun x y hx hy hm' => ?_, ?_⟩, h4⟩
  · rw [cellq_setq hs hi hj] at hq
    by_cases e : i = i' ∧ j = j'
    · obtain ⟨rfl, rfl⟩ := e
      rw [if_pos ⟨rfl, rfl⟩] at hq
      injection hq with hq
      exact ⟨Maps.has_put_same hT.isMap hkl _, p, fun z => Maps.atKey_put_same hT.isMap hkl _ z, hq, hm.offE hp h4⟩
    · rw [if_neg e] at hq
      obtain ⟨hi', hj'⟩ := cellq_lt hs hq
      obtain ⟨k1, p', k2, k3, k4⟩ := h2.hit i' j' q hq hne
      have hk := klit_ne hR hC hi hj (natI64 hi' hR) (natI64 hj' hC) (fun e' => e ⟨by omega, by omega⟩)
      exact ⟨by rw [Maps.has_put_other hk]; exact k1, p', fun z => by rw [Maps.atKey_put_other hk]; exact k2 z, k3, hm.offE k4 h4⟩
  · have hk := klit_ne hR hC hi hj hx hy (fun e => h0 (hm' i j p.1 e.1.symm e.2.symm (by rw [cellq_setq hs hi hj, if_pos ⟨rfl, rfl⟩])))
    rw [Maps.has_put_other hk]
    refine h2.miss x y hx hy fun i' j' q e1 e2 hq => ?_
    by_cases e : i = i' ∧ j = j'
    · exact absurd (hm' i' j' p.1 e1 e2 (by rw [cellq_setq hs hi hj, if_pos e])) h0
    · exact hm' i' j' q e1 e2 (by rw [cellq_setq hs hi hj, if_neg e]; exact hq)
  · rw [Maps.size_put hT, hhas, h2.cnt]
    have h5 := cntT_setq hq0 p.1
    rw [oneq_pos h0] at h5
    by_cases e : q0 = 0
    · subst e; rw [oneq_zero] at h5; simp; omega
    · rw [oneq_pos e] at h5; simp [e]; omega
/-- 'delete(m, k)'. -/
theorem MapQ.drop {w : World} {b : Nat} {T : List (List Rat)} {R C i j : Nat} (h : MapQ w b T) (hs : shp T R C) (hR : R ≤ 200) (hC : C ≤ 200) (hi : i < R) (hj : j < C) (ty : TypeId) :
    ∃ w', (Builtin.delete_ #[48, 54] ty #[.map (some b), .agg #[.int .i64 (i : Int), .int .i64 (j : Int)]]).run Try.prog w = .ok (.tuple #[]) w' ∧ MapQ w' b (setq T i j 0) ∧ w.grownBy w' (some b) := by
  have hm := h.isM
  obtain ⟨D, h1, h2⟩ := h
  obtain ⟨w', hrun, h3, h4'⟩ := h1.drop keyK Try.underlying48 (keyOf_k (natI64 hi hR) (natI64 hj hC)) ty
  have h4 := h4'.grown
  have hT := tidyM h1
  obtain ⟨q0, hq0⟩ := cellq_ex hs hi hj
  have hhas : Maps.has D (klit i j) = decide (q0 ≠ 0) := by
    by_cases e : q0 = 0
    · rw [h2.miss i j (natI64 hi hR) (natI64 hj hC) (fun i' j' q e1 e2 hq => by
        obtain rfl : i = i' := by omega
        obtain rfl : j = j' := by omega
        rw [hq0] at hq
        injection hq with hq
        rw [← hq, e]), e]; simp
    · rw [(h2.hit i j q0 hq0 e).1]; simp [e]
  refine ⟨w', hrun, ⟨_, resize h3, fun i' j' q hq hne => ?_, fun x y hx hy hm' => ?_, ?_⟩, h4⟩
  · rw [cellq_setq hs hi hj] at hq
    by_cases e : i = i' ∧ j = j'
    · rw [if_pos e] at hq
      injection hq with hq
      exact absurd hq.symm hne
    · rw [if_neg e] at hq
      obtain ⟨hi', hj'⟩ := cellq_lt hs hq
      obtain ⟨k1, p', k2, k3, k4⟩ := h2.hit i' j' q hq hne
      have hk := klit_ne hR hC hi hj (natI64 hi' hR) (natI64 hj' hC) (fun e' => e ⟨by omega, by omega⟩)
      exact ⟨by rw [Maps.has_del_other hk]; exact k1, p', fun z => by rw [Maps.atKey_del_other hk]; exact k2 z, k3, hm.offE k4 h4⟩
  · by_cases e : (i : Int) = x ∧ (j : Int) = y
    · obtain ⟨rfl, rfl⟩ := e
      exact Maps.has_del_same
    · rw [Maps.has_del_other (klit_ne hR hC hi hj hx hy e)]
      refine h2.miss x y hx hy fun i' j' q e1 e2 hq => hm' i' j' q e1 e2 ?_
      rw [cellq_setq hs hi hj, if_neg (fun e' => e ⟨by omega, by omega⟩)]
      exact hq
  · have h6 := Maps.size_del (k := klit i j) hT
    rw [hhas, h2.cnt] at h6
    have h5 := cntT_setq hq0 0
    rw [oneq_zero] at h5
    by_cases e : q0 = 0
    · subst e; rw [oneq_zero] at h5; simp at h6; omega
    · rw [oneq_pos e] at h5; simp [e] at h6; omega
/-- 'len(m)'. -/
theorem MapQ.len {w : World} {b : Nat} {T : List (List Rat)} (h : MapQ w b T) (ty : TypeId) : (Builtin.len_ #[48] ty #[.map (some b)]).run Try.prog w = .ok (.int .i64 (cntT T : Int)) w := by
  obtain ⟨D, h1, h2⟩ := h
  rw [← h2.cnt]
  exact h1.len Try.underlying48 ty
end Go.Proofs.Ytpcdkepkipadaaa.rat
namespace Go.Proofs.Ytpcdkepkipadaaa.num
set_option linter.unusedVariables false
/-- The odd part. -/
def odp (x : Nat) : Nat := x / 2 ^ tz x
theorem tz_split {x : Nat} (h : 0 < x) : x = 2 ^ tz x * odp x ∧ odp x % 2 = 1 := by
  induction x using Nat.strongRecOn with
  | ind x ih =>
    by_cases h1 : x % 2 = 1
    · unfold odp; rw [tz_odd h1]; simp [h1]
    · have h2 : x % 2 = 0 := by omega
      obtain ⟨e, o⟩ := ih (x / 2) (by omega) (by omega)
      have e2 : odp x = odp (x / 2) := by
        unfold odp
        rw [tz_even (by omega) h2, Nat.pow_succ, Nat.mul_comm, ← Nat.div_div_eq_div_mul]
      refine ⟨?_, by rw [e2]; exact o⟩
      rw [e2, tz_even (by omega) h2, Nat.pow_succ, Nat.mul_right_comm, ← e]
      omega
theorem odp_pos {x : Nat} (h : 0 < x) : 0 < odp x := by have := (tz_split h).2; omega
theorem odp_le (x : Nat) : odp x ≤ x := Nat.div_le_self _ _
theorem odp_half {x : Nat} (h : 0 < x) (h2 : x % 2 = 0) : 2 * odp x ≤ x := by
  obtain ⟨e, o⟩ := tz_split h
  have ht : tz x = (tz x - 1) + 1 := by rw [tz_even (by omega) h2]; omega
  rw [ht, Nat.pow_succ] at e
  have := Nat.pow_pos (n := tz x - 1) (show 0 < 2 by omega)
  have h3 : 1 * (2 * odp x) ≤ 2 ^ (tz x - 1) * (2 * odp x) := Nat.mul_le_mul_right _ this
  rw [← Nat.mul_assoc] at h3
  rw [← Nat.mul_assoc, Nat.one_mul] at h3
  omega
theorem cop2 {o : Nat} (h : o % 2 = 1) (k : Nat) : Nat.Coprime (2 ^ k) o := by
  refine Nat.Coprime.pow_left k ?_
  show Nat.gcd 2 o = 1
  rw [Nat.gcd_rec, h]; rfl
/-- Of an odd number, twos in the other one count for nothing. -/
theorem gcd_odp {x y : Nat} (hx : 0 < x) (hy : y % 2 = 1) : Nat.gcd (odp x) y = Nat.gcd x y := by
  have e := (tz_split hx).1
  have h := Nat.Coprime.gcd_mul_left_cancel (odp x) (cop2 hy (tz x))
  rw [← e] at h
  exact h.symm
theorem gcd_two (i j p q : Nat) (hp : p % 2 = 1) (hij : i ≤ j) : Nat.gcd (2 ^ i * p) (2 ^ j * q) = 2 ^ i * Nat.gcd p q := by
  have e : 2 ^ j * q = 2 ^ i * (2 ^ (j - i) * q) := by rw [← Nat.mul_assoc, ← Nat.pow_add]; congr 2; omega
  rw [e, Nat.gcd_mul_left, Nat.gcd_comm p, Nat.Coprime.gcd_mul_left_cancel q (cop2 hp (j - i)), Nat.gcd_comm]
theorem gcd_parts {x y : Nat} (hx : 0 < x) (hy : 0 < y) : Nat.gcd x y = Nat.gcd (odp x) (odp y) * 2 ^ min (tz x) (tz y) := by
  obtain ⟨e1, o1⟩ := tz_split hx
  obtain ⟨e2, o2⟩ := tz_split hy
  rw [Nat.mul_comm]
  rcases Nat.le_total (tz x) (tz y) with h | h
  · rw [Nat.min_eq_left h]
    conv => lhs; rw [e1, e2]
    exact gcd_two _ _ _ _ o1 h
  · rw [Nat.min_eq_right h, Nat.gcd_comm x y, Nat.gcd_comm (odp x)]
    conv => lhs; rw [e1, e2]
    exact gcd_two _ _ _ _ o2 h
/-- What the loop of halving and taking off keeps. -/
def BG (g x y : Nat) : Prop := x % 2 = 1 ∧ y % 2 = 1 ∧ Nat.gcd x y = g
theorem BG.swap {g x y : Nat} (h : BG g x y) : BG g y x := ⟨h.2.1, h.1, by rw [Nat.gcd_comm]; exact h.2.2⟩
theorem BG.step {g x y : Nat} (h : BG g x y) (hlt : y < x) : BG g (odp (x - y)) y ∧ 0 < x - y ∧ odp (x - y) + y < x + y := by
  obtain ⟨h1, h2, h3⟩ := h
  have h0 : 0 < x - y := by omega
  refine ⟨⟨(tz_split h0).2, h2, ?_⟩, h0, ?_⟩
  · rw [gcd_odp h0 h2, Nat.gcd_sub_self_left (by omega), h3]
  · have := odp_half h0 (by omega)
    omega
theorem BG.done {g x : Nat} (h : BG g x x) : g = x := by rw [← h.2.2, Nat.gcd_self]
theorem BG.start {x y : Nat} (hx : 0 < x) (hy : 0 < y) : BG (Nat.gcd (odp x) (odp y)) (odp x) (odp y) := ⟨(tz_split hx).2, (tz_split hy).2, rfl⟩
/-- The greatest common divisor of many. -/
def gcds (l : List Nat) : Nat := l.foldl Nat.gcd 0
theorem gcds_snoc (l : List Nat) (x : Nat) : gcds (l ++ [x]) = Nat.gcd (gcds l) x := by simp [gcds]
theorem tz_pow_le {x : Nat} (h : 0 < x) : 2 ^ tz x ≤ x := by
  have e := (tz_split h).1
  have h2 := odp_pos h
  have h3 : 2 ^ tz x * 1 ≤ 2 ^ tz x * odp x := Nat.mul_le_mul_left _ h2
  omega
theorem odp_limbs (x : Nat) : x / 4294967296 ^ (tz x / 32) / 2 ^ (tz x % 32) = odp x := by
  have e : (4294967296 : Nat) = 2 ^ 32 := by decide
  unfold odp
  rw [Nat.div_div_eq_div_mul, e, ← Nat.pow_mul, ← Nat.pow_add]
  congr 2; omega
theorem tz_limb {x : Nat} (h : 0 < x) : tz x / 32 < (digs 4294967296 x).length := by
  have h1 := tz_pow_le h
  have h2 := digs_lt_pow (B := 4294967296) (by omega) x
  have e : (4294967296 : Nat) = 2 ^ 32 := by decide
  rw [e, ← Nat.pow_mul] at h2
  have h3 : 2 ^ tz x < 2 ^ (32 * (digs 4294967296 x).length) := by rw [← e] at h2; exact Nat.lt_of_le_of_lt h1 h2
  have h4 := (Nat.pow_lt_pow_iff_right (show 1 < 2 by omega)).1 h3
  omega
end Go.Proofs.Ytpcdkepkipadaaa.num
namespace Go.Proofs.Ytpcdkepkipadaaa.nat
open Go.RowKit Go.Proofs.Ytpcdkepkipadaaa.num Go.Proofs.Ytpcdkepkipadaaa.mem Go.Proofs.Ytpcdkepkipadaaa.limb
set_option linter.unusedVariables false
theorem dlen0 {B x : Nat} (hB : 2 ≤ B) (h : x = 0) : (digs B x).length ≤ 0 := by rw [h, digs_zero]; simp
theorem dlenp {B x : Nat} (hB : 2 ≤ B) (h : 0 < x) : 0 < (digs B x).length := by
  rcases Nat.eq_zero_or_pos (digs B x).length with h0 | h0
  · have := (digs_len0 hB).1 h0; omega
  · exact h0
set_option maxHeartbeats 400000 in
theorem gown_any (v : Value) (x : Nat) (w : World) (h : IsS w .u64 v (digs 4294967296 x)) (hl : (digs 4294967296 x).length ≤ 90000) :
    Calls Try.prog 53 #[v] w (RetS .u64 (digs 4294967296 x) w) := by
  go_enter Try.func53, Try.ntmps53
  go_wp2_with fail
  refine (small_any _ x _ _ 1 0 _ h (by omega) rfl rfl (by omega) (by omega) x (by omega)).mono ?_
  rintro e w1 ⟨v1, rfl, k1, f1, b1⟩
  go_wp2
  go_ret
  exact ⟨_, rfl, k1, f1, b1⟩
/-- Noughts below a number. -/
theorem digs_up {B : Nat} (hB : 2 ≤ B) (q : Nat) {y : Nat} (hy : 0 < y) : digs B (B ^ q * y) = List.replicate q 0 ++ digs B y := by
  induction q with
  | zero => simp
  | succ q ih =>
    have hp : 0 < B ^ q * y := Nat.mul_pos (Nat.pow_pos (by omega)) hy
    have e : B ^ (q + 1) * y = B * (B ^ q * y) := by rw [Nat.pow_succ, Nat.mul_comm (B ^ q) B, Nat.mul_assoc]
    rw [e, digs_pos hB (Nat.mul_pos (by omega) hp), Nat.mul_mod_right, Nat.mul_div_cancel_left _ (by omega), ih, List.replicate_succ, List.cons_append]
set_option maxHeartbeats 800000 in
theorem godd_any (v : Value) (x : Nat) (w : World) (h : IsS w .u64 v (digs 4294967296 x)) (hl : (digs 4294967296 x).length ≤ 90000) (hx : 0 < x) (y : Nat) (hy : y = odp x) :
    Calls Try.prog 55 #[v] w (RetS .u64 (digs 4294967296 y) w) := by
  obtain ⟨t, ht⟩ : ∃ t, t = tz x := ⟨_, rfl⟩
  have hgl : t / 32 < (digs 4294967296 x).length := by rw [ht]; exact tz_limb hx
  have HT := Lib.hid ht
  have HY : Hid (y = x / 4294967296 ^ (t / 32) / 2 ^ (t % 32)) := by show _ = _; rw [hy, ht, odp_limbs]
  have HD : Hid ((digs 4294967296 x).drop (t / 32) = digs 4294967296 (x / 4294967296 ^ (t / 32))) := drop_div (n := t / 32) (by omega)
  have hdl := digs_len_mono (B := 4294967296) (by omega) (Nat.div_le_self x (4294967296 ^ (t / 32)))
  clear ht hy
  obtain ⟨A, c, rfl, hc, hm, hr⟩ := id h
  have hm2 := hm
  unfold maxLen at hm2
  have hs : IsS w .u64 (.slice (A.map fun x => x.add (t / 32)) ((digs 4294967296 x).length - t / 32) (c - t / 32)) (digs 4294967296 (x / 4294967296 ^ (t / 32))) := by rw [← HD.out]; exact hr.isDrop hc hm (by omega)
  have hcap : t / 32 < c := by omega
  go_enter Try.func55, Try.ntmps55
  go_wp2_with fail
  refine (zeros_any _ x t _ h (by omega) HT.out).mono ?_
  rintro e w1 ⟨rfl, rfl⟩
  go_wp2_with fail
  all_goals
    refine (shr_ok _ (x / 4294967296 ^ (t / 32)) _ (t % 32) _ (by omega) (by first | exact hs | skip) (by omega) (by omega) y HY.out).mono ?_
    rintro e w1 ⟨v1, rfl, k1, f1, b1⟩
    go_wp2
    go_ret
    exact ⟨_, rfl, k1, f1, b1⟩
set_option maxHeartbeats 800000 in
theorem gdoubled_any (v : Value) (x : Nat) (nI : Int) (n : Nat) (w : World) (hnI : nI = (n : Int)) (h : IsS w .u64 v (digs 4294967296 x)) (hl : (digs 4294967296 x).length ≤ 90000) (hx : 0 < x) (hn : n ≤ 3000000) (y : Nat) (hy : y = x * 2 ^ n) :
    Calls Try.prog 57 #[v, .int .i64 nI] w (RetS .u64 (digs 4294967296 y) w) := by
  subst hnI
  have hz : 0 < x * 2 ^ (n % 32) := Nat.mul_pos hx (Nat.pow_pos (by omega))
  have hzl := up_len (x := x) (u := n % 32) (by omega)
  have HE : Hid (digs 4294967296 y = List.replicate (n / 32) 0 ++ digs 4294967296 (x * 2 ^ (n % 32))) := by
    show _ = _
    rw [← digs_up (by omega) _ hz, hy, pow32, Nat.mul_left_comm, ← Nat.pow_add]
    congr 3; omega
  clear hy
  go_enter Try.func57, Try.ntmps57
  go_wp2_with fail
  refine (shl_ok _ x _ (n % 32) _ (by omega) h (by omega) (by omega) _ rfl).mono ?_
  rintro e w1 ⟨v1, rfl, k1, f1, b1⟩
  obtain ⟨A1, c1, rfl, hc1, hm1, hr1⟩ := k1
  go_wp2_with (first
    | (at_make; refine wpList_make_rd rfl _ _ rfl sl24 (n / 32) rfl rfl (by omega) (by omega) (by omega) (Nat.le_refl _) ?_; intro w2 hown2 hb2 hz2)
    | (at_builtin; refine wpList_append_rd rfl (.tmp 16) (.tmp 17) rfl sl24 rfl hown2 rfl (news := digs 4294967296 (x * 2 ^ (n % 32))) rfl (hr1.below hb2) (by simp; omega) hb2.size ?_; intro v' w3 hown3 hb3 hg3))
  go_ret
  exact ⟨_, rfl, by rw [HE.out]; exact hown3.isS, hown3.fresh.mono b1.size, (b1.trans (hb2.mono b1.size)).trans (hb3.mono b1.size)⟩
theorem limb_bits {x n : Nat} (h : (digs 4294967296 x).length ≤ n) : x < 2 ^ (32 * n) := by
  have h2 := digs_lt_pow (B := 4294967296) (by omega) x
  rw [pow32] at h2
  exact Nat.lt_of_lt_of_le h2 (Nat.pow_le_pow_right (by omega) (by omega))
theorem tz_le {x n : Nat} (hx : 0 < x) (h : (digs 4294967296 x).length ≤ n) : tz x ≤ 32 * n := by
  have h1 := Nat.lt_of_le_of_lt (tz_pow_le hx) (limb_bits h)
  have := (Nat.pow_lt_pow_iff_right (show 1 < 2 by omega)).1 h1
  omega
theorem odp_len (x : Nat) : (digs 4294967296 (odp x)).length ≤ (digs 4294967296 x).length := digs_len_mono (by omega) (odp_le x)
theorem sub_len (x y : Nat) : (digs 4294967296 (x - y)).length ≤ (digs 4294967296 x).length := digs_len_mono (by omega) (Nat.sub_le _ _)
set_option maxHeartbeats 1600000 in
theorem binary_any (v u : Value) (x y : Nat) (w : World) (h : IsS w .u64 v (digs 4294967296 x)) (h' : IsS w .u64 u (digs 4294967296 y)) (hl : (digs 4294967296 x).length ≤ 90000) (hl' : (digs 4294967296 y).length ≤ 90000) (z : Nat) (hz : z = Nat.gcd x y) :
    Calls Try.prog 45 #[v, u] w (RetS .u64 (digs 4294967296 z) w) := by
  have HZ := Lib.hid hz
  clear hz
  by_cases hx0 : x = 0
  · have hzl := dlen0 (B := 4294967296) (by omega) hx0
    have HE : Hid (z = y) := by show _ = _; rw [HZ.out, hx0, Nat.gcd_zero_left]
    clear hx0
    go_enter Try.func45, Try.ntmps45
    go_wp2_with fail
    refine (gown_any _ x _ h hl).mono ?_
    rintro e w1 ⟨v1, rfl, k1, f1, b1⟩
    go_wp2_with fail
    refine (gown_any _ y _ (h'.below b1) hl').mono ?_
    rintro e w2 ⟨v2, rfl, k2, f2, b2⟩
    obtain ⟨A1, c1, rfl, _⟩ := id k1
    go_wp2
    go_ret
    exact ⟨_, rfl, by rw [HE.out]; exact k2, f2.mono b1.size, b1.trans (b2.mono b1.size)⟩
  · have hxp : 0 < x := by omega
    have hxl := dlenp (B := 4294967296) (by omega) hxp
    have hxl2 : (((digs 4294967296 x).length : Int) == 0) = false := by rw [beq_eq_false_iff_ne]; omega
    clear hx0
    by_cases hy0 : y = 0
    · have hzl := dlen0 (B := 4294967296) (by omega) hy0
      have HE : Hid (z = x) := by show _ = _; rw [HZ.out, hy0, Nat.gcd_zero_right]
      clear hy0
      go_enter Try.func45, Try.ntmps45
      go_wp2_with fail
      refine (gown_any _ x _ h hl).mono ?_
      rintro e w1 ⟨v1, rfl, k1, f1, b1⟩
      go_wp2_with fail
      refine (gown_any _ y _ (h'.below b1) hl').mono ?_
      rintro e w2 ⟨v2, rfl, k2, f2, b2⟩
      obtain ⟨A1, c1, rfl, _⟩ := id k1
      obtain ⟨A2, c2, rfl, _⟩ := id k2
      go_wp2
      go_ret
      exact ⟨_, rfl, by rw [HE.out]; exact k1.below b2, f1, b1.trans (b2.mono b1.size)⟩
    · have hyp : 0 < y := by omega
      have hyl := dlenp (B := 4294967296) (by omega) hyp
      have hyl2 : (((digs 4294967296 y).length : Int) == 0) = false := by rw [beq_eq_false_iff_ne]; omega
      clear hy0
      obtain ⟨t, ht⟩ : ∃ t, t = tz x := ⟨_, rfl⟩
      obtain ⟨s, hs⟩ : ∃ s, s = tz y := ⟨_, rfl⟩
      have htl := tz_le hxp hl
      have hsl := tz_le hyp hl'
      rw [← ht] at htl
      rw [← hs] at hsl
      obtain ⟨g, hg⟩ : ∃ g, g = Nat.gcd (odp x) (odp y) := ⟨_, rfl⟩
      have HG : Hid (z = g * 2 ^ min t s) := by show _ = _; rw [HZ.out, gcd_parts hxp hyp, hg, ht, hs]
      obtain ⟨p0, hp0⟩ : ∃ p, p = odp x := ⟨_, rfl⟩
      obtain ⟨q0, hq0⟩ : ∃ q, q = odp y := ⟨_, rfl⟩
      have hpl := odp_len x
      have hql := odp_len y
      have HB : Hid (BG g p0 q0) := by show BG _ _ _; rw [hg, hp0, hq0]; exact BG.start hxp hyp
      rw [← hp0] at hpl
      rw [← hq0] at hql
      have HT := Lib.hid ht
      have HS := Lib.hid hs
      have HP := Lib.hid hp0
      have HQ := Lib.hid hq0
      rcases (show (s < t ∧ min t s = s) ∨ (¬ s < t ∧ min t s = t) from by omega) with ⟨hst, hm⟩ | ⟨hst, hm⟩
      all_goals
        rw [hm] at HG
        clear ht hs hg hp0 hq0 HZ hm
        go_enter Try.func45, Try.ntmps45
        go_wp2_with fail
        refine (gown_any _ x _ h hl).mono ?_
        rintro e w1 ⟨v1, rfl, k1, f1, b1⟩
        go_wp2_with fail
        refine (gown_any _ y _ (h'.below b1) hl').mono ?_
        rintro e w2 ⟨v2, rfl, k2, f2, b2⟩
        replace k1 := k1.below b2
        have b3 := b1.trans (b2.mono b1.size)
        obtain ⟨A1, c1, rfl, _⟩ := id k1
        obtain ⟨A2, c2, rfl, _⟩ := id k2
        clear h h' b1 b2 f1 f2
        go_wp2_with fail
        refine (zeros_any _ x t _ k1 (by omega) HT.out).mono ?_
        rintro e w3 ⟨rfl, rfl⟩
        go_wp2_with fail
        refine (zeros_any _ y s _ k2 (by omega) HS.out).mono ?_
        rintro e w3 ⟨rfl, rfl⟩
        go_wp2_with fail
        refine (godd_any _ x _ k1 hl hxp p0 HP.out).mono ?_
        rintro e w3 ⟨v3, rfl, k3, f3, b4⟩
        have b5 := b3.trans (b4.mono b3.size)
        go_wp2_with fail
        refine (godd_any _ y _ (k2.below b4) hl' hyp q0 HQ.out).mono ?_
        rintro e w4 ⟨v4, rfl, k4, f4, b6⟩
        have b7 := b5.trans (b6.mono b5.size)
        replace k3 := k3.below b6
        clear k1 k2 b3 b4 b5 b6 f3 f4
        go_wp2_with fail
        refine (cmp_any _ _ p0 q0 (ord p0 q0) _ k3 k4 rfl).mono ?_
        rintro e w5 ⟨rfl, b8⟩
        have b9 := b7.trans (b8.mono b7.size)
        replace k3 := k3.below b8
        replace k4 := k4.below b8
        clear b7 b8
        go_wp2
        go_loopg [0, 1, 6] (p0 + q0) (fun gk va vb vo wr => ∃ (p q : Nat) (o : Int), p + q ≤ gk ∧ IsS wr .u64 va (digs 4294967296 p) ∧ IsS wr .u64 vb (digs 4294967296 q) ∧ (digs 4294967296 p).length ≤ 90000 ∧ (digs 4294967296 q).length ≤ 90000 ∧ Hid (BG g p q) ∧ Hid (o = ord p q) ∧ vo = .int .i64 o ∧ Below w.heap.size w wr)
        case atStart => exact ⟨p0, q0, _, Nat.le_refl _, k3, k4, by omega, by omega, HB, rfl, rfl, b9⟩
        case round =>
          clear k3 k4 b9
          obtain ⟨p, q, o, hpq, kp, kq, lp, lq, HBG, HO, rfl, hb⟩ := hrel
          rcases Nat.lt_trichotomy p q with hlt | heq | hlt
          · obtain rfl : o = -1 := by rw [HO.out]; exact ord_lt hlt
            clear HO
            obtain ⟨hs1, hs2, hs3⟩ := HBG.out.swap.step hlt
            have HS1 := Lib.hid hs1
            have hs4 := sub_len q p
            have hs5 := odp_len (q - p)
            clear hs1
            go_wp2_with fail
            refine (sub_ok _ _ q p _ kq kp (by omega) (by omega) (q - p) rfl).mono ?_
            rintro e w5 ⟨v5, rfl, k5, f5, b5⟩
            go_wp2_with fail
            refine (godd_any _ (q - p) _ k5 (by omega) hs2 (odp (q - p)) rfl).mono ?_
            rintro e w6 ⟨v6, rfl, k6, f6, b6⟩
            have kp2 := (kp.below b5).below b6
            have b7 := (hb.trans (b5.mono hb.size))
            have b8 := b7.trans (b6.mono b7.size)
            go_wp2_with fail
            refine (cmp_any _ _ (odp (q - p)) p (ord (odp (q - p)) p) _ k6 kp2 rfl).mono ?_
            rintro e w7 ⟨rfl, b9⟩
            have b10 := b8.trans (b9.mono b8.size)
            go_wp2
            go_roundg (odp (q - p) + p)
            case rel => exact ⟨odp (q - p), p, _, Nat.le_refl _, k6.below b9, kp2.below b9, by omega, by omega, HS1, rfl, rfl, b10⟩
            case measure => omega
          · obtain rfl : o = 0 := by rw [HO.out, heq]; exact ord_eq q
            subst heq
            have HZ := (fun m (hh : Hid (z = g * 2 ^ m)) => (show Hid (z = p * 2 ^ m) from by show _ = _; rw [hh.out, HBG.out.done])) _ HG
            have hpos : 0 < p := by have := HBG.out.1; omega
            clear HO
            go_wp2_with fail
            refine (gdoubled_any _ p _ _ _ rfl kp (by omega) hpos (by omega) z HZ.out).mono ?_
            rintro e w5 ⟨v5, rfl, k5, f5, b5⟩
            go_wp2
            go_ret
            exact ⟨_, rfl, k5, f5.mono hb.size, hb.trans (b5.mono hb.size)⟩
          · obtain rfl : o = 1 := by rw [HO.out]; exact ord_gt hlt
            clear HO
            obtain ⟨hs1, hs2, hs3⟩ := HBG.out.step hlt
            have HS1 := Lib.hid hs1
            have hs4 := sub_len p q
            have hs5 := odp_len (p - q)
            clear hs1
            go_wp2_with fail
            refine (sub_ok _ _ p q _ kp kq (by omega) (by omega) (p - q) rfl).mono ?_
            rintro e w5 ⟨v5, rfl, k5, f5, b5⟩
            go_wp2_with fail
            refine (godd_any _ (p - q) _ k5 (by omega) hs2 (odp (p - q)) rfl).mono ?_
            rintro e w6 ⟨v6, rfl, k6, f6, b6⟩
            have kq2 := (kq.below b5).below b6
            have b7 := (hb.trans (b5.mono hb.size))
            have b8 := b7.trans (b6.mono b7.size)
            go_wp2_with fail
            refine (cmp_any _ _ (odp (p - q)) q (ord (odp (p - q)) q) _ k6 kq2 rfl).mono ?_
            rintro e w7 ⟨rfl, b9⟩
            have b10 := b8.trans (b9.mono b8.size)
            go_wp2
            go_roundg (odp (p - q) + q)
            case rel => exact ⟨odp (p - q), q, _, Nat.le_refl _, k6.below b9, kq2.below b9, by omega, by omega, HS1, rfl, rfl, b10⟩
            case measure => omega
theorem gcd_len {x y n : Nat} (hx : (digs 4294967296 x).length ≤ n) (hy : (digs 4294967296 y).length ≤ n) : (digs 4294967296 (Nat.gcd x y)).length ≤ n := by
  rcases Nat.eq_zero_or_pos x with h | h
  · rw [h, Nat.gcd_zero_left]; exact hy
  · exact Nat.le_trans (digs_len_mono (by omega) (Nat.gcd_le_left y h)) hx
/-- Each of them has so many limbs at most. -/
def Lens (n : Nat) (xs : List Nat) : Prop := ∀ x ∈ xs, (digs 4294967296 x).length ≤ n
theorem Lens.at {n : Nat} {xs : List Nat} (h : Lens n xs) {k x : Nat} (hk : xs[k]? = some x) : (digs 4294967296 x).length ≤ n := h x (List.mem_of_getElem? hk)
theorem Lens.snoc {n : Nat} {xs : List Nat} (h : Lens n xs) {x : Nat} (hx : (digs 4294967296 x).length ≤ n) : Lens n (xs ++ [x]) := by
  intro y hy
  rcases List.mem_append.1 hy with hy | hy
  · exact h y hy
  · rw [List.mem_singleton.1 hy]; exact hx
theorem gcds_step {xs : List Nat} {k x : Nat} (h : xs[k]? = some x) : gcds (xs.take (k + 1)) = Nat.gcd (gcds (xs.take k)) x := by rw [take_step h, gcds_snoc]
set_option maxHeartbeats 1600000 in
theorem ggcd_any (V : Value) (vs : List Value) (xs : List Nat) (w : World) (hV : IsV w V vs) (hN : Nums w vs xs) (hl : vs.length ≤ 1000000) (hS : Lens 90000 xs) :
    Calls Try.prog 33 #[V] w (RetS .u64 (digs 4294967296 (gcds xs)) w) := by
  obtain ⟨A, c, rfl, hc, hcells⟩ := hV
  have HC := Lib.hid hcells
  have HN := Lib.hid hN
  have HX : Hid (vs.length = xs.length) := hN.1
  have HS := Lib.hid hS
  clear hcells hN hS
  go_enter Try.func33, Try.ntmps33
  go_wp2
  go_loopw [3, 9] (fun vg vi wr => ∃ (k G : Nat), k ≤ vs.length ∧ Hid (G = gcds (xs.take k)) ∧ (digs 4294967296 G).length ≤ 90000 ∧ IsS wr .u64 vg (digs 4294967296 G) ∧ Fresh w.heap.size vg ∧ Below w.heap.size w wr ∧ vi = .int .i64 (k : Int)) (fun _ vi _ => vs.length - (intOf vi).toNat)
  case atStart => exact ⟨0, 0, by omega, rfl, by rw [digs_zero]; simp, by rw [digs_zero]; exact (own_lit0 w w.heap.size _ .u64 (Nat.le_refl _)).isS, fresh_at (Nat.le_refl _), below_alloc (Nat.le_refl _) _, rfl⟩
  case round =>
    obtain ⟨k, G, hk, HG, lG, kG, fG, hb, rfl⟩ := hrel
    by_cases hp : k < vs.length
    · obtain ⟨u, x, hu, hx, hv⟩ := HN.out.at_ hp
      obtain ⟨ad, rfl, hcell⟩ := HC.out k u hu
      have hcell2 := (hb.cell (World.block_lt_of_cell? w _ hcell)).trans hcell
      have lx := HS.out.at hx
      have hv2 := hv.below hb
      have hlz : (digs 4294967296 (Nat.gcd G x)).length ≤ 90000 := gcd_len lG lx
      obtain ⟨z, hz⟩ : ∃ z, z = Nat.gcd G x := ⟨_, rfl⟩
      rw [← hz] at hlz
      have HT : Hid (z = gcds (xs.take (k + 1))) := by show _ = _; rw [gcds_step hx, ← HG.out]; exact hz
      obtain ⟨t, ht⟩ : ∃ t, t = ord x G := ⟨_, rfl⟩
      have HO := Lib.hid ht
      have HZ := Lib.hid hz
      obtain ⟨A1, c1, rfl, _⟩ := id hv2
      obtain ⟨A2, c2, rfl, _⟩ := id kG
      clear hu hx hv hcell hz
      by_cases hlt : x < G
      · have ht0 : t < 0 := by rw [ht]; exact ord_lt0.2 hlt
        clear ht
        rcases Nat.eq_zero_or_pos x with hx0 | hx0
        · have hzl := dlen0 (B := 4294967296) (by omega) hx0
          clear hx0
          go_wp2_with fail
          refine (cmp_any _ _ x G t _ hv2 kG HO.out).mono ?_
          rintro e w1 ⟨rfl, b1⟩
          go_wp2_with fail
          refine (binary_any _ _ G x _ (kG.below b1) (hv2.below b1) lG lx z HZ.out).mono ?_
          rintro e w2 ⟨v2, rfl, k2, f2, b2⟩
          have b3 := hb.trans (b1.mono hb.size)
          have b4 := b3.trans (b2.mono b3.size)
          go_wp2
          go_roundw
          case rel => exact ⟨k + 1, z, by omega, HT, hlz, k2, f2.mono b3.size, b4, by go_num⟩
          case measure => simp [intOf]; omega
        · have hzl := dlenp (B := 4294967296) (by omega) hx0
          have hml := mod_len' (x := G) (y := x) hx0
          have HZ2 : Hid (z = Nat.gcd (G % x) x) := by show _ = _; rw [HZ.out, Nat.gcd_comm G x, Nat.gcd_rec]
          go_wp2_with fail
          refine (cmp_any _ _ x G t _ hv2 kG HO.out).mono ?_
          rintro e w1 ⟨rfl, b1⟩
          have b3 := hb.trans (b1.mono hb.size)
          replace hv2 := hv2.below b1
          replace kG := kG.below b1
          go_wp2_with fail
          refine (dmod_ok _ _ G x _ kG hv2 lG lx hx0 (G % x) rfl).mono ?_
          rintro e w2 ⟨v2, rfl, k2, f2, b2⟩
          have b4 := b3.trans (b2.mono b3.size)
          go_wp2_with fail
          refine (binary_any _ _ (G % x) x _ k2 (hv2.below b2) (by omega) lx z HZ2.out).mono ?_
          rintro e w3 ⟨v3, rfl, k3, f3, b5⟩
          have b6 := b4.trans (b5.mono b4.size)
          go_wp2
          go_roundw
          case rel => exact ⟨k + 1, z, by omega, HT, hlz, k3, f3.mono b4.size, b6, by go_num⟩
          case measure => simp [intOf]; omega
      · have ht0 : ¬ t < 0 := by rw [ht, ord_lt0]; exact hlt
        clear ht
        rcases Nat.eq_zero_or_pos G with hx0 | hx0
        · have hzl := dlen0 (B := 4294967296) (by omega) hx0
          have HZ2 : Hid (z = Nat.gcd x G) := by show _ = _; rw [HZ.out, Nat.gcd_comm]
          clear hx0
          go_wp2_with fail
          refine (cmp_any _ _ x G t _ hv2 kG HO.out).mono ?_
          rintro e w1 ⟨rfl, b1⟩
          go_wp2_with fail
          refine (binary_any _ _ x G _ (hv2.below b1) (kG.below b1) lx lG z HZ2.out).mono ?_
          rintro e w2 ⟨v2, rfl, k2, f2, b2⟩
          have b3 := hb.trans (b1.mono hb.size)
          have b4 := b3.trans (b2.mono b3.size)
          go_wp2
          go_roundw
          case rel => exact ⟨k + 1, z, by omega, HT, hlz, k2, f2.mono b3.size, b4, by go_num⟩
          case measure => simp [intOf]; omega
        · have hzl := dlenp (B := 4294967296) (by omega) hx0
          have hml := mod_len' (x := x) (y := G) hx0
          have HZ2 : Hid (z = Nat.gcd (x % G) G) := by show _ = _; rw [HZ.out, Nat.gcd_rec]
          go_wp2_with fail
          refine (cmp_any _ _ x G t _ hv2 kG HO.out).mono ?_
          rintro e w1 ⟨rfl, b1⟩
          have b3 := hb.trans (b1.mono hb.size)
          replace hv2 := hv2.below b1
          replace kG := kG.below b1
          go_wp2_with fail
          refine (dmod_ok _ _ x G _ hv2 kG lx lG hx0 (x % G) rfl).mono ?_
          rintro e w2 ⟨v2, rfl, k2, f2, b2⟩
          have b4 := b3.trans (b2.mono b3.size)
          go_wp2_with fail
          refine (binary_any _ _ (x % G) G _ k2 (kG.below b2) (by omega) lG z HZ2.out).mono ?_
          rintro e w3 ⟨v3, rfl, k3, f3, b5⟩
          have b6 := b4.trans (b5.mono b4.size)
          go_wp2
          go_roundw
          case rel => exact ⟨k + 1, z, by omega, HT, hlz, k3, f3.mono b4.size, b6, by go_num⟩
          case measure => simp [intOf]; omega
    · have HE : Hid (G = gcds xs) := by have h1 := HG.out; rw [List.take_of_length_le (by have := HX.out; omega)] at h1; exact h1
      go_wp2
      go_ret
      exact ⟨_, rfl, by rw [← HE.out]; exact kG, fG, hb⟩
end Go.Proofs.Ytpcdkepkipadaaa.nat
namespace Go.Proofs.Ytpcdkepkipadaaa.rat
open Go.RowKit Go.Proofs.Ytpcdkepkipadaaa.num Go.Proofs.Ytpcdkepkipadaaa.mem Go.Proofs.Ytpcdkepkipadaaa.nat Go.Proofs.Ytpcdkepkipadaaa.txt Go.Proofs.Ytpcdkepkipadaaa.str Go.Proofs.Ytpcdkepkipadaaa.flow Go.Proofs.Ytpcdkepkipadaaa.whl
set_option linter.unusedVariables false
theorem IsQ.drew {w : World} {v : Value} {q : Rat} (h : IsQ w v q) : IsQ w.drew v q := by
  obtain ⟨u, t, e, h1, h2⟩ := h
  exact ⟨u, t, e, h1.drew, h2.drew⟩
theorem IsP.drew {w : World} {v : Value} {q : Rat} (h : IsP w v q) : IsP w.drew v q := by
  obtain ⟨u, t, e, h1, h2⟩ := h
  exact ⟨u, t, e, h1.drew, h2.drew⟩
end Go.Proofs.Ytpcdkepkipadaaa.rat
namespace Go.Proofs.Ytpcdkepkipadaaa.rat
open Go.RowKit Go.Proofs.Ytpcdkepkipadaaa.num Go.Proofs.Ytpcdkepkipadaaa.mem Go.Proofs.Ytpcdkepkipadaaa.nat Go.Proofs.Ytpcdkepkipadaaa.flow
set_option linter.unusedVariables false
theorem IsS.cut {w : World} {k : IntKind} {A : Option Addr} {c : Nat} {l : List Nat} (h : IsS w k (.slice A l.length c) l) (m : Nat) : IsS w k (.slice A (min l.length m) c) (l.take m) := by
  obtain ⟨A', c', e, h1, h2, h3⟩ := h
  injection e with e1 e2 e3
  subst e1; subst e3
  refine ⟨A, c, by rw [List.length_take, Nat.min_comm], by rw [List.length_take]; omega, h2, fun i d hd => ?_⟩
  rw [List.getElem?_take] at hd
  split at hd
  · exact h3 i d hd
  · cases hd
end Go.Proofs.Ytpcdkepkipadaaa.rat
namespace Go.Proofs.Ytpcdkepkipadaaa.rat
open Go.RowKit Go.Proofs.Ytpcdkepkipadaaa.num Go.Proofs.Ytpcdkepkipadaaa.mem Go.Proofs.Ytpcdkepkipadaaa.nat Go.Proofs.Ytpcdkepkipadaaa.txt Go.Proofs.Ytpcdkepkipadaaa.str Go.Proofs.Ytpcdkepkipadaaa.flow Go.Proofs.Ytpcdkepkipadaaa.whl
set_option linter.unusedVariables false
theorem mk_num_eq (z : Int) {d : Nat} (hd : d ≠ 0) : (mkRat z d).num = z / ((z.natAbs.gcd d : Nat) : Int) := by
  rw [Rat.num_mkRat, if_neg hd, Nat.gcd_comm]
/-- The upper part, and what it divides. -/
theorem mk_upper (z : Int) {d : Nat} (hd : d ≠ 0) : z = (mkRat z d).num * ((z.natAbs.gcd d : Nat) : Int) := by
  rw [mk_num_eq z hd, Int.ediv_mul_cancel (Int.ofNat_dvd_left.2 (Nat.gcd_dvd_left _ _))]
theorem add_parts (x y : Rat) {g a b : Nat} (hg : g = x.den.gcd y.den) (ha : a = x.den / g) (hb : b = y.den / g) : (x + y).num = (mkRat (x.num * (b : Int) + y.num * (a : Int)) g).num ∧ (x + y).den = a * b * (mkRat (x.num * (b : Int) + y.num * (a : Int)) g).den := by
  have gp : 0 < g := by rw [hg]; exact Nat.gcd_pos_of_pos_left _ x.den_pos
  have haux := Rat.add.aux x y hg ha hb
  have e1 : x.den = a * g := by rw [ha, Nat.div_mul_cancel (by rw [hg]; exact Nat.gcd_dvd_left _ _)]
  have e2 : y.den = b * g := by rw [hb, Nat.div_mul_cancel (by rw [hg]; exact Nat.gcd_dvd_right _ _)]
  obtain ⟨S, hS⟩ : ∃ S, S = x.num * (b : Int) + y.num * (a : Int) := ⟨_, rfl⟩
  rw [← hS]
  have haux : S.natAbs.gcd g = S.natAbs.gcd (a * y.den) := by rw [hS]; exact haux
  have e3 : x + y = mkRat S (a * y.den) := by
    rw [Rat.add_def', show x.num * (y.den : Int) + y.num * (x.den : Int) = S * (g : Int) by rw [hS, e1, e2, Int.natCast_mul, Int.natCast_mul, Int.add_mul, Int.mul_assoc, Int.mul_assoc], show x.den * y.den = a * y.den * g by rw [e1]; rw [Nat.mul_assoc, Nat.mul_comm g, ← Nat.mul_assoc], Rat.mkRat_mul_right (by omega)]
  have ne : a * y.den ≠ 0 := Nat.mul_ne_zero (fun e => x.den_nz (by rw [e1, e, Nat.zero_mul])) y.den_nz
  rw [e3]
  constructor
  · rw [mk_num_eq S ne, mk_num_eq S (by omega), haux]
  · rw [mk_den S ne, mk_den S (by omega), ← haux, e2, ← Nat.mul_assoc, Nat.mul_div_assoc _ (Nat.gcd_dvd_right _ _)]
theorem eq_parts {x y : Rat} : x = y ↔ x.num = y.num ∧ x.den = y.den := ⟨fun h => by rw [h]; exact ⟨rfl, rfl⟩, fun h => Rat.ext h.1 h.2⟩
/-- A whole number, and a number, both in new memory. -/
def RetZS (z : Int) (d : Nat) (w : World) (e : Ending) (w' : World) : Prop := ∃ v u, e = .returned (.tuple #[v, u]) ∧ IsZ w' v z ∧ IsS w' .u64 u (digs 4294967296 d) ∧ FreshZ w.heap.size v ∧ Fresh w.heap.size u ∧ Below w.heap.size w w'
def pzs (z : Int) (d : Nat) (B : Nat) : Pd := ⟨fun w t => ∃ v u, t = .tuple #[v, u] ∧ IsZ w v z ∧ IsS w .u64 u (digs 4294967296 d) ∧ FreshZ B v ∧ Fresh B u, fun h hb => by obtain ⟨v, u, e, h1, h2, h3, h4⟩ := h; exact ⟨v, u, e, h1.below hb, h2.below hb, h3, h4⟩⟩
theorem RetZS.pd {z : Int} {d : Nat} {w : World} {e : Ending} {w' : World} {B : Nat} (h : RetZS z d w e w') (hB : B ≤ w.heap.size) : RetPd (pzs z d B) w e w' := by
  obtain ⟨v, u, h1, h2, h3, h4, h5, h6⟩ := h
  exact ⟨_, h1, ⟨v, u, rfl, h2, h3, h4.mono hB, h5.mono hB⟩, h6⟩
/-- A fraction in new memory, and an error's number. -/
def RetQF (q : Rat) (n : Int) (w : World) (e : Ending) (w' : World) : Prop := ∃ v, e = .returned (.tuple #[v, .int .i64 n]) ∧ IsQ w' v q ∧ FreshQ w.heap.size v ∧ Below w.heap.size w w'
def pqf (q : Rat) (n : Int) (B : Nat) : Pd := ⟨fun w t => ∃ v, t = .tuple #[v, .int .i64 n] ∧ IsQ w v q ∧ FreshQ B v, fun h hb => by obtain ⟨v, e, h1, h2⟩ := h; exact ⟨v, e, h1.below hb, h2⟩⟩
theorem RetQF.pd {q : Rat} {n : Int} {w : World} {e : Ending} {w' : World} {B : Nat} (h : RetQF q n w e w') (hB : B ≤ w.heap.size) : RetPd (pqf q n B) w e w' := by
  obtain ⟨v, h1, h2, h3, h4⟩ := h
  exact ⟨_, h1, ⟨v, rfl, h2, h3.mono hB⟩, h4⟩
theorem RetQF.e {q : Rat} {n : Int} {w : World} {e : Ending} {w' : World} (h : RetQF q n w e w') : RetQE q n w e w' := by
  obtain ⟨v, h1, h2, _, h4⟩ := h
  exact ⟨v, h1, h2, h4⟩
theorem RetZ.to {x y : Int} {w : World} {e : Ending} {w' : World} (h : RetZ x w e w') (k : x = y) : RetZ y w e w' := k ▸ h
theorem RetS.to {l m : List Nat} {w : World} {e : Ending} {w' : World} (h : RetS .u64 l w e w') (k : l = m) : RetS .u64 m w e w' := k ▸ h
theorem RetQ.to {x y : Rat} {w : World} {e : Ending} {w' : World} (h : RetQ x w e w') (k : x = y) : RetQ y w e w' := k ▸ h
/-- A struct of a sign, a slice told, and a new number. -/
def pbq (b : Bool) (S : Value) (l : List Nat) (B : Nat) : Pd := ⟨fun w v => ∃ A c, v = .agg #[.bool b, S, .slice A l.length c] ∧ IsS w .u64 (.slice A l.length c) l ∧ Fresh B (.slice A l.length c), fun h hb => by obtain ⟨A, c, e, h1, h2⟩ := h; exact ⟨A, c, e, h1.below hb, h2⟩⟩
set_option maxHeartbeats 1600000 in
set_option maxRecDepth 100000 in
theorem unsigned_any (a0 : Value) (x : Nat) (w : World) (h0 : IsS w .u64 a0 (digs 4294967296 x)) :
    Calls Try.prog 37 #[a0] w (RetV (.agg #[.bool false, a0]) w) := by
  have s0 := h0
  obtain ⟨A0, c0, rfl, _⟩ := id s0
  go_enter Try.func37, Try.ntmps37
  go_upto_region 1 with (fail)
  obtain ⟨wx, hwx, bb, BR0, hsz⟩ := vars1 w 34 #[.bool false, .slice none 0 0]
  rw [hwx]
  clear hwx
  have k0 := s0.below bb
  have hsz0 := bb.size
  have sB := bb.size
  refine flowp 2 [Pd.eq (.slice A0 (digs 4294967296 x).length c0), Pd.eq (.agg #[.bool false, .slice A0 (digs 4294967296 x).length c0])] (by kernel_rfl) ?ob1 ?done1
  case ob1 =>
    refine And.intro (ob_move rfl (wt_none rfl) (ev_far rfl rfl) (fun _ _ h => h)) ?_
    refine And.intro (ob_build1b rfl (wt_none rfl) (ev_dep (j := 0) (by kernel_rfl) rfl rfl) (fun w2 u hb hu => by obtain rfl := hu; exact ⟨.agg #[.bool false, .slice A0 (digs 4294967296 x).length c0], by kernel_rfl, rfl⟩)) ?_
    trivial
  case done1 =>
    refine fun w1 hb1 v0 h0 v1 h1 b hbf => ?_
    obtain rfl := h0; obtain rfl := h1
    simp only [Act.put, List.setIfInBounds_toArray, List.set_cons_zero, List.set_cons_succ] at hbf
    subst hbf
    replace BR0 := BR0.below hb1
    replace k0 := k0.below hb1
    replace bb := bb.trans (hb1.mono bb.size)
    have hsz1 := bb.size
    refine ops_store (i := 2) rfl rfl rfl rfl rfl rfl (cells := [.bool false, .slice A0 (digs 4294967296 x).length c0]) rfl BR0 rfl (by kernel_rfl) (one2 rfl rfl) fun w9 hg9 B9 => ?_
    have bb9 := bb.trans ((Below.refl _ _).grown hg9 bb.size (fun g hg => by injection hg with hg; omega))
    obtain ⟨C0, C1, _, _⟩ := Blk.two B9
    refine ops_done ?_
    go_wp2
    exact bodyPost_ret (v := .agg #[.bool false, .slice A0 (digs 4294967296 x).length c0]) (by simp [results, Try.results37, go_sem, C0, C1]) rfl ⟨rfl, bb9⟩
theorem unsigned_pd (a0 : Value) (x : Nat) (w : World) (h0 : IsS w .u64 a0 (digs 4294967296 x)) : Calls Try.prog 37 #[a0] w (RetPd (pi ((x : Nat) : Int)) w) :=
  (unsigned_any a0 x w h0).mono fun e w' h => ⟨_, h.1, isZ_mk (h0.below h.2) (Int.natAbs_natCast _) (ngB_of_pos (by omega)).symm, h.2⟩
set_option maxHeartbeats 1600000 in
set_option maxRecDepth 100000 in
theorem times_any (a0 : Value) (x : Nat) (a1 : Value) (y : Nat) (w : World) (h0 : IsS w .u64 a0 (digs 4294967296 x)) (h1 : IsS w .u64 a1 (digs 4294967296 y)) (hl : (digs 4294967296 x).length ≤ 100000) (hl2 : (digs 4294967296 y).length ≤ 100000) :
    Calls Try.prog 39 #[a0, a1] w (RetS .u64 (digs 4294967296 (x * y)) w) := by
  have s0 := h0
  obtain ⟨A0, c0, rfl, _⟩ := id s0
  have s1 := h1
  obtain ⟨A1, c1, rfl, _⟩ := id s1
  have bb : Below w.heap.size w w := Below.refl _ _
  have HM : Hid (((x * y : Nat) : Int) = ((x : Nat) : Int) * ((y : Nat) : Int)) := Int.natCast_mul x y
  have HL1 : Hid (lenZ ((x : Nat) : Int) ≤ 100000) := by show _ ≤ _; rw [lenD]; omega
  have HL2 : Hid (lenZ ((y : Nat) : Int) ≤ 100000) := by show _ ≤ _; rw [lenD]; omega
  go_enter Try.func39, Try.ntmps39
  go_upto_region 1 with (fail)
  have k0 := s0.below bb
  have k1 := s1.below bb
  have hsz0 := bb.size
  have sB := bb.size
  refine flowp 7 [Pd.eq (.slice A0 (digs 4294967296 x).length c0), pi (((x : Nat) : Int)), Pd.eq (.slice A1 (digs 4294967296 y).length c1), pi (((y : Nat) : Int)), pz (((x * y : Nat) : Int)) w.heap.size, ps .u64 (digs 4294967296 (x * y)) w.heap.size, ps .u64 (digs 4294967296 (x * y)) w.heap.size] (by kernel_rfl) ?ob2 ?done2
  case ob2 =>
    refine And.intro (ob_move rfl (wt_none rfl) (ev_far rfl rfl) (fun _ _ h => h)) ?_
    refine And.intro (ob_call1 rfl Try.func37 (by kernel_rfl) (wt_none rfl) (ev_dep (j := 0) (by kernel_rfl) rfl rfl) (fun w2 u0 hb h0 => by obtain rfl := h0; exact unsigned_pd _ (x) _ (k0.below hb))) ?_
    refine And.intro (ob_move rfl (wt_none rfl) (ev_far rfl rfl) (fun _ _ h => h)) ?_
    refine And.intro (ob_call1 rfl Try.func37 (by kernel_rfl) (wt_none rfl) (ev_dep (j := 2) (by kernel_rfl) rfl rfl) (fun w2 u0 hb h0 => by obtain rfl := h0; exact unsigned_pd _ (y) _ (k1.below hb))) ?_
    refine And.intro (ob_call2 rfl Try.func36 (by kernel_rfl) (wt_none rfl) (ev_dep (j := 1) (by kernel_rfl) rfl rfl) (ev_dep (j := 3) (by kernel_rfl) rfl rfl) (fun w2 u0 u1 hb h0 h1 => by exact (zmul_any _ _ _ _ _ _ h0 h1 HL1.out HL2.out HM.out).mono fun e w3 h => RetZ.pd h hb.size)) ?_
    refine And.intro (ob_field rfl (wt_none rfl) (ev_dep (j := 4) (by kernel_rfl) rfl rfl) (fun w2 u hu => by obtain ⟨⟨u', rfl, q'⟩, f'⟩ := hu; exact ⟨u', by kernel_rfl, q', f' _ _ rfl⟩)) ?_
    refine And.intro (ob_assign rfl (wt_none rfl) (ev_dep (j := 5) (by kernel_rfl) rfl rfl) (fun _ _ h => h)) ?_
    trivial
  case done2 =>
    refine fun w1 hb1 v0 h0 v1 h1 v2 h2 v3 h3 v4 h4 v5 h5 v6 h6 b hbf => ?_
    obtain rfl := h0; obtain rfl := h2
    have q1 := h1
    have q3 := h3
    obtain ⟨q4, f4⟩ := h4
    obtain ⟨q5, f5⟩ := h5
    obtain ⟨q6, f6⟩ := h6
    simp only [Act.put, List.setIfInBounds_toArray, List.set_cons_zero, List.set_cons_succ] at hbf
    subst hbf
    replace k0 := k0.below hb1
    replace k1 := k1.below hb1
    replace bb := bb.trans (hb1.mono bb.size)
    have hsz1 := bb.size
    have s_4 := sB
    have s_5 := sB
    have s_6 := sB
    refine ops_done ?_
    go_wp2
    go_ret
    exact ⟨_, rfl, q6, f6.mono s_6, bb⟩
set_option maxHeartbeats 1600000 in
set_option maxRecDepth 100000 in
theorem reduced_any (a0 : Value) (z : Int) (a1 : Value) (d : Nat) (U : Int) (L : Nat) (w : World) (h0 : IsZ w a0 z) (h1 : IsS w .u64 a1 (digs 4294967296 d)) (hd : d ≠ 0) (hl : lenZ z ≤ 20000) (hl2 : (digs 4294967296 d).length ≤ 20000) (hU : U = (mkRat z d).num) (hL : L = (mkRat z d).den) :
    Calls Try.prog 38 #[a0, a1] w (RetZS U L w) := by
  obtain ⟨u0, rfl, s0⟩ := h0
  obtain ⟨A0, c0, rfl, _⟩ := id s0
  have s1 := h1
  obtain ⟨A1, c1, rfl, _⟩ := id s1
  obtain ⟨G, hG⟩ : ∃ G, G = Nat.gcd z.natAbs d := ⟨_, rfl⟩
  have hGp : 0 < G := by rw [hG]; exact Nat.gcd_pos_of_pos_right _ (by omega)
  have hGd : G ≤ d := by rw [hG]; exact Nat.le_of_dvd (by omega) (Nat.gcd_dvd_right _ _)
  have HL1 : Hid ((digs 4294967296 z.natAbs).length ≤ 90000) := Nat.le_trans hl (by decide)
  have HL2 : Hid ((digs 4294967296 d).length ≤ 90000) := Nat.le_trans hl2 (by decide)
  have HL3 : Hid (lenZ ((G : Nat) : Int) ≤ 20000) := by show _ ≤ _; rw [lenD]; exact Nat.le_trans (digs_len_mono (by omega) hGd) hl2
  have HL4 : Hid ((digs 4294967296 G).length ≤ 90000) := Nat.le_trans (digs_len_mono (by omega) hGd) HL2.out
  have HG : Hid (gcds [z.natAbs, d] = G) := by show _ = _; rw [hG]; simp [gcds]
  have HU : Hid (z = U * ((G : Nat) : Int)) := by show _ = _; rw [hU, hG]; exact mk_upper z hd
  have HM : Hid (d % G = 0) := by show _ = _; rw [hG]; exact Nat.mod_eq_zero_of_dvd (Nat.gcd_dvd_right _ _)
  have HQ : Hid (L = d / G) := by show _ = _; rw [hL, hG]; exact mk_den z hd
  have HN : Hid (((G : Nat) : Int) ≠ 0) := by show _ ≠ _; omega
  clear hG hU hL hGd
  go_enter Try.func38, Try.ntmps38
  go_upto_region 1 with (fail)
  obtain ⟨wx, hwx, bb, B0, BR0, hsz⟩ := vars2 w 34 34 #[.bool (ngB z), .slice A0 (digs 4294967296 (z).natAbs).length c0] #[.bool false, .slice none 0 0]
  rw [hwx]
  clear hwx
  have k0s := s0.below bb
  have k0 : IsZ wx (.agg #[.bool (ngB z), .slice A0 (digs 4294967296 (z).natAbs).length c0]) (z) := isZ_mk k0s rfl rfl
  have k1 := s1.below bb
  have hsz0 := bb.size
  obtain ⟨x00, x01, _, _⟩ := Blk.two B0
  go_wp2_with fail
  have hbA := below_alloc (Nat.le_refl wx.heap.size) (.cells #[.slice A0 (digs 4294967296 (z).natAbs).length c0, .slice A1 (digs 4294967296 d).length c1] 32)
  refine (ggcd_any _ [_, _] [z.natAbs, d] _ (isV_lit wx 32 [_, _]) (nums2 (k0s.below hbA) (k1.below hbA)) (by simp) (by intro q hq; simp at hq; rcases hq with rfl | rfl; exact HL1.out; exact HL2.out)).mono ?_
  rintro e w1 ⟨v1, rfl, kg, kgf, b1⟩
  have hb1 := hbA.trans (b1.mono hbA.size)
  rw [HG.out] at kg
  clear x00 x01
  replace B0 := B0.below hb1
  replace k0s := k0s.below hb1
  replace k0 := k0.below hb1
  replace BR0 := BR0.below hb1
  replace k1 := k1.below hb1
  replace bb := bb.trans (hb1.mono bb.size)
  have hsz1 := bb.size
  obtain ⟨Akg, ckg, rfl, _⟩ := id kg
  have sB := bb.size
  go_upto_region 2 with (fail)
  have lt1_2 := Blk.lt B0
  have lt1_4 := Blk.lt BR0
  refine flowl 8 [Pd.eq (.agg #[.bool (ngB z), .slice A0 (digs 4294967296 (z).natAbs).length c0]), Pd.eq (.slice Akg (digs 4294967296 G).length ckg), pi (((G : Nat) : Int)), pze (U) 0 w1.heap.size, pze (U) 0 w1.heap.size, pz (U) w1.heap.size, Pd.eq (.int .i64 0), pn 34 #[.bool false, .slice none 0 0] w1.heap.size] (by kernel_rfl) 6 rfl (by kernel_rfl) (fun _ _ _ _ h => h) (late_extract rfl rfl (ev_dep (j := 4) (by kernel_rfl) rfl rfl) (fun w2 u hu => by obtain ⟨v, rfl, q1, q2⟩ := hu; exact ⟨_, fun _ => rfl, rfl⟩)) ?ob3 ?done3
  case ob3 =>
    refine And.intro (ob_load rfl (wt_none rfl) (ev_far rfl rfl) (fun w2 hb => run_loadAll Try.underlying34 rfl (by kernel_rfl) (B0.drew.below hb)) (fun _ _ => rfl)) ?_
    refine And.intro (ob_move rfl (wt_none rfl) (ev_far rfl rfl) (fun _ _ h => h)) ?_
    refine And.intro (ob_call1 rfl Try.func37 (by kernel_rfl) (wt_none rfl) (ev_dep (j := 1) (by kernel_rfl) rfl rfl) (fun w2 u0 hb h0 => by obtain rfl := h0; exact unsigned_pd _ (G) _ (kg.drew.below hb))) ?_
    refine And.intro (ob_call2 rfl Try.func50 (by kernel_rfl) (wt_none rfl) (ev_dep (j := 0) (by kernel_rfl) rfl rfl) (ev_dep (j := 2) (by kernel_rfl) rfl rfl) (fun w2 u0 u1 hb h0 h1 => by obtain rfl := h0; exact (zexact_ok _ z _ _ U _ (k0.drew.below hb) h1 hl HL3.out HN.out HU.out).mono fun e w3 h => RetZE.pd h hb.size)) ?_
    refine And.intro (ob_move rfl (wt_none rfl) (ev_dep (j := 3) (by kernel_rfl) rfl rfl) (fun _ _ h => h)) ?_
    refine And.intro (ob_extract rfl (wt_none rfl) (ev_dep (j := 4) (by kernel_rfl) rfl rfl) (fun w2 u hu => by obtain ⟨v, rfl, q1, q2⟩ := hu; exact ⟨v, rfl, q1, q2⟩)) ?_
    refine And.intro (ob_extract rfl (wt_none rfl) (ev_dep (j := 4) (by kernel_rfl) rfl rfl) (fun w2 u hu => by obtain ⟨v, rfl, q1, q2⟩ := hu; exact ⟨_, rfl, rfl⟩)) ?_
    refine And.intro (ob_alloc (z := .agg #[.bool false, .slice none 0 0]) rfl rfl (fun _ => by kernel_rfl) (fun _ _ hB h => ⟨_, rfl, hB, h⟩)) ?_
    trivial
  case done3 =>
    refine fun w2 hb2 v0 h0 v1 h1 v2 h2 v3 h3 v4 h4 v5 h5 v6 h6 v7 h7 d7 b hbf => ?_
    obtain rfl := h0; obtain rfl := h1; obtain rfl := h6
    have q2 := h2
    clear h3
    clear h4
    obtain ⟨q5, f5⟩ := h5
    obtain ⟨g3_7, rfl, hg7, B7⟩ := h7
    simp only [Act.put, List.setIfInBounds_toArray, List.set_cons_zero, List.set_cons_succ] at hbf
    subst hbf
    replace B0 := B0.below hb2
    replace k0s := k0s.below hb2
    replace k0 := k0.below hb2
    replace BR0 := BR0.below hb2
    replace k1 := k1.below hb2
    replace kg := kg.below hb2
    replace bb := bb.trans (hb2.mono bb.size)
    have hsz2 := bb.size
    have s_5 := sB
    have BA7 := B7
    obtain ⟨u5, rfl, q5⟩ := q5
    obtain ⟨A7, c7, rfl, _⟩ := id q5
    refine any_store (i := 8) (by kernel_rfl) rfl rfl rfl rfl rfl rfl (cells := [.bool (ngB U), .slice A7 (digs 4294967296 (U).natAbs).length c7]) rfl BA7 rfl (by kernel_rfl) (one2 rfl rfl) fun w3 hg3 BN3 => ?_
    replace q5 := off q5 BA7 no_ints2 hg3
    replace k1 := off k1 BA7 no_ints2 hg3
    replace kg := off kg BA7 no_ints2 hg3
    replace k0s := off k0s BA7 no_ints2 hg3
    replace k0 : IsZ w3 (.agg #[.bool (ngB z), .slice A0 (digs 4294967296 (z).natAbs).length c0]) (z) := ⟨_, rfl, k0s⟩
    replace B0 := B0.grown hg3 (by omega)
    replace BR0 := BR0.grown hg3 (by omega)
    replace bb := bb.trans ((Below.refl _ _).grown hg3 bb.size (fun g hg => by injection hg with hg; omega))
    have hsz3 := bb.size
    have B7 : Blk w3 (g3_7) _ _ := BN3
    have k7s := q5
    have k7 : IsZ w3 (.agg #[.bool (ngB U), .slice A7 (digs 4294967296 (U).natAbs).length c7]) (U) := ⟨_, rfl, k7s⟩
    refine any_assign (i := 9) (.int .i64 0) (by kernel_rfl) rfl rfl rfl rfl rfl fun b hbf => ?_
    simp only [Act.put, List.setIfInBounds_toArray, List.set_cons_zero, List.set_cons_succ] at hbf
    subst hbf
    refine any_done (by kernel_rfl) ?_
    have f7_ := (f5 _ _ rfl).mono s_5
    have sB := bb.size
    go_upto_region 3 with (fail)
    refine flowp 8 [Pd.eq (.slice A1 (digs 4294967296 d).length c1), Pd.eq (.slice Akg (digs 4294967296 G).length ckg), pt .u64 (digs 4294967296 L) 0 w3.heap.size, pt .u64 (digs 4294967296 L) 0 w3.heap.size, ps .u64 (digs 4294967296 L) w3.heap.size, Pd.eq (.int .i64 0), ps .u64 (digs 4294967296 L) w3.heap.size, Pd.eq (.int .i64 0)] (by kernel_rfl) ?ob4 ?done4
    case ob4 =>
      refine And.intro (ob_move rfl (wt_none rfl) (ev_far rfl rfl) (fun _ _ h => h)) ?_
      refine And.intro (ob_move rfl (wt_none rfl) (ev_far rfl rfl) (fun _ _ h => h)) ?_
      refine And.intro (ob_call2 rfl Try.func34 (by kernel_rfl) (wt_none rfl) (ev_dep (j := 0) (by kernel_rfl) rfl rfl) (ev_dep (j := 1) (by kernel_rfl) rfl rfl) (fun w2 u0 u1 hb h0 h1 => by obtain rfl := h0; obtain rfl := h1; exact (dexact_ok _ _ d G _ (k1.below hb) (kg.below hb) HL2.out HL4.out hGp L HM.out HQ.out).mono fun e w3 h => RetSI.pd h hb.size)) ?_
      refine And.intro (ob_move rfl (wt_none rfl) (ev_dep (j := 2) (by kernel_rfl) rfl rfl) (fun _ _ h => h)) ?_
      refine And.intro (ob_extract rfl (wt_none rfl) (ev_dep (j := 3) (by kernel_rfl) rfl rfl) (fun w2 u hu => by obtain ⟨v, rfl, q1, q2⟩ := hu; exact ⟨v, rfl, q1, q2⟩)) ?_
      refine And.intro (ob_extract rfl (wt_none rfl) (ev_dep (j := 3) (by kernel_rfl) rfl rfl) (fun w2 u hu => by obtain ⟨v, rfl, q1, q2⟩ := hu; exact ⟨_, rfl, rfl⟩)) ?_
      refine And.intro (ob_assign rfl (wt_none rfl) (ev_dep (j := 4) (by kernel_rfl) rfl rfl) (fun _ _ h => h)) ?_
      refine And.intro (ob_assign rfl (wt_none rfl) (ev_dep (j := 5) (by kernel_rfl) rfl rfl) (fun _ _ h => h)) ?_
      trivial
    case done4 =>
      refine fun w4 hb4 v0 h0 v1 h1 v2 h2 v3 h3 v4 h4 v5 h5 v6 h6 v7 h7 b hbf => ?_
      obtain rfl := h0; obtain rfl := h1; obtain rfl := h5; obtain rfl := h7
      clear h2
      clear h3
      obtain ⟨q4, f4⟩ := h4
      obtain ⟨q6, f6⟩ := h6
      simp only [Act.put, List.setIfInBounds_toArray, List.set_cons_zero, List.set_cons_succ] at hbf
      subst hbf
      replace B0 := B0.below hb4
      replace k0s := k0s.below hb4
      replace k0 := k0.below hb4
      replace BR0 := BR0.below hb4
      replace B7 := B7.below hb4
      replace k7s := k7s.below hb4
      replace k7 := k7.below hb4
      replace k1 := k1.below hb4
      replace kg := kg.below hb4
      replace bb := bb.trans (hb4.mono bb.size)
      have hsz4 := bb.size
      have s_4 := sB
      have s_6 := sB
      refine ops_done ?_
      obtain ⟨A9, c9, rfl, _⟩ := id q6
      have n9 := q6
      have n9f := f6
      have n9z_ := s_6
      have sB := bb.size
      go_upto_region 4 with (fail)
      refine flowp 2 [Pd.eq (.agg #[.bool (ngB U), .slice A7 (digs 4294967296 (U).natAbs).length c7]), Pd.eq (.slice A9 (digs 4294967296 L).length c9)] (by kernel_rfl) ?ob5 ?done5
      case ob5 =>
        refine And.intro (ob_load rfl (wt_none rfl) (ev_far rfl rfl) (fun w2 hb => run_loadAll Try.underlying34 rfl (by kernel_rfl) (B7.below hb)) (fun _ _ => rfl)) ?_
        refine And.intro (ob_move rfl (wt_none rfl) (ev_far rfl rfl) (fun _ _ h => h)) ?_
        trivial
      case done5 =>
        refine fun w5 hb5 v0 h0 v1 h1 b hbf => ?_
        obtain rfl := h0; obtain rfl := h1
        simp only [Act.put, List.setIfInBounds_toArray, List.set_cons_zero, List.set_cons_succ] at hbf
        subst hbf
        replace B0 := B0.below hb5
        replace k0s := k0s.below hb5
        replace k0 := k0.below hb5
        replace BR0 := BR0.below hb5
        replace B7 := B7.below hb5
        replace k7s := k7s.below hb5
        replace k7 := k7.below hb5
        replace k1 := k1.below hb5
        replace kg := kg.below hb5
        replace n9 := n9.below hb5
        replace bb := bb.trans (hb5.mono bb.size)
        have hsz5 := bb.size
        refine ops_store (i := 2) rfl rfl rfl rfl rfl rfl (cells := [.bool (ngB U), .slice A7 (digs 4294967296 (U).natAbs).length c7]) rfl BR0 rfl (by kernel_rfl) (one2 rfl rfl) fun wx9 hg9 BX9 => ?_
        have m9 := off k7s BR0 no_ints2 hg9
        have l9 := off n9 BR0 no_ints2 hg9
        have bb9 := bb.trans ((Below.refl _ _).grown hg9 bb.size (fun g hg => by injection hg with hg; omega))
        obtain ⟨C0, C1, _, _⟩ := Blk.two BX9
        refine ops_assign (i := 3) (.slice A9 (digs 4294967296 L).length c9) rfl rfl rfl rfl rfl fun b hbf => ?_
        simp only [Act.put, List.setIfInBounds_toArray, List.set_cons_zero, List.set_cons_succ] at hbf
        subst hbf
        refine ops_done ?_
        go_wp2
        exact bodyPost_ret (v := .tuple #[.agg #[.bool (ngB U), .slice A7 (digs 4294967296 (U).natAbs).length c7], .slice A9 (digs 4294967296 L).length c9]) (by simp [results, Try.results38, go_sem, C0, C1]) rfl ⟨_, _, rfl, isZ_mk m9 rfl rfl, l9, freshZ_mk f7_, n9f.mono n9z_, bb9⟩
set_option maxHeartbeats 1600000 in
set_option maxRecDepth 100000 in
theorem fsign0_any (a0 : Value) (x : Rat) (t : Int) (w : World) (h0 : IsQ w a0 x) (ht : t = ordz x.num 0) :
    Calls Try.prog 20 #[a0] w (RetV (.int .i64 t) w) := by
  obtain ⟨u0, t0, rfl, s0, r0⟩ := h0
  obtain ⟨A0, c0, rfl, _⟩ := id s0
  obtain ⟨D0, e0, rfl, _⟩ := id r0
  have HT := Lib.hid ht
  clear ht
  go_enter Try.func20, Try.ntmps20
  go_upto_region 1 with (fail)
  obtain ⟨wx, hwx, bb, B0, hsz⟩ := vars1 w 36 #[.bool (ngB (x).num), .slice A0 (digs 4294967296 (x).num.natAbs).length c0, .slice D0 (digs 4294967296 (x).den).length e0]
  rw [hwx]
  clear hwx
  have k0s := s0.below bb
  have k0d := r0.below bb
  have k0z : IsZ wx (.agg #[.bool (ngB (x).num), .slice A0 (digs 4294967296 (x).num.natAbs).length c0]) (x).num := ⟨_, rfl, k0s⟩
  have k0 : IsQ wx (.agg #[.bool (ngB (x).num), .slice A0 (digs 4294967296 (x).num.natAbs).length c0, .slice D0 (digs 4294967296 (x).den).length e0]) (x) := ⟨_, _, rfl, k0s, k0d⟩
  have hsz0 := bb.size
  have sB := bb.size
  refine flowp 4 [Pd.eq (.pointer (some ⟨w.heap.size, 0, none⟩)), Pd.eq (.agg #[.bool (ngB (x).num), .slice A0 (digs 4294967296 (x).num.natAbs).length c0]), Pd.eq (.int .i64 t), Pd.eq (.int .i64 t)] (by kernel_rfl) ?ob7 ?done7
  case ob7 =>
    refine And.intro (ob_fieldAddr rfl (wt_none rfl) (ev_far rfl rfl) (fun _ => by kernel_rfl) (fun _ => rfl)) ?_
    refine And.intro (ob_load rfl (wt_none rfl) (ev_dep (j := 0) (by kernel_rfl) rfl rfl) (fun w2 hb => run_loadPart Try.underlying34 rfl (by kernel_rfl) (B0.below hb) rfl) (fun _ _ => rfl)) ?_
    refine And.intro (ob_call1 rfl Try.func29 (by kernel_rfl) (wt_none rfl) (ev_dep (j := 1) (by kernel_rfl) rfl rfl) (fun w2 u0 hb h0 => by obtain rfl := h0; exact (sign_any _ x.num t _ (k0z.below hb) HT.out).mono fun e w3 h => RetV.pd h)) ?_
    refine And.intro (ob_assign rfl (wt_none rfl) (ev_dep (j := 2) (by kernel_rfl) rfl rfl) (fun _ _ h => h)) ?_
    trivial
  case done7 =>
    refine fun w1 hb1 v0 h0 v1 h1 v2 h2 v3 h3 b hbf => ?_
    obtain rfl := h0; obtain rfl := h1; obtain rfl := h2; obtain rfl := h3
    simp only [Act.put, List.setIfInBounds_toArray, List.set_cons_zero, List.set_cons_succ] at hbf
    subst hbf
    replace B0 := B0.below hb1
    replace k0s := k0s.below hb1
    replace k0d := k0d.below hb1
    replace k0z := k0z.below hb1
    replace k0 := k0.below hb1
    replace bb := bb.trans (hb1.mono bb.size)
    have hsz1 := bb.size
    refine ops_done ?_
    go_wp2
    go_ret
    exact ⟨rfl, bb⟩
set_option maxHeartbeats 3200000 in
set_option maxRecDepth 100000 in
theorem add8_any (a0 : Value) (x : Rat) (a1 : Value) (y : Rat) (w : World) (h0 : IsQ w a0 x) (h1 : IsQ w a1 y) (hl : lenQ x 1000) (hl2 : lenQ y 1000) :
    Calls Try.prog 24 #[a0, a1] w (RetQ (x + y) w) := by
  obtain ⟨u0, t0, rfl, s0, r0⟩ := h0
  obtain ⟨A0, c0, rfl, _⟩ := id s0
  obtain ⟨D0, e0, rfl, _⟩ := id r0
  obtain ⟨u1, t1, rfl, s1, r1⟩ := h1
  obtain ⟨A1, c1, rfl, _⟩ := id s1
  obtain ⟨D1, e1, rfl, _⟩ := id r1
  obtain ⟨G, hG⟩ : ∃ G, G = Nat.gcd x.den y.den := ⟨_, rfl⟩
  obtain ⟨m1, ha⟩ : ∃ m1, m1 = x.den / G := ⟨_, rfl⟩
  obtain ⟨m2, hb_⟩ : ∃ m2, m2 = y.den / G := ⟨_, rfl⟩
  have hGp : 0 < G := by rw [hG]; exact Nat.gcd_pos_of_pos_left _ x.den_pos
  have hGd : G ≤ x.den := by rw [hG]; exact Nat.gcd_le_left _ x.den_pos
  obtain ⟨S, hS⟩ : ∃ S, S = (x.num * ((m2 : Nat) : Int) + y.num * ((m1 : Nat) : Int)) := ⟨_, rfl⟩
  obtain ⟨U, hU⟩ : ∃ U, U = (mkRat S G).num := ⟨_, rfl⟩
  obtain ⟨L, hL⟩ : ∃ L, L = (mkRat S G).den := ⟨_, rfl⟩
  obtain ⟨Q, hQ⟩ : ∃ Q, Q = x + y := ⟨_, rfl⟩
  have HQ0 : Hid (x + y = Q) := hQ.symm
  have HP := add_parts x y hG ha hb_
  rw [← hS, ← hU, ← hL, ← hQ] at HP
  have HQN := Lib.hid HP.1
  have HQD := Lib.hid HP.2
  have lx1 := hl.1
  have lx2 := hl.2
  have ly1 := hl2.1
  have ly2 := hl2.2
  have la : (digs 4294967296 m1).length ≤ 1000 := Nat.le_trans (digs_len_mono (by omega) (by rw [ha]; exact Nat.div_le_self _ _)) lx2
  have lb : (digs 4294967296 m2).length ≤ 1000 := Nat.le_trans (digs_len_mono (by omega) (by rw [hb_]; exact Nat.div_le_self _ _)) ly2
  have lG : (digs 4294967296 G).length ≤ 1000 := Nat.le_trans (digs_len_mono (by omega) hGd) lx2
  have lza : lenZ ((m1 : Nat) : Int) ≤ 1000 := by rw [lenD]; exact la
  have lzb : lenZ ((m2 : Nat) : Int) ≤ 1000 := by rw [lenD]; exact lb
  have lp : lenZ (x.num * ((m2 : Nat) : Int)) ≤ 2000 := lenZ_mul_le lx1 lzb
  have lq : lenZ (y.num * ((m1 : Nat) : Int)) ≤ 2000 := lenZ_mul_le ly1 lza
  have lS : lenZ S ≤ 4001 := by rw [hS]; exact lenZ_add_le lp lq
  have HL1 : Hid ((digs 4294967296 x.den).length ≤ 90000) := Nat.le_trans lx2 (by decide)
  have HL2 : Hid ((digs 4294967296 y.den).length ≤ 90000) := Nat.le_trans ly2 (by decide)
  have lL : (digs 4294967296 L).length ≤ 1000 := Nat.le_trans (digs_len_mono (by omega) (by rw [hL, mk_den S (by omega)]; exact Nat.div_le_self _ _)) lG
  have lab : (digs 4294967296 (m1 * m2)).length ≤ 2000 := by have := mul_len m1 m2; omega
  have HG : Hid (gcds [x.den, y.den] = G) := by show _ = _; rw [hG]; simp [gcds]
  have HM1 : Hid (x.den % G = 0) := by show _ = _; rw [hG]; exact Nat.mod_eq_zero_of_dvd (Nat.gcd_dvd_left _ _)
  have HM2 : Hid (y.den % G = 0) := by show _ = _; rw [hG]; exact Nat.mod_eq_zero_of_dvd (Nat.gcd_dvd_right _ _)
  have HA := Lib.hid ha
  have HB := Lib.hid hb_
  have HS : Hid ((x.num * ((m2 : Nat) : Int) + y.num * ((m1 : Nat) : Int)) = S) := hS.symm
  have HU := Lib.hid hU
  have HL := Lib.hid hL
  have HGn : Hid (G ≠ 0) := by show _ ≠ _; omega
  clear hG ha hb_ hS hU hL hQ HP
  go_enter Try.func24, Try.ntmps24
  go_upto_region 1 with (fail)
  obtain ⟨wx, hwx, bb, B0, B1, BR0, hsz⟩ := vars3 w 36 36 36 #[.bool (ngB (x).num), .slice A0 (digs 4294967296 (x).num.natAbs).length c0, .slice D0 (digs 4294967296 (x).den).length e0] #[.bool (ngB (y).num), .slice A1 (digs 4294967296 (y).num.natAbs).length c1, .slice D1 (digs 4294967296 (y).den).length e1] #[.bool false, .slice none 0 0, .slice none 0 0]
  rw [hwx]
  clear hwx
  have k0s := s0.below bb
  have k0d := r0.below bb
  have k0z : IsZ wx (.agg #[.bool (ngB (x).num), .slice A0 (digs 4294967296 (x).num.natAbs).length c0]) (x).num := ⟨_, rfl, k0s⟩
  have k0 : IsQ wx (.agg #[.bool (ngB (x).num), .slice A0 (digs 4294967296 (x).num.natAbs).length c0, .slice D0 (digs 4294967296 (x).den).length e0]) (x) := ⟨_, _, rfl, k0s, k0d⟩
  have k1s := s1.below bb
  have k1d := r1.below bb
  have k1z : IsZ wx (.agg #[.bool (ngB (y).num), .slice A1 (digs 4294967296 (y).num.natAbs).length c1]) (y).num := ⟨_, rfl, k1s⟩
  have k1 : IsQ wx (.agg #[.bool (ngB (y).num), .slice A1 (digs 4294967296 (y).num.natAbs).length c1, .slice D1 (digs 4294967296 (y).den).length e1]) (y) := ⟨_, _, rfl, k1s, k1d⟩
  have hsz0 := bb.size
  obtain ⟨x00, x01, x02, _, _, _⟩ := three B0
  obtain ⟨x10, x11, x12, _, _, _⟩ := three B1
  go_wp2_with fail
  have hbA := below_alloc (Nat.le_refl wx.heap.size) (.cells #[.slice D0 (digs 4294967296 (x).den).length e0, .slice D1 (digs 4294967296 (y).den).length e1] 32)
  refine (ggcd_any _ [_, _] [x.den, y.den] _ (isV_lit wx 32 [_, _]) (nums2 (k0d.below hbA) (k1d.below hbA)) (by simp) (by intro q hq; simp at hq; rcases hq with rfl | rfl; exact HL1.out; exact HL2.out)).mono ?_
  rintro e w1 ⟨v1, rfl, kg, kgf, b1⟩
  have hb1 := hbA.trans (b1.mono hbA.size)
  rw [HG.out] at kg
  clear x00 x01 x02 x10 x11 x12
  replace B0 := B0.below hb1
  replace k0s := k0s.below hb1
  replace k0d := k0d.below hb1
  replace k0z := k0z.below hb1
  replace k0 := k0.below hb1
  replace B1 := B1.below hb1
  replace k1s := k1s.below hb1
  replace k1d := k1d.below hb1
  replace k1z := k1z.below hb1
  replace k1 := k1.below hb1
  replace BR0 := BR0.below hb1
  replace bb := bb.trans (hb1.mono bb.size)
  have hsz1 := bb.size
  obtain ⟨Akg, ckg, rfl, _⟩ := id kg
  have sB := bb.size
  go_upto_region 2 with (fail)
  refine flowp 9 [Pd.eq (.pointer (some ⟨w.heap.size, 2, none⟩)), Pd.eq (.slice D0 (digs 4294967296 (x).den).length e0), Pd.eq (.slice Akg (digs 4294967296 G).length ckg), pt .u64 (digs 4294967296 m1) 0 w1.heap.size, pt .u64 (digs 4294967296 m1) 0 w1.heap.size, ps .u64 (digs 4294967296 m1) w1.heap.size, Pd.eq (.int .i64 0), ps .u64 (digs 4294967296 m1) w1.heap.size, Pd.eq (.int .i64 0)] (by kernel_rfl) ?ob37 ?done37
  case ob37 =>
    refine And.intro (ob_fieldAddr rfl (wt_none rfl) (ev_far rfl rfl) (fun _ => by kernel_rfl) (fun _ => rfl)) ?_
    refine And.intro (ob_load rfl (wt_none rfl) (ev_dep (j := 0) (by kernel_rfl) rfl rfl) (fun w2 hb => run_load1 Try.underlying32 rfl ((B0.below hb).cell 2)) (fun _ _ => rfl)) ?_
    refine And.intro (ob_move rfl (wt_none rfl) (ev_far rfl rfl) (fun _ _ h => h)) ?_
    refine And.intro (ob_call2 rfl Try.func34 (by kernel_rfl) (wt_none rfl) (ev_dep (j := 1) (by kernel_rfl) rfl rfl) (ev_dep (j := 2) (by kernel_rfl) rfl rfl) (fun w2 u0 u1 hb h0 h1 => by obtain rfl := h0; obtain rfl := h1; exact (dexact_ok _ _ x.den G _ (k0d.below hb) (kg.below hb) HL1.out (Nat.le_trans lG (by decide)) hGp m1 HM1.out HA.out).mono fun e w3 h => RetSI.pd h hb.size)) ?_
    refine And.intro (ob_move rfl (wt_none rfl) (ev_dep (j := 3) (by kernel_rfl) rfl rfl) (fun _ _ h => h)) ?_
    refine And.intro (ob_extract rfl (wt_none rfl) (ev_dep (j := 4) (by kernel_rfl) rfl rfl) (fun w2 u hu => by obtain ⟨v, rfl, q1, q2⟩ := hu; exact ⟨v, rfl, q1, q2⟩)) ?_
    refine And.intro (ob_extract rfl (wt_none rfl) (ev_dep (j := 4) (by kernel_rfl) rfl rfl) (fun w2 u hu => by obtain ⟨v, rfl, q1, q2⟩ := hu; exact ⟨_, rfl, rfl⟩)) ?_
    refine And.intro (ob_assign rfl (wt_none rfl) (ev_dep (j := 5) (by kernel_rfl) rfl rfl) (fun _ _ h => h)) ?_
    refine And.intro (ob_assign rfl (wt_none rfl) (ev_dep (j := 6) (by kernel_rfl) rfl rfl) (fun _ _ h => h)) ?_
    trivial
  case done37 =>
    refine fun w2 hb2 v0 h0 v1 h1 v2 h2 v3 h3 v4 h4 v5 h5 v6 h6 v7 h7 v8 h8 b hbf => ?_
    obtain rfl := h0; obtain rfl := h1; obtain rfl := h2; obtain rfl := h6; obtain rfl := h8
    clear h3
    clear h4
    obtain ⟨q5, f5⟩ := h5
    obtain ⟨q7, f7⟩ := h7
    simp only [Act.put, List.setIfInBounds_toArray, List.set_cons_zero, List.set_cons_succ] at hbf
    subst hbf
    replace B0 := B0.below hb2
    replace k0s := k0s.below hb2
    replace k0d := k0d.below hb2
    replace k0z := k0z.below hb2
    replace k0 := k0.below hb2
    replace B1 := B1.below hb2
    replace k1s := k1s.below hb2
    replace k1d := k1d.below hb2
    replace k1z := k1z.below hb2
    replace k1 := k1.below hb2
    replace BR0 := BR0.below hb2
    replace kg := kg.below hb2
    replace bb := bb.trans (hb2.mono bb.size)
    have hsz2 := bb.size
    have s_5 := sB
    have s_7 := sB
    refine ops_done ?_
    obtain ⟨A6, c6, rfl, _⟩ := id q7
    have n6 := q7
    have n6f := f7
    have n6z_ := s_7
    have sB := bb.size
    go_upto_region 3 with (fail)
    refine flowp 9 [Pd.eq (.pointer (some ⟨w.heap.size + 1, 2, none⟩)), Pd.eq (.slice D1 (digs 4294967296 (y).den).length e1), Pd.eq (.slice Akg (digs 4294967296 G).length ckg), pt .u64 (digs 4294967296 m2) 0 w2.heap.size, pt .u64 (digs 4294967296 m2) 0 w2.heap.size, ps .u64 (digs 4294967296 m2) w2.heap.size, Pd.eq (.int .i64 0), ps .u64 (digs 4294967296 m2) w2.heap.size, Pd.eq (.int .i64 0)] (by kernel_rfl) ?ob38 ?done38
    case ob38 =>
      refine And.intro (ob_fieldAddr rfl (wt_none rfl) (ev_far rfl rfl) (fun _ => by kernel_rfl) (fun _ => rfl)) ?_
      refine And.intro (ob_load rfl (wt_none rfl) (ev_dep (j := 0) (by kernel_rfl) rfl rfl) (fun w2 hb => run_load1 Try.underlying32 rfl ((B1.below hb).cell 2)) (fun _ _ => rfl)) ?_
      refine And.intro (ob_move rfl (wt_none rfl) (ev_far rfl rfl) (fun _ _ h => h)) ?_
      refine And.intro (ob_call2 rfl Try.func34 (by kernel_rfl) (wt_none rfl) (ev_dep (j := 1) (by kernel_rfl) rfl rfl) (ev_dep (j := 2) (by kernel_rfl) rfl rfl) (fun w2 u0 u1 hb h0 h1 => by obtain rfl := h0; obtain rfl := h1; exact (dexact_ok _ _ y.den G _ (k1d.below hb) (kg.below hb) HL2.out (Nat.le_trans lG (by decide)) hGp m2 HM2.out HB.out).mono fun e w3 h => RetSI.pd h hb.size)) ?_
      refine And.intro (ob_move rfl (wt_none rfl) (ev_dep (j := 3) (by kernel_rfl) rfl rfl) (fun _ _ h => h)) ?_
      refine And.intro (ob_extract rfl (wt_none rfl) (ev_dep (j := 4) (by kernel_rfl) rfl rfl) (fun w2 u hu => by obtain ⟨v, rfl, q1, q2⟩ := hu; exact ⟨v, rfl, q1, q2⟩)) ?_
      refine And.intro (ob_extract rfl (wt_none rfl) (ev_dep (j := 4) (by kernel_rfl) rfl rfl) (fun w2 u hu => by obtain ⟨v, rfl, q1, q2⟩ := hu; exact ⟨_, rfl, rfl⟩)) ?_
      refine And.intro (ob_assign rfl (wt_none rfl) (ev_dep (j := 5) (by kernel_rfl) rfl rfl) (fun _ _ h => h)) ?_
      refine And.intro (ob_assign rfl (wt_none rfl) (ev_dep (j := 6) (by kernel_rfl) rfl rfl) (fun _ _ h => h)) ?_
      trivial
    case done38 =>
      refine fun w3 hb3 v0 h0 v1 h1 v2 h2 v3 h3 v4 h4 v5 h5 v6 h6 v7 h7 v8 h8 b hbf => ?_
      obtain rfl := h0; obtain rfl := h1; obtain rfl := h2; obtain rfl := h6; obtain rfl := h8
      clear h3
      clear h4
      obtain ⟨q5, f5⟩ := h5
      obtain ⟨q7, f7⟩ := h7
      simp only [Act.put, List.setIfInBounds_toArray, List.set_cons_zero, List.set_cons_succ] at hbf
      subst hbf
      replace B0 := B0.below hb3
      replace k0s := k0s.below hb3
      replace k0d := k0d.below hb3
      replace k0z := k0z.below hb3
      replace k0 := k0.below hb3
      replace B1 := B1.below hb3
      replace k1s := k1s.below hb3
      replace k1d := k1d.below hb3
      replace k1z := k1z.below hb3
      replace k1 := k1.below hb3
      replace BR0 := BR0.below hb3
      replace kg := kg.below hb3
      replace n6 := n6.below hb3
      replace bb := bb.trans (hb3.mono bb.size)
      have hsz3 := bb.size
      have s_5 := sB
      have s_7 := sB
      refine ops_done ?_
      obtain ⟨A8, c8, rfl, _⟩ := id q7
      have n8 := q7
      have n8f := f7
      have n8z_ := s_7
      have sB := bb.size
      go_upto_region 4 with (fail)
      have lt3_2 := Blk.lt B0
      have lt3_3 := Blk.lt B1
      have lt3_4 := Blk.lt BR0
      refine flow 12 [Pd.eq (.pointer (some ⟨w.heap.size, 0, none⟩)), Pd.eq (.agg #[.bool (ngB (x).num), .slice A0 (digs 4294967296 (x).num.natAbs).length c0]), Pd.eq (.slice A8 (digs 4294967296 m2).length c8), pi (((m2 : Nat) : Int)), pi ((x.num * ((m2 : Nat) : Int))), Pd.eq (.pointer (some ⟨w.heap.size + 1, 0, none⟩)), Pd.eq (.agg #[.bool (ngB (y).num), .slice A1 (digs 4294967296 (y).num.natAbs).length c1]), Pd.eq (.slice A6 (digs 4294967296 m1).length c6), pi (((m1 : Nat) : Int)), pi ((y.num * ((m1 : Nat) : Int))), pz (S) w3.heap.size, pn 34 #[.bool false, .slice none 0 0] w3.heap.size] (by kernel_rfl) (by kernel_rfl) ?ob39 ?done39
      case ob39 =>
        refine And.intro (ob_fieldAddr rfl (wt_none rfl) (ev_far rfl rfl) (fun _ => by kernel_rfl) (fun _ => rfl)) ?_
        refine And.intro (ob_load rfl (wt_none rfl) (ev_dep (j := 0) (by kernel_rfl) rfl rfl) (fun w2 hb => run_loadPart Try.underlying34 rfl (by kernel_rfl) (B0.drew.below hb) rfl) (fun _ _ => rfl)) ?_
        refine And.intro (ob_move rfl (wt_none rfl) (ev_far rfl rfl) (fun _ _ h => h)) ?_
        refine And.intro (ob_call1 rfl Try.func37 (by kernel_rfl) (wt_none rfl) (ev_dep (j := 2) (by kernel_rfl) rfl rfl) (fun w2 u0 hb h0 => by obtain rfl := h0; exact unsigned_pd _ (m2) _ (n8.drew.below hb))) ?_
        refine And.intro (ob_call2 rfl Try.func36 (by kernel_rfl) (wt_none rfl) (ev_dep (j := 1) (by kernel_rfl) rfl rfl) (ev_dep (j := 3) (by kernel_rfl) rfl rfl) (fun w2 u0 u1 hb h0 h1 => by obtain rfl := h0; exact (zmul_any _ _ _ _ (x.num * ((m2 : Nat) : Int)) _ (k0z.drew.below hb) h1 (Nat.le_trans lx1 (by decide)) (Nat.le_trans lzb (by decide)) rfl).mono fun e w3 h => RetZ.pi h)) ?_
        refine And.intro (ob_fieldAddr rfl (wt_none rfl) (ev_far rfl rfl) (fun _ => by kernel_rfl) (fun _ => rfl)) ?_
        refine And.intro (ob_load rfl (wt_none rfl) (ev_dep (j := 5) (by kernel_rfl) rfl rfl) (fun w2 hb => run_loadPart Try.underlying34 rfl (by kernel_rfl) (B1.drew.below hb) rfl) (fun _ _ => rfl)) ?_
        refine And.intro (ob_move rfl (wt_none rfl) (ev_far rfl rfl) (fun _ _ h => h)) ?_
        refine And.intro (ob_call1 rfl Try.func37 (by kernel_rfl) (wt_none rfl) (ev_dep (j := 7) (by kernel_rfl) rfl rfl) (fun w2 u0 hb h0 => by obtain rfl := h0; exact unsigned_pd _ (m1) _ (n6.drew.below hb))) ?_
        refine And.intro (ob_call2 rfl Try.func36 (by kernel_rfl) (wt_none rfl) (ev_dep (j := 6) (by kernel_rfl) rfl rfl) (ev_dep (j := 8) (by kernel_rfl) rfl rfl) (fun w2 u0 u1 hb h0 h1 => by obtain rfl := h0; exact (zmul_any _ _ _ _ (y.num * ((m1 : Nat) : Int)) _ (k1z.drew.below hb) h1 (Nat.le_trans ly1 (by decide)) (Nat.le_trans lza (by decide)) rfl).mono fun e w3 h => RetZ.pi h)) ?_
        refine And.intro (ob_call2 rfl Try.func35 (by kernel_rfl) (wt_none rfl) (ev_dep (j := 4) (by kernel_rfl) rfl rfl) (ev_dep (j := 9) (by kernel_rfl) rfl rfl) (fun w2 u0 u1 hb h0 h1 => by exact (HS.out ▸ zadd_any _ _ _ _ _ h0 h1 (Nat.le_trans lp (by decide)) (Nat.le_trans lq (by decide))).mono fun e w3 h => RetZ.pd h hb.size)) ?_
        refine And.intro (ob_alloc (z := .agg #[.bool false, .slice none 0 0]) rfl rfl (fun _ => by kernel_rfl) (fun _ _ hB h => ⟨_, rfl, hB, h⟩)) ?_
        trivial
      case done39 =>
        refine fun w4 hb4 v0 h0 v1 h1 v2 h2 v3 h3 v4 h4 v5 h5 v6 h6 v7 h7 v8 h8 v9 h9 v10 h10 v11 h11 d11 b hbf => ?_
        obtain rfl := h0; obtain rfl := h1; obtain rfl := h2; obtain rfl := h5; obtain rfl := h6; obtain rfl := h7
        have q3 := h3
        have q4 := h4
        have q8 := h8
        have q9 := h9
        obtain ⟨q10, f10⟩ := h10
        obtain ⟨g39_11, rfl, hg11, B11⟩ := h11
        simp only [Act.put, List.setIfInBounds_toArray, List.set_cons_zero, List.set_cons_succ] at hbf
        subst hbf
        replace B0 := B0.below hb4
        replace k0s := k0s.below hb4
        replace k0d := k0d.below hb4
        replace k0z := k0z.below hb4
        replace k0 := k0.below hb4
        replace B1 := B1.below hb4
        replace k1s := k1s.below hb4
        replace k1d := k1d.below hb4
        replace k1z := k1z.below hb4
        replace k1 := k1.below hb4
        replace BR0 := BR0.below hb4
        replace kg := kg.below hb4
        replace n6 := n6.below hb4
        replace n8 := n8.below hb4
        replace bb := bb.trans (hb4.mono bb.size)
        have hsz4 := bb.size
        have s_10 := sB
        have BA10 := B11
        obtain ⟨u10, rfl, q10⟩ := q10
        obtain ⟨A10, c10, rfl, _⟩ := id q10
        refine any_store (i := 12) (by kernel_rfl) rfl rfl rfl rfl rfl rfl (cells := [.bool (ngB S), .slice A10 (digs 4294967296 (S).natAbs).length c10]) rfl BA10 rfl (by kernel_rfl) (one2 rfl rfl) fun w5 hg5 BN5 => ?_
        replace q10 := off q10 BA10 no_ints2 hg5
        replace kg := off kg BA10 no_ints2 hg5
        replace n6 := off n6 BA10 no_ints2 hg5
        replace n8 := off n8 BA10 no_ints2 hg5
        replace k0s := off k0s BA10 no_ints2 hg5
        replace k0d := off k0d BA10 no_ints2 hg5
        replace k0z : IsZ w5 (.agg #[.bool (ngB (x).num), .slice A0 (digs 4294967296 (x).num.natAbs).length c0]) ((x).num) := ⟨_, rfl, k0s⟩
        replace k0 : IsQ w5 (.agg #[.bool (ngB (x).num), .slice A0 (digs 4294967296 (x).num.natAbs).length c0, .slice D0 (digs 4294967296 (x).den).length e0]) (x) := ⟨_, _, rfl, k0s, k0d⟩
        replace B0 := B0.grown hg5 (by omega)
        replace k1s := off k1s BA10 no_ints2 hg5
        replace k1d := off k1d BA10 no_ints2 hg5
        replace k1z : IsZ w5 (.agg #[.bool (ngB (y).num), .slice A1 (digs 4294967296 (y).num.natAbs).length c1]) ((y).num) := ⟨_, rfl, k1s⟩
        replace k1 : IsQ w5 (.agg #[.bool (ngB (y).num), .slice A1 (digs 4294967296 (y).num.natAbs).length c1, .slice D1 (digs 4294967296 (y).den).length e1]) (y) := ⟨_, _, rfl, k1s, k1d⟩
        replace B1 := B1.grown hg5 (by omega)
        replace BR0 := BR0.grown hg5 (by omega)
        replace bb := bb.trans ((Below.refl _ _).grown hg5 bb.size (fun g hg => by injection hg with hg; omega))
        have hsz5 := bb.size
        have B10 : Blk w5 (g39_11) _ _ := BN5
        have k10s := q10
        have k10 : IsZ w5 (.agg #[.bool (ngB S), .slice A10 (digs 4294967296 (S).natAbs).length c10]) (S) := ⟨_, rfl, k10s⟩
        refine any_done (by kernel_rfl) ?_
        have sB := bb.size
        go_upto_region 5 with (fail)
        have lt5_2 := Blk.lt B0
        have lt5_3 := Blk.lt B1
        have lt5_4 := Blk.lt BR0
        have lt5_10 := Blk.lt B10
        refine flowp 7 [Pd.eq (.agg #[.bool (ngB S), .slice A10 (digs 4294967296 (S).natAbs).length c10]), Pd.eq (.slice Akg (digs 4294967296 G).length ckg), pzs (U) (L) w5.heap.size, pzs (U) (L) w5.heap.size, pz (U) w5.heap.size, ps .u64 (digs 4294967296 L) w5.heap.size, pn 34 #[.bool false, .slice none 0 0] w5.heap.size] (by kernel_rfl) ?ob40 ?done40
        case ob40 =>
          refine And.intro (ob_load rfl (wt_none rfl) (ev_far rfl rfl) (fun w2 hb => run_loadAll Try.underlying34 rfl (by kernel_rfl) (B10.below hb)) (fun _ _ => rfl)) ?_
          refine And.intro (ob_move rfl (wt_none rfl) (ev_far rfl rfl) (fun _ _ h => h)) ?_
          refine And.intro (ob_call2 rfl Try.func38 (by kernel_rfl) (wt_none rfl) (ev_dep (j := 0) (by kernel_rfl) rfl rfl) (ev_dep (j := 1) (by kernel_rfl) rfl rfl) (fun w2 u0 u1 hb h0 h1 => by obtain rfl := h0; obtain rfl := h1; exact (reduced_any _ S _ G U L _ (k10.below hb) (kg.below hb) HGn.out (Nat.le_trans lS (by decide)) (Nat.le_trans lG (by decide)) HU.out HL.out).mono fun e w3 h => RetZS.pd h hb.size)) ?_
          refine And.intro (ob_move rfl (wt_none rfl) (ev_dep (j := 2) (by kernel_rfl) rfl rfl) (fun _ _ h => h)) ?_
          refine And.intro (ob_extract rfl (wt_none rfl) (ev_dep (j := 3) (by kernel_rfl) rfl rfl) (fun w2 u hu => by obtain ⟨v, u, rfl, q1, q2, q3, q4⟩ := hu; exact ⟨v, rfl, q1, q3⟩)) ?_
          refine And.intro (ob_extract rfl (wt_none rfl) (ev_dep (j := 3) (by kernel_rfl) rfl rfl) (fun w2 u hu => by obtain ⟨v, u, rfl, q1, q2, q3, q4⟩ := hu; exact ⟨u, rfl, q2, q4⟩)) ?_
          refine And.intro (ob_alloc (z := .agg #[.bool false, .slice none 0 0]) rfl rfl (fun _ => by kernel_rfl) (fun _ _ hB h => ⟨_, rfl, hB, h⟩)) ?_
          trivial
        case done40 =>
          refine fun w6 hb6 v0 h0 v1 h1 v2 h2 v3 h3 v4 h4 v5 h5 v6 h6 d6 b hbf => ?_
          obtain rfl := h0; obtain rfl := h1
          clear h2
          clear h3
          obtain ⟨q4, f4⟩ := h4
          obtain ⟨q5, f5⟩ := h5
          obtain ⟨g40_6, rfl, hg6, B6⟩ := h6
          simp only [Act.put, List.setIfInBounds_toArray, List.set_cons_zero, List.set_cons_succ] at hbf
          subst hbf
          replace B0 := B0.below hb6
          replace k0s := k0s.below hb6
          replace k0d := k0d.below hb6
          replace k0z := k0z.below hb6
          replace k0 := k0.below hb6
          replace B1 := B1.below hb6
          replace k1s := k1s.below hb6
          replace k1d := k1d.below hb6
          replace k1z := k1z.below hb6
          replace k1 := k1.below hb6
          replace BR0 := BR0.below hb6
          replace B10 := B10.below hb6
          replace k10s := k10s.below hb6
          replace k10 := k10.below hb6
          replace kg := kg.below hb6
          replace n6 := n6.below hb6
          replace n8 := n8.below hb6
          replace bb := bb.trans (hb6.mono bb.size)
          have hsz6 := bb.size
          have s_4 := sB
          have s_5 := sB
          obtain ⟨A49, c49, rfl, _⟩ := id q5
          have n49 := q5
          have n49f := f5
          have n49z_ := s_5
          have BA11 := B6
          obtain ⟨u4, rfl, q4⟩ := q4
          obtain ⟨A11, c11, rfl, _⟩ := id q4
          refine ops_store (i := 7) rfl rfl rfl rfl rfl rfl (cells := [.bool (ngB U), .slice A11 (digs 4294967296 (U).natAbs).length c11]) rfl BA11 rfl (by kernel_rfl) (one2 rfl rfl) fun w7 hg7 BN7 => ?_
          replace q4 := off q4 BA11 no_ints2 hg7
          replace kg := off kg BA11 no_ints2 hg7
          replace n6 := off n6 BA11 no_ints2 hg7
          replace n8 := off n8 BA11 no_ints2 hg7
          replace n49 := off n49 BA11 no_ints2 hg7
          replace k0s := off k0s BA11 no_ints2 hg7
          replace k0d := off k0d BA11 no_ints2 hg7
          replace k0z : IsZ w7 (.agg #[.bool (ngB (x).num), .slice A0 (digs 4294967296 (x).num.natAbs).length c0]) ((x).num) := ⟨_, rfl, k0s⟩
          replace k0 : IsQ w7 (.agg #[.bool (ngB (x).num), .slice A0 (digs 4294967296 (x).num.natAbs).length c0, .slice D0 (digs 4294967296 (x).den).length e0]) (x) := ⟨_, _, rfl, k0s, k0d⟩
          replace B0 := B0.grown hg7 (by omega)
          replace k1s := off k1s BA11 no_ints2 hg7
          replace k1d := off k1d BA11 no_ints2 hg7
          replace k1z : IsZ w7 (.agg #[.bool (ngB (y).num), .slice A1 (digs 4294967296 (y).num.natAbs).length c1]) ((y).num) := ⟨_, rfl, k1s⟩
          replace k1 : IsQ w7 (.agg #[.bool (ngB (y).num), .slice A1 (digs 4294967296 (y).num.natAbs).length c1, .slice D1 (digs 4294967296 (y).den).length e1]) (y) := ⟨_, _, rfl, k1s, k1d⟩
          replace B1 := B1.grown hg7 (by omega)
          replace BR0 := BR0.grown hg7 (by omega)
          replace k10s := off k10s BA11 no_ints2 hg7
          replace k10 : IsZ w7 (.agg #[.bool (ngB S), .slice A10 (digs 4294967296 (S).natAbs).length c10]) (S) := ⟨_, rfl, k10s⟩
          replace B10 := B10.grown hg7 (by omega)
          replace bb := bb.trans ((Below.refl _ _).grown hg7 bb.size (fun g hg => by injection hg with hg; omega))
          have hsz7 := bb.size
          have B11 : Blk w7 (g40_6) _ _ := BN7
          have k11s := q4
          have k11 : IsZ w7 (.agg #[.bool (ngB U), .slice A11 (digs 4294967296 (U).natAbs).length c11]) (U) := ⟨_, rfl, k11s⟩
          refine ops_assign (i := 8) (.slice A49 (digs 4294967296 L).length c49) rfl rfl rfl rfl rfl fun b hbf => ?_
          simp only [Act.put, List.setIfInBounds_toArray, List.set_cons_zero, List.set_cons_succ] at hbf
          subst hbf
          refine ops_done ?_
          have f11_ := (f4 _ _ rfl).mono s_4
          have sB := bb.size
          go_upto_region 6 with (fail)
          refine flow 7 [Pd.eq (.agg #[.bool (ngB U), .slice A11 (digs 4294967296 (U).natAbs).length c11]), Pd.eq (.slice A6 (digs 4294967296 m1).length c6), Pd.eq (.slice A8 (digs 4294967296 m2).length c8), ps .u64 (digs 4294967296 (m1 * m2)) w7.heap.size, Pd.eq (.slice A49 (digs 4294967296 L).length c49), ps .u64 (digs 4294967296 ((m1 * m2) * L)) w7.heap.size, pbq (ngB U) (.slice A11 (digs 4294967296 (U).natAbs).length c11) (digs 4294967296 ((m1 * m2) * L)) w7.heap.size] (by kernel_rfl) (by kernel_rfl) ?ob41 ?done41
          case ob41 =>
            refine And.intro (ob_load rfl (wt_none rfl) (ev_far rfl rfl) (fun w2 hb => run_loadAll Try.underlying34 rfl (by kernel_rfl) (B11.drew.below hb)) (fun _ _ => rfl)) ?_
            refine And.intro (ob_move rfl (wt_none rfl) (ev_far rfl rfl) (fun _ _ h => h)) ?_
            refine And.intro (ob_move rfl (wt_none rfl) (ev_far rfl rfl) (fun _ _ h => h)) ?_
            refine And.intro (ob_call2 rfl Try.func39 (by kernel_rfl) (wt_none rfl) (ev_dep (j := 1) (by kernel_rfl) rfl rfl) (ev_dep (j := 2) (by kernel_rfl) rfl rfl) (fun w2 u0 u1 hb h0 h1 => by obtain rfl := h0; obtain rfl := h1; exact (times_any _ m1 _ m2 _ (n6.drew.below hb) (n8.drew.below hb) (Nat.le_trans la (by decide)) (Nat.le_trans lb (by decide))).mono fun e w3 h => RetS.pd h hb.size)) ?_
            refine And.intro (ob_move rfl (wt_none rfl) (ev_far rfl rfl) (fun _ _ h => h)) ?_
            refine And.intro (ob_call2 rfl Try.func39 (by kernel_rfl) (wt_none rfl) (ev_dep (j := 3) (by kernel_rfl) rfl rfl) (ev_dep (j := 4) (by kernel_rfl) rfl rfl) (fun w2 u0 u1 hb h0 h1 => by obtain rfl := h1; exact (times_any _ (m1 * m2) _ L _ h0.1 (n49.drew.below hb) (Nat.le_trans lab (by decide)) (Nat.le_trans lL (by decide))).mono fun e w3 h => RetS.pd h hb.size)) ?_
            refine And.intro (ob_build2b rfl (wt_none rfl) (ev_dep (j := 0) (by kernel_rfl) rfl rfl) (ev_dep (j := 5) (by kernel_rfl) rfl rfl) (fun w2 u v hb hu hv => by obtain rfl := hu; obtain ⟨A7, c7, rfl, _⟩ := id hv.1; exact ⟨.agg #[.bool (ngB U), .slice A11 (digs 4294967296 (U).natAbs).length c11, .slice A7 (digs 4294967296 ((m1 * m2) * L)).length c7], by kernel_rfl, ⟨A7, c7, rfl, hv.1, hv.2⟩⟩)) ?_
            trivial
          case done41 =>
            refine fun w8 hb8 v0 h0 v1 h1 v2 h2 v3 h3 v4 h4 v5 h5 v6 h6 b hbf => ?_
            obtain rfl := h0; obtain rfl := h1; obtain rfl := h2; obtain rfl := h4
            obtain ⟨q3, f3⟩ := h3
            obtain ⟨q5, f5⟩ := h5
            have q6 := h6; have s9_ := sB
            simp only [Act.put, List.setIfInBounds_toArray, List.set_cons_zero, List.set_cons_succ] at hbf
            subst hbf
            replace B0 := B0.below hb8
            replace k0s := k0s.below hb8
            replace k0d := k0d.below hb8
            replace k0z := k0z.below hb8
            replace k0 := k0.below hb8
            replace B1 := B1.below hb8
            replace k1s := k1s.below hb8
            replace k1d := k1d.below hb8
            replace k1z := k1z.below hb8
            replace k1 := k1.below hb8
            replace BR0 := BR0.below hb8
            replace B10 := B10.below hb8
            replace k10s := k10s.below hb8
            replace k10 := k10.below hb8
            replace B11 := B11.below hb8
            replace k11s := k11s.below hb8
            replace k11 := k11.below hb8
            replace kg := kg.below hb8
            replace n6 := n6.below hb8
            replace n8 := n8.below hb8
            replace n49 := n49.below hb8
            replace bb := bb.trans (hb8.mono bb.size)
            have hsz8 := bb.size
            have s_3 := sB
            have s_5 := sB
            obtain ⟨A9, c9, rfl, q9, f9⟩ := q6
            refine any_store (i := 7) (by kernel_rfl) rfl rfl rfl rfl rfl rfl (cells := [.bool (ngB U), .slice A11 (digs 4294967296 (U).natAbs).length c11, .slice A9 (digs 4294967296 ((m1 * m2) * L)).length c9]) rfl BR0 rfl (by kernel_rfl) (one3 rfl rfl rfl) fun w9 hg9 B9 => ?_
            have k9 := off k11s BR0 no_ints3 hg9
            have d9 := off q9 BR0 no_ints3 hg9
            have bb9 := bb.trans ((Below.refl _ _).grown hg9 bb.size (fun g hg => by injection hg with hg; omega))
            obtain ⟨C0, C1, C2, _, _, _⟩ := three B9
            refine any_done (by kernel_rfl) ?_
            go_wp2
            rw [HQ0.out]
            exact bodyPost_ret (v := .agg #[.bool (ngB U), .slice A11 (digs 4294967296 (U).natAbs).length c11, .slice A9 (digs 4294967296 ((m1 * m2) * L)).length c9]) (by simp [results, Try.results24, go_sem, C0, C1, C2]) rfl ⟨_, rfl, isQ_mk k9 d9 (by rw [HQN.out]) (by rw [HQN.out]) HQD.out, freshQ_mk f11_ (f9.mono s9_), bb9⟩
set_option maxHeartbeats 1600000 in
set_option maxRecDepth 100000 in
theorem of8_any (n : Int) (w : World) (h1 : -9223372036854775808 ≤ n) (h2 : n ≤ 9223372036854775807) :
    Calls Try.prog 8 #[.int .i64 n] w (RetQ (n : Rat) w) := by
  obtain ⟨Q, hQ⟩ : ∃ Q, Q = (n : Rat) := ⟨_, rfl⟩
  have HQ0 : Hid ((n : Rat) = Q) := hQ.symm
  have HQN : Hid (Q.num = n) := by show _ = _; rw [hQ]; exact Rat.num_intCast n
  have HQD : Hid (Q.den = 1) := by show _ = _; rw [hQ]; exact Rat.den_intCast n
  clear hQ
  go_enter Try.func8, Try.ntmps8
  go_upto_region 1 with (fail)
  obtain ⟨wx, hwx, bb, BR0, hsz⟩ := vars1 w 36 #[.bool false, .slice none 0 0, .slice none 0 0]
  rw [hwx]
  clear hwx
  have hsz0 := bb.size
  have sB := bb.size
  refine flowp 4 [Pd.eq (.int .i64 n), pz ((Q).num) wx.heap.size, ps .u64 (digs 4294967296 (Q).den) wx.heap.size, pq (Q) wx.heap.size] (by kernel_rfl) ?ob19 ?done19
  case ob19 =>
    refine And.intro (ob_move rfl (wt_none rfl) (ev_far rfl rfl) (fun _ _ h => h)) ?_
    refine And.intro (ob_call1 rfl Try.func22 (by kernel_rfl) (wt_none rfl) (ev_dep (j := 0) (by kernel_rfl) rfl rfl) (fun w2 u0 hb h0 => by obtain rfl := h0; exact (zof_any n _ h1 h2).mono fun e w3 h => RetZ.pd (RetZ.to h HQN.out.symm) hb.size)) ?_
    refine And.intro (ob_call1 rfl Try.func23 (by kernel_rfl) (wt_none rfl) (ev_const _) (fun w2 u0 hb h0 => by obtain rfl := h0; exact (of_any 1 1 _ rfl (by omega)).mono fun e w3 h => RetS.pd (RetS.to h (congrArg (digs 4294967296) HQD.out.symm)) hb.size)) ?_
    refine And.intro (ob_build2b rfl (wt_none rfl) (ev_dep (j := 1) (by kernel_rfl) rfl rfl) (ev_dep (j := 2) (by kernel_rfl) rfl rfl) (fun w2 u v hb hu hv => by obtain ⟨u7, rfl, hu7⟩ := hu.1; obtain ⟨A7, c7, rfl, _⟩ := id hu7; obtain ⟨A8, c8, rfl, _⟩ := id hv.1; exact ⟨.agg #[.bool (ngB (Q).num), .slice A7 (digs 4294967296 (Q).num.natAbs).length c7, .slice A8 (digs 4294967296 (Q).den).length c8], by kernel_rfl, ⟨⟨_, _, rfl, hu7, hv.1⟩, freshQ_mk (hu.2 _ _ rfl) hv.2⟩⟩)) ?_
    trivial
  case done19 =>
    refine fun w1 hb1 v0 h0 v1 h1 v2 h2 v3 h3 b hbf => ?_
    obtain rfl := h0
    obtain ⟨q1, f1⟩ := h1
    obtain ⟨q2, f2⟩ := h2
    obtain ⟨q3, f3⟩ := h3
    simp only [Act.put, List.setIfInBounds_toArray, List.set_cons_zero, List.set_cons_succ] at hbf
    subst hbf
    replace BR0 := BR0.below hb1
    replace bb := bb.trans (hb1.mono bb.size)
    have hsz1 := bb.size
    have s_1 := sB
    have s_2 := sB
    have s_3 := sB
    obtain ⟨u3, t3, rfl, q3, d3⟩ := q3
    obtain ⟨A9, c9, rfl, _⟩ := id q3
    obtain ⟨D9, e9, rfl, _⟩ := id d3
    refine ops_store (i := 4) rfl rfl rfl rfl rfl rfl (cells := [.bool (ngB (Q).num), .slice A9 (digs 4294967296 (Q).num.natAbs).length c9, .slice D9 (digs 4294967296 (Q).den).length e9]) rfl BR0 rfl (by kernel_rfl) (one3 rfl rfl rfl) fun w9 hg9 B9 => ?_
    have k9 := off q3 BR0 no_ints3 hg9
    have d9 := off d3 BR0 no_ints3 hg9
    have f9 := f3.mono (show w.heap.size ≤ _ from s_3)
    have bb9 := bb.trans ((Below.refl _ _).grown hg9 bb.size (fun g hg => by injection hg with hg; omega))
    obtain ⟨C0, C1, C2, _, _, _⟩ := three B9
    refine ops_done ?_
    go_wp2
    rw [HQ0.out]
    exact bodyPost_ret (v := .agg #[.bool (ngB (Q).num), .slice A9 (digs 4294967296 (Q).num.natAbs).length c9, .slice D9 (digs 4294967296 (Q).den).length e9]) (by simp [results, Try.results8, go_sem, C0, C1, C2]) rfl ⟨_, rfl, ⟨_, _, rfl, k9, d9⟩, f9, bb9⟩
theorem limbs_any (v u : Value) (l m : List Nat) (b : Bool) (w : World) (h : IsS w .u64 v l) (h' : IsS w .u64 u m) (hu : Lt 18446744073709551616 l) (hu' : Lt 18446744073709551616 m) (hb_ : b = sameB l m) :
    Calls Try.prog 27 #[v, u] w (RetV (.bool b) w) := by
  have HB := Lib.hid hb_
  clear hb_
  obtain ⟨A, c, rfl, hc, hm, hr⟩ := h
  obtain ⟨A', c', rfl, hc', hmm, hr'⟩ := h'
  unfold maxLen at hm hmm
  by_cases hne : l.length = m.length
  · have hb1 : ((l.length : Int) != (m.length : Int)) = false := by rw [hne]; simp
    have HL := Lib.hid hne
    have hl1 : l.length ≤ m.length := by omega
    have hl2 : m.length ≤ l.length := by omega
    clear hne
    go_enter Try.func27, Try.ntmps27
    go_wp2
    go_loopw [13] (fun vi wr => ∃ k : Nat, k ≤ l.length ∧ Hid (l.take k = m.take k) ∧ Below w.heap.size w wr ∧ vi = .int .i64 (k : Int)) (fun vi _ => l.length - (intOf vi).toNat)
    case atStart => exact ⟨0, by omega, by show _ = _; simp, Below.refl _ _, rfl⟩
    case round =>
      obtain ⟨k, hk, HT, hb, rfl⟩ := hrel
      by_cases hlt : k < l.length
      · obtain ⟨ad, d, rfl, hd, hcell⟩ := (hr.below hb).at_ hlt
        obtain ⟨ad', e, rfl, he, hcell'⟩ := (hr'.below hb).at_ (i := k) (by omega)
        by_cases hde : d = e
        · subst hde
          have HN : Hid (l.take (k + 1) = m.take (k + 1)) := by show _ = _; rw [take_step hd, take_step he, HT.out]
          have hz : ((d : Int) != (d : Int)) = false := by simp
          clear hd he
          go_wp2
          go_quiet (fail)
          go_wp2
          go_roundw
          case rel => exact ⟨k + 1, by omega, HN, below_drewN hb _, by go_num⟩
          case measure => simp [intOf]; omega
        · have HN : Hid (sameB l m = false) := sameB_at hd he hde
          have hz : ((d : Int) != (e : Int)) = true := by rw [bne_iff_ne]; omega
          clear hd he hde
          go_wp2
          go_quiet (fail)
          go_wp2
          go_ret
          exact ⟨by rw [HB.out, HN.out]; rfl, below_drewN hb _⟩
      · obtain rfl : k = l.length := by omega
        have HN : Hid (sameB l m = true) := by
          have := HT.out
          rw [List.take_length, List.take_of_length_le hl2] at this
          rw [this]; exact sameB_refl m
        go_wp2
        go_ret
        exact ⟨by rw [HB.out, HN.out]; rfl, hb⟩
  · have hb1 : ((l.length : Int) != (m.length : Int)) = true := by rw [bne_iff_ne]; omega
    have HN : Hid (sameB l m = false) := sameB_of_len hne
    clear hne
    go_enter Try.func27, Try.ntmps27
    go_wp2
    go_ret
    exact ⟨by rw [HB.out, HN.out]; rfl, Below.refl _ _⟩
theorem limbs_num (v u : Value) (x y : Nat) (b : Bool) (w : World) (h : IsS w .u64 v (digs 4294967296 x)) (h' : IsS w .u64 u (digs 4294967296 y)) (hb : b = decide (x = y)) :
    Calls Try.prog 27 #[v, u] w (RetV (.bool b) w) :=
  limbs_any v u _ _ b w h h' (digs_lt_u x) (digs_lt_u y) (by rw [hb, sameB_digs])
set_option maxHeartbeats 1600000 in
set_option maxRecDepth 100000 in
theorem same8_any (a0 a1 : Value) (x y : Rat) (b : Bool) (w : World) (h0 : IsQ w a0 x) (h1 : IsQ w a1 y) (hb : b = decide (x = y)) :
    Calls Try.prog 13 #[a0, a1] w (RetV (.bool b) w) := by
  by_cases hs : ngB x.num = ngB y.num
  · by_cases hn : x.num.natAbs = y.num.natAbs
    · obtain ⟨u0, t0, rfl, s0, r0⟩ := h0
      obtain ⟨A0, c0, rfl, _⟩ := id s0
      obtain ⟨D0, e0, rfl, _⟩ := id r0
      obtain ⟨u1, t1, rfl, s1, r1⟩ := h1
      obtain ⟨A1, c1, rfl, _⟩ := id s1
      obtain ⟨D1, e1, rfl, _⟩ := id r1
      have HE : Hid ((ngB x.num == ngB y.num) = true) := by show _ = _; rw [hs]; exact beq_self_eq_true _
      have HB : Hid (b = decide (x.den = y.den)) := by show _ = _; rw [hb, decide_eq_decide, eq_parts]; exact ⟨fun e => e.2, fun e => ⟨by rw [← sg_self x.num, ← sg_self y.num, hs, hn], e⟩⟩
      clear hb hs
      have HN : Hid (true = decide (x.num.natAbs = y.num.natAbs)) := (decide_eq_true hn).symm
      clear hn
      go_enter Try.func13, Try.ntmps13
      go_upto_region 1 with (fail)
      obtain ⟨wx, hwx, bb, B0, B1, hsz⟩ := vars2 w 36 36 #[.bool (ngB (x).num), .slice A0 (digs 4294967296 (x).num.natAbs).length c0, .slice D0 (digs 4294967296 (x).den).length e0] #[.bool (ngB (y).num), .slice A1 (digs 4294967296 (y).num.natAbs).length c1, .slice D1 (digs 4294967296 (y).den).length e1]
      rw [hwx]
      clear hwx
      have k0s := s0.below bb
      have k0d := r0.below bb
      have k0z : IsZ wx (.agg #[.bool (ngB (x).num), .slice A0 (digs 4294967296 (x).num.natAbs).length c0]) (x).num := ⟨_, rfl, k0s⟩
      have k0 : IsQ wx (.agg #[.bool (ngB (x).num), .slice A0 (digs 4294967296 (x).num.natAbs).length c0, .slice D0 (digs 4294967296 (x).den).length e0]) (x) := ⟨_, _, rfl, k0s, k0d⟩
      have k1s := s1.below bb
      have k1d := r1.below bb
      have k1z : IsZ wx (.agg #[.bool (ngB (y).num), .slice A1 (digs 4294967296 (y).num.natAbs).length c1]) (y).num := ⟨_, rfl, k1s⟩
      have k1 : IsQ wx (.agg #[.bool (ngB (y).num), .slice A1 (digs 4294967296 (y).num.natAbs).length c1, .slice D1 (digs 4294967296 (y).den).length e1]) (y) := ⟨_, _, rfl, k1s, k1d⟩
      have hsz0 := bb.size
      have sB := bb.size
      refine flowp 24 [Pd.eq (.pointer (some ⟨w.heap.size, 0, none⟩)), Pd.eq (.pointer (some ⟨w.heap.size, 0, none⟩)), Pd.eq (.bool (ngB (x).num)), Pd.eq (.pointer (some ⟨w.heap.size + 1, 0, none⟩)), Pd.eq (.pointer (some ⟨w.heap.size + 1, 0, none⟩)), Pd.eq (.bool (ngB (y).num)), Pd.eq (.bool true), Pd.eq (.bool true), Pd.eq (.pointer (some ⟨w.heap.size, 0, none⟩)), Pd.eq (.pointer (some ⟨w.heap.size, 1, none⟩)), Pd.eq (.slice A0 (digs 4294967296 (x).num.natAbs).length c0), Pd.eq (.pointer (some ⟨w.heap.size + 1, 0, none⟩)), Pd.eq (.pointer (some ⟨w.heap.size + 1, 1, none⟩)), Pd.eq (.slice A1 (digs 4294967296 (y).num.natAbs).length c1), Pd.eq (.bool true), Pd.eq (.bool true), Pd.eq (.bool true), Pd.eq (.pointer (some ⟨w.heap.size, 2, none⟩)), Pd.eq (.slice D0 (digs 4294967296 (x).den).length e0), Pd.eq (.pointer (some ⟨w.heap.size + 1, 2, none⟩)), Pd.eq (.slice D1 (digs 4294967296 (y).den).length e1), Pd.eq (.bool b), Pd.eq (.bool b), Pd.eq (.bool b)] (by kernel_rfl) ?ob46 ?done46
      case ob46 =>
        refine And.intro (ob_fieldAddr rfl (wt_none rfl) (ev_far rfl rfl) (fun _ => by kernel_rfl) (fun _ => rfl)) ?_
        refine And.intro (ob_fieldAddr rfl (wt_none rfl) (ev_dep (j := 0) (by kernel_rfl) rfl rfl) (fun _ => by kernel_rfl) (fun _ => rfl)) ?_
        refine And.intro (ob_load rfl (wt_none rfl) (ev_dep (j := 1) (by kernel_rfl) rfl rfl) (fun w2 hb => run_load1 Try.underlying4 rfl ((B0.below hb).cell 0)) (fun _ _ => rfl)) ?_
        refine And.intro (ob_fieldAddr rfl (wt_none rfl) (ev_far rfl rfl) (fun _ => by kernel_rfl) (fun _ => rfl)) ?_
        refine And.intro (ob_fieldAddr rfl (wt_none rfl) (ev_dep (j := 3) (by kernel_rfl) rfl rfl) (fun _ => by kernel_rfl) (fun _ => rfl)) ?_
        refine And.intro (ob_load rfl (wt_none rfl) (ev_dep (j := 4) (by kernel_rfl) rfl rfl) (fun w2 hb => run_load1 Try.underlying4 rfl ((B1.below hb).cell 0)) (fun _ _ => rfl)) ?_
        refine And.intro (ob_bin rfl (wt_none rfl) (ev_dep (j := 2) (by kernel_rfl) rfl rfl) (ev_dep (j := 5) (by kernel_rfl) rfl rfl) (fun _ _ _ hx hy => ⟨.bool true, by rw [hx, hy]; exact (bin_eql_bool _ _ _ _ Try.underlying4 _).trans (by rw [HE.out]), rfl⟩)) ?_
        refine And.intro (ob_move rfl (wt_none rfl) (ev_dep (j := 6) (by kernel_rfl) rfl rfl) (fun _ _ h => h)) ?_
        refine And.intro (ob_fieldAddr rfl (wt_dep (c := true) (b := true) (g := 7) rfl (by kernel_rfl) rfl rfl rfl (by exact fun _ _ h => h)) (ev_far rfl rfl) (fun _ => by kernel_rfl) (fun _ => rfl)) ?_
        refine And.intro (ob_fieldAddr rfl (wt_dep (c := true) (b := true) (g := 7) rfl (by kernel_rfl) rfl rfl rfl (by exact fun _ _ h => h)) (ev_dep (j := 8) (by kernel_rfl) rfl rfl) (fun _ => by kernel_rfl) (fun _ => rfl)) ?_
        refine And.intro (ob_load rfl (wt_dep (c := true) (b := true) (g := 7) rfl (by kernel_rfl) rfl rfl rfl (by exact fun _ _ h => h)) (ev_dep (j := 9) (by kernel_rfl) rfl rfl) (fun w2 hb => run_load1 Try.underlying32 rfl ((B0.below hb).cell 1)) (fun _ _ => rfl)) ?_
        refine And.intro (ob_fieldAddr rfl (wt_dep (c := true) (b := true) (g := 7) rfl (by kernel_rfl) rfl rfl rfl (by exact fun _ _ h => h)) (ev_far rfl rfl) (fun _ => by kernel_rfl) (fun _ => rfl)) ?_
        refine And.intro (ob_fieldAddr rfl (wt_dep (c := true) (b := true) (g := 7) rfl (by kernel_rfl) rfl rfl rfl (by exact fun _ _ h => h)) (ev_dep (j := 11) (by kernel_rfl) rfl rfl) (fun _ => by kernel_rfl) (fun _ => rfl)) ?_
        refine And.intro (ob_load rfl (wt_dep (c := true) (b := true) (g := 7) rfl (by kernel_rfl) rfl rfl rfl (by exact fun _ _ h => h)) (ev_dep (j := 12) (by kernel_rfl) rfl rfl) (fun w2 hb => run_load1 Try.underlying32 rfl ((B1.below hb).cell 1)) (fun _ _ => rfl)) ?_
        refine And.intro (ob_call2 rfl Try.func27 (by kernel_rfl) (wt_dep (c := true) (b := true) (g := 7) rfl (by kernel_rfl) rfl rfl rfl (by exact fun _ _ h => h)) (ev_dep (j := 10) (by kernel_rfl) rfl rfl) (ev_dep (j := 13) (by kernel_rfl) rfl rfl) (fun w2 u0 u1 hb h0 h1 => by obtain rfl := h0; obtain rfl := h1; exact (limbs_num _ _ (x).num.natAbs (y).num.natAbs true _ (k0s.below hb) (k1s.below hb) HN.out).mono fun e w3 h => RetV.pd h)) ?_
        refine And.intro (ob_pick (b := true) rfl (wt_none rfl) (ev_dep (j := 7) (by kernel_rfl) rfl rfl) (ev_dep (j := 14) (by kernel_rfl) rfl rfl) (fun _ _ h => h)) ?_
        refine And.intro (ob_move rfl (wt_none rfl) (ev_dep (j := 15) (by kernel_rfl) rfl rfl) (fun _ _ h => h)) ?_
        refine And.intro (ob_fieldAddr rfl (wt_dep (c := true) (b := true) (g := 16) rfl (by kernel_rfl) rfl rfl rfl (by exact fun _ _ h => h)) (ev_far rfl rfl) (fun _ => by kernel_rfl) (fun _ => rfl)) ?_
        refine And.intro (ob_load rfl (wt_dep (c := true) (b := true) (g := 16) rfl (by kernel_rfl) rfl rfl rfl (by exact fun _ _ h => h)) (ev_dep (j := 17) (by kernel_rfl) rfl rfl) (fun w2 hb => run_load1 Try.underlying32 rfl ((B0.below hb).cell 2)) (fun _ _ => rfl)) ?_
        refine And.intro (ob_fieldAddr rfl (wt_dep (c := true) (b := true) (g := 16) rfl (by kernel_rfl) rfl rfl rfl (by exact fun _ _ h => h)) (ev_far rfl rfl) (fun _ => by kernel_rfl) (fun _ => rfl)) ?_
        refine And.intro (ob_load rfl (wt_dep (c := true) (b := true) (g := 16) rfl (by kernel_rfl) rfl rfl rfl (by exact fun _ _ h => h)) (ev_dep (j := 19) (by kernel_rfl) rfl rfl) (fun w2 hb => run_load1 Try.underlying32 rfl ((B1.below hb).cell 2)) (fun _ _ => rfl)) ?_
        refine And.intro (ob_call2 rfl Try.func27 (by kernel_rfl) (wt_dep (c := true) (b := true) (g := 16) rfl (by kernel_rfl) rfl rfl rfl (by exact fun _ _ h => h)) (ev_dep (j := 18) (by kernel_rfl) rfl rfl) (ev_dep (j := 20) (by kernel_rfl) rfl rfl) (fun w2 u0 u1 hb h0 h1 => by obtain rfl := h0; obtain rfl := h1; exact (limbs_num _ _ (x).den (y).den b _ (k0d.below hb) (k1d.below hb) HB.out).mono fun e w3 h => RetV.pd h)) ?_
        refine And.intro (ob_pick (b := true) rfl (wt_none rfl) (ev_dep (j := 16) (by kernel_rfl) rfl rfl) (ev_dep (j := 21) (by kernel_rfl) rfl rfl) (fun _ _ h => h)) ?_
        refine And.intro (ob_assign rfl (wt_none rfl) (ev_dep (j := 22) (by kernel_rfl) rfl rfl) (fun _ _ h => h)) ?_
        trivial
      case done46 =>
        refine fun w1 hb1 v0 h0 v1 h1 v2 h2 v3 h3 v4 h4 v5 h5 v6 h6 v7 h7 v8 h8 v9 h9 v10 h10 v11 h11 v12 h12 v13 h13 v14 h14 v15 h15 v16 h16 v17 h17 v18 h18 v19 h19 v20 h20 v21 h21 v22 h22 v23 h23 b hbf => ?_
        obtain rfl := h0; obtain rfl := h1; obtain rfl := h2; obtain rfl := h3; obtain rfl := h4; obtain rfl := h5; obtain rfl := h6; obtain rfl := h7; obtain rfl := h8; obtain rfl := h9; obtain rfl := h10; obtain rfl := h11; obtain rfl := h12; obtain rfl := h13; obtain rfl := h14; obtain rfl := h15; obtain rfl := h16; obtain rfl := h17; obtain rfl := h18; obtain rfl := h19; obtain rfl := h20; obtain rfl := h21; obtain rfl := h22; obtain rfl := h23
        simp only [Act.put, List.setIfInBounds_toArray, List.set_cons_zero, List.set_cons_succ] at hbf
        subst hbf
        replace B0 := B0.below hb1
        replace k0s := k0s.below hb1
        replace k0d := k0d.below hb1
        replace k0z := k0z.below hb1
        replace k0 := k0.below hb1
        replace B1 := B1.below hb1
        replace k1s := k1s.below hb1
        replace k1d := k1d.below hb1
        replace k1z := k1z.below hb1
        replace k1 := k1.below hb1
        replace bb := bb.trans (hb1.mono bb.size)
        have hsz1 := bb.size
        refine ops_done ?_
        go_wp2
        go_ret
        exact ⟨rfl, bb⟩
    · obtain ⟨u0, t0, rfl, s0, r0⟩ := h0
      obtain ⟨A0, c0, rfl, _⟩ := id s0
      obtain ⟨D0, e0, rfl, _⟩ := id r0
      obtain ⟨u1, t1, rfl, s1, r1⟩ := h1
      obtain ⟨A1, c1, rfl, _⟩ := id s1
      obtain ⟨D1, e1, rfl, _⟩ := id r1
      have HE : Hid ((ngB x.num == ngB y.num) = true) := by show _ = _; rw [hs]; exact beq_self_eq_true _
      obtain rfl : b = false := by rw [hb, decide_eq_false_iff_not]; exact fun e => hn (by rw [e])
      clear hb hs
      have HN : Hid (false = decide (x.num.natAbs = y.num.natAbs)) := (decide_eq_false hn).symm
      clear hn
      go_enter Try.func13, Try.ntmps13
      go_upto_region 1 with (fail)
      obtain ⟨wx, hwx, bb, B0, B1, hsz⟩ := vars2 w 36 36 #[.bool (ngB (x).num), .slice A0 (digs 4294967296 (x).num.natAbs).length c0, .slice D0 (digs 4294967296 (x).den).length e0] #[.bool (ngB (y).num), .slice A1 (digs 4294967296 (y).num.natAbs).length c1, .slice D1 (digs 4294967296 (y).den).length e1]
      rw [hwx]
      clear hwx
      have k0s := s0.below bb
      have k0d := r0.below bb
      have k0z : IsZ wx (.agg #[.bool (ngB (x).num), .slice A0 (digs 4294967296 (x).num.natAbs).length c0]) (x).num := ⟨_, rfl, k0s⟩
      have k0 : IsQ wx (.agg #[.bool (ngB (x).num), .slice A0 (digs 4294967296 (x).num.natAbs).length c0, .slice D0 (digs 4294967296 (x).den).length e0]) (x) := ⟨_, _, rfl, k0s, k0d⟩
      have k1s := s1.below bb
      have k1d := r1.below bb
      have k1z : IsZ wx (.agg #[.bool (ngB (y).num), .slice A1 (digs 4294967296 (y).num.natAbs).length c1]) (y).num := ⟨_, rfl, k1s⟩
      have k1 : IsQ wx (.agg #[.bool (ngB (y).num), .slice A1 (digs 4294967296 (y).num.natAbs).length c1, .slice D1 (digs 4294967296 (y).den).length e1]) (y) := ⟨_, _, rfl, k1s, k1d⟩
      have hsz0 := bb.size
      have sB := bb.size
      refine flowp 24 [Pd.eq (.pointer (some ⟨w.heap.size, 0, none⟩)), Pd.eq (.pointer (some ⟨w.heap.size, 0, none⟩)), Pd.eq (.bool (ngB (x).num)), Pd.eq (.pointer (some ⟨w.heap.size + 1, 0, none⟩)), Pd.eq (.pointer (some ⟨w.heap.size + 1, 0, none⟩)), Pd.eq (.bool (ngB (y).num)), Pd.eq (.bool true), Pd.eq (.bool true), Pd.eq (.pointer (some ⟨w.heap.size, 0, none⟩)), Pd.eq (.pointer (some ⟨w.heap.size, 1, none⟩)), Pd.eq (.slice A0 (digs 4294967296 (x).num.natAbs).length c0), Pd.eq (.pointer (some ⟨w.heap.size + 1, 0, none⟩)), Pd.eq (.pointer (some ⟨w.heap.size + 1, 1, none⟩)), Pd.eq (.slice A1 (digs 4294967296 (y).num.natAbs).length c1), Pd.eq (.bool false), Pd.eq (.bool false), Pd.eq (.bool false), Pd.any, Pd.any, Pd.any, Pd.any, Pd.any, Pd.eq (.bool false), Pd.eq (.bool false)] (by kernel_rfl) ?ob45 ?done45
      case ob45 =>
        refine And.intro (ob_fieldAddr rfl (wt_none rfl) (ev_far rfl rfl) (fun _ => by kernel_rfl) (fun _ => rfl)) ?_
        refine And.intro (ob_fieldAddr rfl (wt_none rfl) (ev_dep (j := 0) (by kernel_rfl) rfl rfl) (fun _ => by kernel_rfl) (fun _ => rfl)) ?_
        refine And.intro (ob_load rfl (wt_none rfl) (ev_dep (j := 1) (by kernel_rfl) rfl rfl) (fun w2 hb => run_load1 Try.underlying4 rfl ((B0.below hb).cell 0)) (fun _ _ => rfl)) ?_
        refine And.intro (ob_fieldAddr rfl (wt_none rfl) (ev_far rfl rfl) (fun _ => by kernel_rfl) (fun _ => rfl)) ?_
        refine And.intro (ob_fieldAddr rfl (wt_none rfl) (ev_dep (j := 3) (by kernel_rfl) rfl rfl) (fun _ => by kernel_rfl) (fun _ => rfl)) ?_
        refine And.intro (ob_load rfl (wt_none rfl) (ev_dep (j := 4) (by kernel_rfl) rfl rfl) (fun w2 hb => run_load1 Try.underlying4 rfl ((B1.below hb).cell 0)) (fun _ _ => rfl)) ?_
        refine And.intro (ob_bin rfl (wt_none rfl) (ev_dep (j := 2) (by kernel_rfl) rfl rfl) (ev_dep (j := 5) (by kernel_rfl) rfl rfl) (fun _ _ _ hx hy => ⟨.bool true, by rw [hx, hy]; exact (bin_eql_bool _ _ _ _ Try.underlying4 _).trans (by rw [HE.out]), rfl⟩)) ?_
        refine And.intro (ob_move rfl (wt_none rfl) (ev_dep (j := 6) (by kernel_rfl) rfl rfl) (fun _ _ h => h)) ?_
        refine And.intro (ob_fieldAddr rfl (wt_dep (c := true) (b := true) (g := 7) rfl (by kernel_rfl) rfl rfl rfl (by exact fun _ _ h => h)) (ev_far rfl rfl) (fun _ => by kernel_rfl) (fun _ => rfl)) ?_
        refine And.intro (ob_fieldAddr rfl (wt_dep (c := true) (b := true) (g := 7) rfl (by kernel_rfl) rfl rfl rfl (by exact fun _ _ h => h)) (ev_dep (j := 8) (by kernel_rfl) rfl rfl) (fun _ => by kernel_rfl) (fun _ => rfl)) ?_
        refine And.intro (ob_load rfl (wt_dep (c := true) (b := true) (g := 7) rfl (by kernel_rfl) rfl rfl rfl (by exact fun _ _ h => h)) (ev_dep (j := 9) (by kernel_rfl) rfl rfl) (fun w2 hb => run_load1 Try.underlying32 rfl ((B0.below hb).cell 1)) (fun _ _ => rfl)) ?_
        refine And.intro (ob_fieldAddr rfl (wt_dep (c := true) (b := true) (g := 7) rfl (by kernel_rfl) rfl rfl rfl (by exact fun _ _ h => h)) (ev_far rfl rfl) (fun _ => by kernel_rfl) (fun _ => rfl)) ?_
        refine And.intro (ob_fieldAddr rfl (wt_dep (c := true) (b := true) (g := 7) rfl (by kernel_rfl) rfl rfl rfl (by exact fun _ _ h => h)) (ev_dep (j := 11) (by kernel_rfl) rfl rfl) (fun _ => by kernel_rfl) (fun _ => rfl)) ?_
        refine And.intro (ob_load rfl (wt_dep (c := true) (b := true) (g := 7) rfl (by kernel_rfl) rfl rfl rfl (by exact fun _ _ h => h)) (ev_dep (j := 12) (by kernel_rfl) rfl rfl) (fun w2 hb => run_load1 Try.underlying32 rfl ((B1.below hb).cell 1)) (fun _ _ => rfl)) ?_
        refine And.intro (ob_call2 rfl Try.func27 (by kernel_rfl) (wt_dep (c := true) (b := true) (g := 7) rfl (by kernel_rfl) rfl rfl rfl (by exact fun _ _ h => h)) (ev_dep (j := 10) (by kernel_rfl) rfl rfl) (ev_dep (j := 13) (by kernel_rfl) rfl rfl) (fun w2 u0 u1 hb h0 h1 => by obtain rfl := h0; obtain rfl := h1; exact (limbs_num _ _ (x).num.natAbs (y).num.natAbs false _ (k0s.below hb) (k1s.below hb) HN.out).mono fun e w3 h => RetV.pd h)) ?_
        refine And.intro (ob_pick (b := true) rfl (wt_none rfl) (ev_dep (j := 7) (by kernel_rfl) rfl rfl) (ev_dep (j := 14) (by kernel_rfl) rfl rfl) (fun _ _ h => h)) ?_
        refine And.intro (ob_move rfl (wt_none rfl) (ev_dep (j := 15) (by kernel_rfl) rfl rfl) (fun _ _ h => h)) ?_
        refine And.intro (ob_not (wt_dep (c := false) (b := true) (g := 16) rfl (by kernel_rfl) rfl rfl rfl (by exact fun _ _ h => h)) (fun _ => trivial) rfl) ?_
        refine And.intro (ob_not (wt_dep (c := false) (b := true) (g := 16) rfl (by kernel_rfl) rfl rfl rfl (by exact fun _ _ h => h)) (fun _ => trivial) rfl) ?_
        refine And.intro (ob_not (wt_dep (c := false) (b := true) (g := 16) rfl (by kernel_rfl) rfl rfl rfl (by exact fun _ _ h => h)) (fun _ => trivial) rfl) ?_
        refine And.intro (ob_not (wt_dep (c := false) (b := true) (g := 16) rfl (by kernel_rfl) rfl rfl rfl (by exact fun _ _ h => h)) (fun _ => trivial) rfl) ?_
        refine And.intro (ob_not (wt_dep (c := false) (b := true) (g := 16) rfl (by kernel_rfl) rfl rfl rfl (by exact fun _ _ h => h)) (fun _ => trivial) rfl) ?_
        refine And.intro (ob_pick (b := false) rfl (wt_none rfl) (ev_dep (j := 16) (by kernel_rfl) rfl rfl) (ev_const _) (fun _ _ h => h)) ?_
        refine And.intro (ob_assign rfl (wt_none rfl) (ev_dep (j := 22) (by kernel_rfl) rfl rfl) (fun _ _ h => h)) ?_
        trivial
      case done45 =>
        refine fun w1 hb1 v0 h0 v1 h1 v2 h2 v3 h3 v4 h4 v5 h5 v6 h6 v7 h7 v8 h8 v9 h9 v10 h10 v11 h11 v12 h12 v13 h13 v14 h14 v15 h15 v16 h16 v17 h17 v18 h18 v19 h19 v20 h20 v21 h21 v22 h22 v23 h23 b hbf => ?_
        obtain rfl := h0; obtain rfl := h1; obtain rfl := h2; obtain rfl := h3; obtain rfl := h4; obtain rfl := h5; obtain rfl := h6; obtain rfl := h7; obtain rfl := h8; obtain rfl := h9; obtain rfl := h10; obtain rfl := h11; obtain rfl := h12; obtain rfl := h13; obtain rfl := h14; obtain rfl := h15; obtain rfl := h16; obtain rfl := h22; obtain rfl := h23
        clear h17
        clear h18
        clear h19
        clear h20
        clear h21
        simp only [Act.put, List.setIfInBounds_toArray, List.set_cons_zero, List.set_cons_succ] at hbf
        subst hbf
        replace B0 := B0.below hb1
        replace k0s := k0s.below hb1
        replace k0d := k0d.below hb1
        replace k0z := k0z.below hb1
        replace k0 := k0.below hb1
        replace B1 := B1.below hb1
        replace k1s := k1s.below hb1
        replace k1d := k1d.below hb1
        replace k1z := k1z.below hb1
        replace k1 := k1.below hb1
        replace bb := bb.trans (hb1.mono bb.size)
        have hsz1 := bb.size
        refine ops_done ?_
        go_wp2
        go_ret
        exact ⟨rfl, bb⟩
  · obtain ⟨u0, t0, rfl, s0, r0⟩ := h0
    obtain ⟨A0, c0, rfl, _⟩ := id s0
    obtain ⟨D0, e0, rfl, _⟩ := id r0
    obtain ⟨u1, t1, rfl, s1, r1⟩ := h1
    obtain ⟨A1, c1, rfl, _⟩ := id s1
    obtain ⟨D1, e1, rfl, _⟩ := id r1
    obtain rfl : b = false := by rw [hb, decide_eq_false_iff_not]; exact fun e => hs (by rw [e])
    clear hb
    have HE : Hid ((ngB x.num == ngB y.num) = false) := by show _ = _; rw [beq_eq_false_iff_ne]; exact hs
    clear hs
    go_enter Try.func13, Try.ntmps13
    go_upto_region 1 with (fail)
    obtain ⟨wx, hwx, bb, B0, B1, hsz⟩ := vars2 w 36 36 #[.bool (ngB (x).num), .slice A0 (digs 4294967296 (x).num.natAbs).length c0, .slice D0 (digs 4294967296 (x).den).length e0] #[.bool (ngB (y).num), .slice A1 (digs 4294967296 (y).num.natAbs).length c1, .slice D1 (digs 4294967296 (y).den).length e1]
    rw [hwx]
    clear hwx
    have k0s := s0.below bb
    have k0d := r0.below bb
    have k0z : IsZ wx (.agg #[.bool (ngB (x).num), .slice A0 (digs 4294967296 (x).num.natAbs).length c0]) (x).num := ⟨_, rfl, k0s⟩
    have k0 : IsQ wx (.agg #[.bool (ngB (x).num), .slice A0 (digs 4294967296 (x).num.natAbs).length c0, .slice D0 (digs 4294967296 (x).den).length e0]) (x) := ⟨_, _, rfl, k0s, k0d⟩
    have k1s := s1.below bb
    have k1d := r1.below bb
    have k1z : IsZ wx (.agg #[.bool (ngB (y).num), .slice A1 (digs 4294967296 (y).num.natAbs).length c1]) (y).num := ⟨_, rfl, k1s⟩
    have k1 : IsQ wx (.agg #[.bool (ngB (y).num), .slice A1 (digs 4294967296 (y).num.natAbs).length c1, .slice D1 (digs 4294967296 (y).den).length e1]) (y) := ⟨_, _, rfl, k1s, k1d⟩
    have hsz0 := bb.size
    have sB := bb.size
    refine flowp 24 [Pd.eq (.pointer (some ⟨w.heap.size, 0, none⟩)), Pd.eq (.pointer (some ⟨w.heap.size, 0, none⟩)), Pd.eq (.bool (ngB (x).num)), Pd.eq (.pointer (some ⟨w.heap.size + 1, 0, none⟩)), Pd.eq (.pointer (some ⟨w.heap.size + 1, 0, none⟩)), Pd.eq (.bool (ngB (y).num)), Pd.eq (.bool false), Pd.eq (.bool false), Pd.any, Pd.any, Pd.any, Pd.any, Pd.any, Pd.any, Pd.any, Pd.eq (.bool false), Pd.eq (.bool false), Pd.any, Pd.any, Pd.any, Pd.any, Pd.any, Pd.eq (.bool false), Pd.eq (.bool false)] (by kernel_rfl) ?ob44 ?done44
    case ob44 =>
      refine And.intro (ob_fieldAddr rfl (wt_none rfl) (ev_far rfl rfl) (fun _ => by kernel_rfl) (fun _ => rfl)) ?_
      refine And.intro (ob_fieldAddr rfl (wt_none rfl) (ev_dep (j := 0) (by kernel_rfl) rfl rfl) (fun _ => by kernel_rfl) (fun _ => rfl)) ?_
      refine And.intro (ob_load rfl (wt_none rfl) (ev_dep (j := 1) (by kernel_rfl) rfl rfl) (fun w2 hb => run_load1 Try.underlying4 rfl ((B0.below hb).cell 0)) (fun _ _ => rfl)) ?_
      refine And.intro (ob_fieldAddr rfl (wt_none rfl) (ev_far rfl rfl) (fun _ => by kernel_rfl) (fun _ => rfl)) ?_
      refine And.intro (ob_fieldAddr rfl (wt_none rfl) (ev_dep (j := 3) (by kernel_rfl) rfl rfl) (fun _ => by kernel_rfl) (fun _ => rfl)) ?_
      refine And.intro (ob_load rfl (wt_none rfl) (ev_dep (j := 4) (by kernel_rfl) rfl rfl) (fun w2 hb => run_load1 Try.underlying4 rfl ((B1.below hb).cell 0)) (fun _ _ => rfl)) ?_
      refine And.intro (ob_bin rfl (wt_none rfl) (ev_dep (j := 2) (by kernel_rfl) rfl rfl) (ev_dep (j := 5) (by kernel_rfl) rfl rfl) (fun _ _ _ hx hy => ⟨.bool false, by rw [hx, hy]; exact (bin_eql_bool _ _ _ _ Try.underlying4 _).trans (by rw [HE.out]), rfl⟩)) ?_
      refine And.intro (ob_move rfl (wt_none rfl) (ev_dep (j := 6) (by kernel_rfl) rfl rfl) (fun _ _ h => h)) ?_
      refine And.intro (ob_not (wt_dep (c := false) (b := true) (g := 7) rfl (by kernel_rfl) rfl rfl rfl (by exact fun _ _ h => h)) (fun _ => trivial) rfl) ?_
      refine And.intro (ob_not (wt_dep (c := false) (b := true) (g := 7) rfl (by kernel_rfl) rfl rfl rfl (by exact fun _ _ h => h)) (fun _ => trivial) rfl) ?_
      refine And.intro (ob_not (wt_dep (c := false) (b := true) (g := 7) rfl (by kernel_rfl) rfl rfl rfl (by exact fun _ _ h => h)) (fun _ => trivial) rfl) ?_
      refine And.intro (ob_not (wt_dep (c := false) (b := true) (g := 7) rfl (by kernel_rfl) rfl rfl rfl (by exact fun _ _ h => h)) (fun _ => trivial) rfl) ?_
      refine And.intro (ob_not (wt_dep (c := false) (b := true) (g := 7) rfl (by kernel_rfl) rfl rfl rfl (by exact fun _ _ h => h)) (fun _ => trivial) rfl) ?_
      refine And.intro (ob_not (wt_dep (c := false) (b := true) (g := 7) rfl (by kernel_rfl) rfl rfl rfl (by exact fun _ _ h => h)) (fun _ => trivial) rfl) ?_
      refine And.intro (ob_not (wt_dep (c := false) (b := true) (g := 7) rfl (by kernel_rfl) rfl rfl rfl (by exact fun _ _ h => h)) (fun _ => trivial) rfl) ?_
      refine And.intro (ob_pick (b := false) rfl (wt_none rfl) (ev_dep (j := 7) (by kernel_rfl) rfl rfl) (ev_const _) (fun _ _ h => h)) ?_
      refine And.intro (ob_move rfl (wt_none rfl) (ev_dep (j := 15) (by kernel_rfl) rfl rfl) (fun _ _ h => h)) ?_
      refine And.intro (ob_not (wt_dep (c := false) (b := true) (g := 16) rfl (by kernel_rfl) rfl rfl rfl (by exact fun _ _ h => h)) (fun _ => trivial) rfl) ?_
      refine And.intro (ob_not (wt_dep (c := false) (b := true) (g := 16) rfl (by kernel_rfl) rfl rfl rfl (by exact fun _ _ h => h)) (fun _ => trivial) rfl) ?_
      refine And.intro (ob_not (wt_dep (c := false) (b := true) (g := 16) rfl (by kernel_rfl) rfl rfl rfl (by exact fun _ _ h => h)) (fun _ => trivial) rfl) ?_
      refine And.intro (ob_not (wt_dep (c := false) (b := true) (g := 16) rfl (by kernel_rfl) rfl rfl rfl (by exact fun _ _ h => h)) (fun _ => trivial) rfl) ?_
      refine And.intro (ob_not (wt_dep (c := false) (b := true) (g := 16) rfl (by kernel_rfl) rfl rfl rfl (by exact fun _ _ h => h)) (fun _ => trivial) rfl) ?_
      refine And.intro (ob_pick (b := false) rfl (wt_none rfl) (ev_dep (j := 16) (by kernel_rfl) rfl rfl) (ev_const _) (fun _ _ h => h)) ?_
      refine And.intro (ob_assign rfl (wt_none rfl) (ev_dep (j := 22) (by kernel_rfl) rfl rfl) (fun _ _ h => h)) ?_
      trivial
    case done44 =>
      refine fun w1 hb1 v0 h0 v1 h1 v2 h2 v3 h3 v4 h4 v5 h5 v6 h6 v7 h7 v8 h8 v9 h9 v10 h10 v11 h11 v12 h12 v13 h13 v14 h14 v15 h15 v16 h16 v17 h17 v18 h18 v19 h19 v20 h20 v21 h21 v22 h22 v23 h23 b hbf => ?_
      obtain rfl := h0; obtain rfl := h1; obtain rfl := h2; obtain rfl := h3; obtain rfl := h4; obtain rfl := h5; obtain rfl := h6; obtain rfl := h7; obtain rfl := h15; obtain rfl := h16; obtain rfl := h22; obtain rfl := h23
      clear h8
      clear h9
      clear h10
      clear h11
      clear h12
      clear h13
      clear h14
      clear h17
      clear h18
      clear h19
      clear h20
      clear h21
      simp only [Act.put, List.setIfInBounds_toArray, List.set_cons_zero, List.set_cons_succ] at hbf
      subst hbf
      replace B0 := B0.below hb1
      replace k0s := k0s.below hb1
      replace k0d := k0d.below hb1
      replace k0z := k0z.below hb1
      replace k0 := k0.below hb1
      replace B1 := B1.below hb1
      replace k1s := k1s.below hb1
      replace k1d := k1d.below hb1
      replace k1z := k1z.below hb1
      replace k1 := k1.below hb1
      replace bb := bb.trans (hb1.mono bb.size)
      have hsz1 := bb.size
      refine ops_done ?_
      go_wp2
      go_ret
      exact ⟨rfl, bb⟩
def HoldQ (w : World) (g : Nat) (q : Rat) : Prop := ∃ u t, Blk w g 36 #[.bool (ngB q.num), u, t] ∧ IsS w .u64 u (digs 4294967296 q.num.natAbs) ∧ IsS w .u64 t (digs 4294967296 q.den)
theorem HoldQ.below {w w' : World} {g : Nat} {q : Rat} (h : HoldQ w g q) (hb : Below w.heap.size w w') : HoldQ w' g q := by
  obtain ⟨u, t, h1, h2, h3⟩ := h
  exact ⟨u, t, h1.below hb, h2.below hb, h3.below hb⟩
/-- The sum, and the product, of these. -/
def sumq (l : List Rat) : Rat := l.foldl (· + ·) 0
/-- All from 0 to 1, and their sum 1. -/
def wholeQ (l : List Rat) : Prop := (∀ q ∈ l, ¬ q < 0 ∧ ¬ 1 < q) ∧ sumq l = 1
instance (l : List Rat) : Decidable (wholeQ l) := by unfold wholeQ; infer_instance
/-- A fraction of the document's own and an error's number; nothing and one. -/
def RetPE (q : Rat) (n : Int) (w : World) (e : Ending) (w' : World) : Prop := ∃ v, e = .returned (.tuple #[v, .int .i64 n]) ∧ IsP w' v q ∧ Below w.heap.size w w'
def ppn (q : Rat) (n : Int) : Pd := ⟨fun w t => ∃ v, t = .tuple #[v, .int .i64 n] ∧ IsP w v q, fun h hb => by obtain ⟨v, e, h1⟩ := h; exact ⟨v, e, h1.below hb⟩⟩
theorem RetPE.pd {q : Rat} {n : Int} {w : World} {e : Ending} {w' : World} (h : RetPE q n w e w') : RetPd (ppn q n) w e w' := by
  obtain ⟨v, h1, h2, h3⟩ := h
  exact ⟨_, h1, ⟨v, rfl, h2⟩, h3⟩
end Go.Proofs.Ytpcdkepkipadaaa.rat
namespace Go.Proofs.Ytpcdkepkipadaaa.rat
open Go.RowKit Go.ChangeShapes Go.WideShapes Go.ChangeAt Go.Joins Go.Deep Go.Proofs.Ytpcdkepkipadaaa.num Go.Proofs.Ytpcdkepkipadaaa.mem Go.Proofs.Ytpcdkepkipadaaa.nat Go.Proofs.Ytpcdkepkipadaaa.txt Go.Proofs.Ytpcdkepkipadaaa.str Go.Proofs.Ytpcdkepkipadaaa.flow Go.Proofs.Ytpcdkepkipadaaa.whl
set_option linter.unusedVariables false
/-- A slice of structs of a sign, limbs, and limbs, as it came in. -/
def ArgQs (w : World) (v : Value) : Prop := ∃ A n c, v = .slice A n c ∧ n ≤ c ∧ c ≤ maxLen ∧ ∀ i, i < n → ∃ ad b u t l m, A = some ad ∧ w.cell? (ad.add (i * 3)) = some (.bool b) ∧ w.cell? (ad.add (i * 3 + 1)) = some u ∧ w.cell? (ad.add (i * 3 + 2)) = some t ∧ IsS w .u64 u l ∧ Lt 18446744073709551616 l ∧ IsS w .u64 t m ∧ Lt 18446744073709551616 m
end Go.Proofs.Ytpcdkepkipadaaa.rat
namespace Go.Proofs.Ytpcdkepkipadaaa.rat
open Go.RowKit Go.Proofs.Ytpcdkepkipadaaa.num Go.Proofs.Ytpcdkepkipadaaa.mem Go.Proofs.Ytpcdkepkipadaaa.nat Go.Proofs.Ytpcdkepkipadaaa.txt Go.Proofs.Ytpcdkepkipadaaa.str Go.Proofs.Ytpcdkepkipadaaa.flow Go.Proofs.Ytpcdkepkipadaaa.whl
set_option linter.unusedVariables false
section
variable {P : Program}
/-- What an append leaves: slices elsewhere, rows and variables elsewhere are kept. -/
def Grew (w w' : World) (v v' : Value) : Prop := Keeps w w' v v' ∧ w.grownBy w' v.ownBlock ∧ ∀ g, g < w.heap.size → v.ownBlock ≠ some g → v'.ownBlock ≠ some g
end
theorem FarF.keep {k : IntKind} {B : Nat} {w w' : World} {v v' : Value} {ps : List Elt} (h : FarF k B w v ps) (hk : Keeps w w' v v') : FarF k B w' v' ps := fun r hr => by
  obtain ⟨⟨a1, a2⟩, b1, b2⟩ := h r hr
  have x1 := hk _ _ _ a1 b1
  have x2 := hk _ _ _ a2 b2
  exact ⟨⟨x1.1, x2.1⟩, x1.2, x2.2⟩
/-- The value is a slice of these ints. -/
def IsI (w : World) (v : Value) (l : List Int) : Prop := ∃ A c, v = .slice A l.length c ∧ l.length ≤ c ∧ c ≤ maxLen ∧ (∀ z ∈ l, -9223372036854775808 ≤ z ∧ z ≤ 9223372036854775807) ∧ ∀ (i : Nat) (z : Int), l[i]? = some z → ∃ ad, A = some ad ∧ w.cell? (ad.add i) = some (.int .i64 z)
theorem IsI.below {w w' : World} {v : Value} {l : List Int} (h : IsI w v l) (hb : Below w.heap.size w w') : IsI w' v l := by
  obtain ⟨A, c, e, h1, h2, hr, h3⟩ := h
  refine ⟨A, c, e, h1, h2, hr, fun i z hz => ?_⟩
  obtain ⟨ad, e2, c0⟩ := h3 i z hz
  exact ⟨ad, e2, (hb.cell (World.block_lt_of_cell? w _ c0)).trans c0⟩
theorem IsI.shape {w : World} {v : Value} {l : List Int} (h : IsI w v l) : ∃ A c, v = .slice A l.length c ∧ l.length ≤ c ∧ c ≤ maxLen := by
  obtain ⟨A, c, e, h1, h2, _⟩ := h
  exact ⟨A, c, e, h1, h2⟩
theorem IsI.at_ {w : World} {A : Option Addr} {n c : Nat} {l : List Int} {i : Nat} {z : Int} (h : IsI w (.slice A n c) l) (hz : l[i]? = some z) : ∃ ad, A = some ad ∧ i < n ∧ w.cell? (ad.add i) = some (.int .i64 z) ∧ -9223372036854775808 ≤ z ∧ z ≤ 9223372036854775807 := by
  obtain ⟨A', c', e, h1, h2, hr, h3⟩ := h
  injection e with e1 e2 e3
  subst e1; subst e2; subst e3
  obtain ⟨ad, e4, c0⟩ := h3 i z hz
  have := hr z (List.mem_of_getElem? hz)
  exact ⟨ad, e4, (List.getElem?_eq_some_iff.1 hz).1, c0, this.1, this.2⟩
/-- Fractions of the document's own, and an error's number. -/
def RetLE (l : List Rat) (n : Int) (w : World) (e : Ending) (w' : World) : Prop := ∃ V, e = .returned (.tuple #[V, .int .i64 n]) ∧ SlF .i64 10000 w' V (if n = 0 then l else []) ∧ Below w.heap.size w w'
end Go.Proofs.Ytpcdkepkipadaaa.rat
namespace Go.Proofs.Ytpcdkepkipadaaa.rat
open Go.RowKit Go.ChangeShapes Go.WideShapes Go.ChangeAt Go.Joins Go.Deep Go.Proofs.Ytpcdkepkipadaaa.num Go.Proofs.Ytpcdkepkipadaaa.mem Go.Proofs.Ytpcdkepkipadaaa.nat Go.Proofs.Ytpcdkepkipadaaa.txt Go.Proofs.Ytpcdkepkipadaaa.str Go.Proofs.Ytpcdkepkipadaaa.flow Go.Proofs.Ytpcdkepkipadaaa.whl
set_option linter.unusedVariables false
theorem ArgQs.below {w w' : World} {v : Value} (h : ArgQs w v) (hb : Below w.heap.size w w') : ArgQs w' v := by
  obtain ⟨A, n, c, e, h1, h2, h3⟩ := h
  refine ⟨A, n, c, e, h1, h2, fun i hi => ?_⟩
  obtain ⟨ad, b, u, t, l, m, e2, c0, c1, c2, k1, k2, k3, k4⟩ := h3 i hi
  exact ⟨ad, b, u, t, l, m, e2, (hb.cell (World.block_lt_of_cell? w _ c0)).trans c0, (hb.cell (World.block_lt_of_cell? w _ c1)).trans c1, (hb.cell (World.block_lt_of_cell? w _ c2)).trans c2, k1.below hb, k2, k3.below hb, k4⟩
/-- Fractions of the program's in a slice, and an error's number. -/
def RetQLE (l : List Rat) (n : Int) (w : World) (e : Ending) (w' : World) : Prop := ∃ V, e = .returned (.tuple #[V, .int .i64 n]) ∧ SlF .u64 4294967296 w' V (if n = 0 then l else []) ∧ Below w.heap.size w w'
def vi (l : List Int) : List Value := l.map (.int .i64)
theorem IsI.news {w : World} {A : Option Addr} {n c : Nat} {l : List Int} (h : IsI w (.slice A n c) l) : ∀ (i : Nat) (u : Value), (vi l)[i]? = some u → ∃ ad, A = some ad ∧ w.cell? (ad.add i) = some u := by
  intro i u hu
  rw [vi, List.getElem?_map] at hu
  cases hz : l[i]? with
  | none => rw [hz] at hu; cases hu
  | some z =>
    rw [hz] at hu
    obtain rfl := Option.some.inj hu
    obtain ⟨ad, h1, _, h2, _⟩ := h.at_ hz
    exact ⟨ad, h1, h2⟩
theorem IsI.take {w : World} {A : Option Addr} {n c : Nat} {l : List Int} (h : IsI w (.slice A n c) l) {m : Nat} (hm : m ≤ l.length) : IsI w (.slice A m c) (l.take m) := by
  obtain ⟨A', c', hv, h1, h2, h3, h4⟩ := h
  injection hv with e1 e2 e3
  subst e1; subst e2; subst e3
  refine ⟨A, c, by rw [List.length_take, Nat.min_eq_left hm], by rw [List.length_take]; omega, h2, fun z hz => h3 z (List.mem_of_mem_take hz), fun i z hz => h4 i z ?_⟩
  rw [List.getElem?_take] at hz
  split at hz
  · exact hz
  · cases hz
section
variable {P : Program}
end
end Go.Proofs.Ytpcdkepkipadaaa.rat
namespace Go.Proofs.Ytpcdkepkipadaaa.whl
open Go.RowKit Go.Proofs.Ytpcdkepkipadaaa.num Go.Proofs.Ytpcdkepkipadaaa.mem Go.Proofs.Ytpcdkepkipadaaa.nat Go.Proofs.Ytpcdkepkipadaaa.txt Go.Proofs.Ytpcdkepkipadaaa.str Go.Proofs.Ytpcdkepkipadaaa.flow
set_option linter.unusedVariables false
def prf (z : Int) (B : Nat) : Pd := ⟨fun w v => IsR w v z ∧ FreshZ B v, fun h hb => ⟨h.1.below hb, h.2⟩⟩
/-- The call's answer is this whole number, in new memory. -/
def RetRF (z : Int) (w : World) (e : Ending) (w' : World) : Prop := ∃ v, e = .returned v ∧ IsR w' v z ∧ FreshZ w.heap.size v ∧ Below w.heap.size w w'
theorem RetRF.pd {z : Int} {w : World} {e : Ending} {w' : World} {B : Nat} (h : RetRF z w e w') (hB : B ≤ w.heap.size) : RetPd (prf z B) w e w' := by
  obtain ⟨v, h1, h2, h3, h4⟩ := h
  exact ⟨v, h1, ⟨h2, h3.mono hB⟩, h4⟩
end Go.Proofs.Ytpcdkepkipadaaa.whl
namespace Go.Proofs.Ytpcdkepkipadaaa.rat
open Go.RowKit Go.Proofs.Ytpcdkepkipadaaa.num Go.Proofs.Ytpcdkepkipadaaa.mem Go.Proofs.Ytpcdkepkipadaaa.nat Go.Proofs.Ytpcdkepkipadaaa.txt Go.Proofs.Ytpcdkepkipadaaa.str Go.Proofs.Ytpcdkepkipadaaa.flow Go.Proofs.Ytpcdkepkipadaaa.whl
set_option linter.unusedVariables false
theorem SlF.drew {k : IntKind} {B : Nat} {w : World} {v : Value} {qs : List Rat} (h : SlF k B w v qs) : SlF k B w.drew v qs := h
/-- A slice of fractions is kept where a variable without ints is set that is not its row. -/
theorem SlF.off {k : IntKind} {B : Nat} {w w' : World} {v : Value} {qs : List Rat} {g : Nat} {e : TypeId} {cs : Array Value} (h : SlF k B w v qs) (hB : w.heap[g]? = some (.cells cs e (0, 0))) (hno : ∀ c ∈ cs, ∀ n, c ≠ .int k n) (hg : w.grownBy w' (some g)) (hne : v.ownBlock ≠ some g) : SlF k B w' v qs := by
  obtain ⟨ps, e1, ⟨A, c, rfl, h1, h2, h3⟩, h4⟩ := h
  have key : ∀ (g2 o2 : Nat) (x : Value), A = some ⟨g2, o2, none⟩ → ∀ j, w.cell? ⟨g2, j, none⟩ = some x → w'.cell? ⟨g2, j, none⟩ = some x := fun g2 o2 x hA j hc => by
    subst hA
    have hne2 : g2 ≠ g := fun e => hne (by subst e; rfl)
    have hb := hg.block g2 (World.block_lt_of_cell? w _ hc) (fun e => hne2 (by injection e))
    rw [← hc]
    simp only [World.cell?, hb]
  refine ⟨ps, e1, ⟨A, c, rfl, h1, h2, fun i p hp => ?_⟩, fun p hp => ⟨Go.Proofs.Ytpcdkepkipadaaa.flow.off (h4 p hp).1 hB hno hg, Go.Proofs.Ytpcdkepkipadaaa.flow.off (h4 p hp).2 hB hno hg⟩⟩
  obtain ⟨g2, o2, hA, c0, c1, c2⟩ := h3 i p hp
  exact ⟨g2, o2, hA, key g2 o2 _ hA _ c0, key g2 o2 _ hA _ c1, key g2 o2 _ hA _ c2⟩
/-- The lesser, and the greater one. -/
def minq (a b : Rat) : Rat := if b < a then b else a
def maxq (a b : Rat) : Rat := if a < b then b else a
def lowq (a : Rat) (l : List Rat) : Rat := l.foldl minq a
def higq (a : Rat) (l : List Rat) : Rat := l.foldl maxq a
/-- The least, and the greatest one of these (0 of none). -/
def leastq : List Rat → Rat
  | [] => 0
  | q :: l => lowq q l
def greatq : List Rat → Rat
  | [] => 0
  | q :: l => higq q l
theorem minq_le (a b : Rat) : minq a b ≤ a ∧ minq a b ≤ b := by unfold minq; split <;> grind
theorem le_maxq (a b : Rat) : a ≤ maxq a b ∧ b ≤ maxq a b := by unfold maxq; split <;> grind
theorem minq_or (a b : Rat) : minq a b = a ∨ minq a b = b := by unfold minq; split <;> simp
theorem maxq_or (a b : Rat) : maxq a b = a ∨ maxq a b = b := by unfold maxq; split <;> simp
theorem lowq_le (l : List Rat) : ∀ a, lowq a l ≤ a ∧ ∀ q ∈ l, lowq a l ≤ q := by
  induction l with
  | nil => intro a; exact ⟨Rat.le_refl, fun q h => by cases h⟩
  | cons b l ih =>
    intro a
    have h := ih (minq a b)
    have h2 := minq_le a b
    have e : lowq a (b :: l) = lowq (minq a b) l := rfl
    rw [e]
    refine ⟨Rat.le_trans h.1 h2.1, fun q hq => ?_⟩
    rcases List.mem_cons.1 hq with rfl | hq
    · exact Rat.le_trans h.1 h2.2
    · exact h.2 q hq
theorem le_higq (l : List Rat) : ∀ a, a ≤ higq a l ∧ ∀ q ∈ l, q ≤ higq a l := by
  induction l with
  | nil => intro a; exact ⟨Rat.le_refl, fun q h => by cases h⟩
  | cons b l ih =>
    intro a
    have h := ih (maxq a b)
    have h2 := le_maxq a b
    have e : higq a (b :: l) = higq (maxq a b) l := rfl
    rw [e]
    refine ⟨Rat.le_trans h2.1 h.1, fun q hq => ?_⟩
    rcases List.mem_cons.1 hq with rfl | hq
    · exact Rat.le_trans h2.2 h.1
    · exact h.2 q hq
theorem lowq_mem (l : List Rat) : ∀ a, lowq a l ∈ a :: l := by
  induction l with
  | nil => intro a; simp [lowq]
  | cons b l ih =>
    intro a
    have h := ih (minq a b)
    have e : lowq a (b :: l) = lowq (minq a b) l := rfl
    rw [e]
    rcases List.mem_cons.1 h with h | h
    · rw [h]
      rcases minq_or a b with k | k <;> rw [k] <;> simp
    · simp [h]
theorem higq_mem (l : List Rat) : ∀ a, higq a l ∈ a :: l := by
  induction l with
  | nil => intro a; simp [higq]
  | cons b l ih =>
    intro a
    have h := ih (maxq a b)
    have e : higq a (b :: l) = higq (maxq a b) l := rfl
    rw [e]
    rcases List.mem_cons.1 h with h | h
    · rw [h]
      rcases maxq_or a b with k | k <;> rw [k] <;> simp
    · simp [h]
theorem leastq_mem {l : List Rat} (h : l ≠ []) : leastq l ∈ l := by
  cases l with
  | nil => exact absurd rfl h
  | cons a l => exact lowq_mem l a
theorem greatq_mem {l : List Rat} (h : l ≠ []) : greatq l ∈ l := by
  cases l with
  | nil => exact absurd rfl h
  | cons a l => exact higq_mem l a
theorem leastq_le {l : List Rat} {q : Rat} (h : q ∈ l) : leastq l ≤ q := by
  cases l with
  | nil => cases h
  | cons a l =>
    rcases List.mem_cons.1 h with rfl | h
    · exact (lowq_le l _).1
    · exact (lowq_le l a).2 q h
theorem le_greatq {l : List Rat} {q : Rat} (h : q ∈ l) : q ≤ greatq l := by
  cases l with
  | nil => cases h
  | cons a l =>
    rcases List.mem_cons.1 h with rfl | h
    · exact (le_higq l _).1
    · exact (le_higq l a).2 q h
theorem leastq_eq {l : List Rat} {x : Rat} (hx : x ∈ l) (h : ∀ q ∈ l, x ≤ q) : leastq l = x :=
  Rat.le_antisymm (leastq_le hx) (h _ (leastq_mem (List.ne_nil_of_mem hx)))
theorem greatq_eq {l : List Rat} {x : Rat} (hx : x ∈ l) (h : ∀ q ∈ l, q ≤ x) : greatq l = x :=
  Rat.le_antisymm (h _ (greatq_mem (List.ne_nil_of_mem hx))) (le_greatq hx)
/-- All of these, rising. -/
def Sorts (ss qs : List Rat) : Prop := ss.Perm qs ∧ ss.Pairwise (· ≤ ·)
theorem Sorts.len {ss qs : List Rat} (h : Sorts ss qs) : ss.length = qs.length := h.1.length_eq
theorem Sorts.le {ss qs : List Rat} (h : Sorts ss qs) {i k : Nat} {x y : Rat} (hx : ss[i]? = some x) (hy : ss[k]? = some y) (hik : i < k) : x ≤ y := by
  obtain ⟨h1, rfl⟩ := List.getElem?_eq_some_iff.1 hx
  obtain ⟨h2, rfl⟩ := List.getElem?_eq_some_iff.1 hy
  exact List.pairwise_iff_getElem.1 h.2 i k h1 h2 hik
theorem Sorts.first {ss qs : List Rat} (h : Sorts ss qs) {x : Rat} (hx : ss[0]? = some x) : leastq qs = x := by
  refine leastq_eq (h.1.mem_iff.1 (List.mem_of_getElem? hx)) fun q hq => ?_
  obtain ⟨k, hk⟩ := List.mem_iff_getElem?.1 (h.1.mem_iff.2 hq)
  rcases Nat.eq_zero_or_pos k with rfl | h0
  · rw [hx] at hk; injection hk with hk; rw [hk]; exact Rat.le_refl
  · exact h.le hx hk h0
theorem Sorts.last {ss qs : List Rat} (h : Sorts ss qs) {x : Rat} {n : Nat} (hn : n + 1 = ss.length) (hx : ss[n]? = some x) : greatq qs = x := by
  refine greatq_eq (h.1.mem_iff.1 (List.mem_of_getElem? hx)) fun q hq => ?_
  obtain ⟨k, hk⟩ := List.mem_iff_getElem?.1 (h.1.mem_iff.2 hq)
  have hk2 : k < ss.length := (List.getElem?_eq_some_iff.1 hk).1
  rcases Nat.lt_or_ge k n with h0 | h0
  · exact h.le hk hx h0
  · obtain rfl : k = n := by omega
    rw [hx] at hk; injection hk with hk; rw [hk]; exact Rat.le_refl
theorem Sorts.count {ss qs : List Rat} (h : Sorts ss qs) (q : Rat) : ss.count q = qs.count q := h.1.count_eq q
/-- Two fractions, and an error's number. -/
def RetQ2 (x y : Rat) (n : Int) (w : World) (e : Ending) (w' : World) : Prop := ∃ v u, e = .returned (.tuple #[v, u, .int .i64 n]) ∧ IsQ w' v x ∧ IsQ w' u y ∧ Below w.heap.size w w'
def pq2 (x y : Rat) (n : Int) : Pd := ⟨fun w t => ∃ v u, t = .tuple #[v, u, .int .i64 n] ∧ IsQ w v x ∧ IsQ w u y, fun h hb => by obtain ⟨v, u, e, h1, h2⟩ := h; exact ⟨v, u, e, h1.below hb, h2.below hb⟩⟩
theorem RetQ2.pd {x y : Rat} {n : Int} {w : World} {e : Ending} {w' : World} (h : RetQ2 x y n w e w') : RetPd (pq2 x y n) w e w' := by
  obtain ⟨v, u, h1, h2, h3, h4⟩ := h
  exact ⟨_, h1, ⟨v, u, rfl, h2, h3⟩, h4⟩
/-- A row that holds something has a place, and lies in what there is. -/
theorem SlF.place {k : IntKind} {B : Nat} {w : World} {v : Value} {qs : List Rat} (h : SlF k B w v qs) (hne : qs ≠ []) : ∃ g o c, v = .slice (some ⟨g, o, none⟩) qs.length c ∧ g < w.heap.size ∧ qs.length ≤ c ∧ c ≤ maxLen := by
  obtain ⟨A, c, rfl, h1, h2⟩ := h.shape
  cases qs with
  | nil => exact absurd rfl hne
  | cons q qs =>
    obtain ⟨g, o, u, t, rfl, _, hc, _⟩ := h.at_ (i := 0) (q := q) rfl
    exact ⟨g, o, c, rfl, World.block_lt_of_cell? w _ hc, h1, h2⟩
/-- A row of nothing lies nowhere. -/
theorem SlF.any {k : IntKind} {B : Nat} {w w' : World} {v : Value} (h : SlF k B w v []) : SlF k B w' v [] := by
  obtain ⟨ps, hp, ⟨A, c, h1, h2, h3, _⟩, _⟩ := h
  obtain rfl : ps = [] := List.map_eq_nil_iff.1 hp
  exact ⟨[], rfl, ⟨A, c, h1, h2, h3, fun i p hp => by simp at hp⟩, fun p hp => by cases hp⟩
theorem SlF.lt {k : IntKind} {B : Nat} {w : World} {g o n c : Nat} {qs : List Rat} (h : SlF k B w (.slice (some ⟨g, o, none⟩) n c) qs) (hne : qs ≠ []) : g < w.heap.size := by
  obtain ⟨g', o', c', hv, h1, _⟩ := h.place hne
  injection hv with hA
  injection hA with hA
  injection hA with e1
  rw [e1]; exact h1
theorem SlF.take {k : IntKind} {B : Nat} {w : World} {A : Option Addr} {n c : Nat} {qs : List Rat} (h : SlF k B w (.slice A n c) qs) {m : Nat} (hm : m ≤ qs.length) : SlF k B w (.slice A m c) (qs.take m) := by
  obtain ⟨ps, rfl, ⟨A', c', hv, h1, h2, h3⟩, h4⟩ := h
  injection hv with e1 e2 e3
  subst e1; subst e2; subst e3
  rw [List.length_map] at hm
  refine ⟨ps.take m, by rw [List.map_take], ⟨A, c, by rw [List.length_take, Nat.min_eq_left hm], by rw [List.length_take]; omega, h2, fun i p hp => h3 i p ?_⟩, fun p hp => h4 p (List.mem_of_mem_take hp)⟩
  rw [List.getElem?_take] at hp
  split at hp
  · exact hp
  · cases hp
end Go.Proofs.Ytpcdkepkipadaaa.rat
namespace Go.Proofs.Ytpcdkepkipadaaa.flow
open Go.RowKit Go.Proofs.Ytpcdkepkipadaaa.num Go.Proofs.Ytpcdkepkipadaaa.mem Go.Proofs.Ytpcdkepkipadaaa.rat
set_option linter.unusedVariables false
section
variable {P : Program} {Q : Exit → Act → World → Prop} {ops : Array Oper} {L : List Oper} {Φ : List Pd} {w0 : World} {a0 : Act} {i : Nat} {o : Oper}
end
end Go.Proofs.Ytpcdkepkipadaaa.flow
namespace Go.Proofs.Ytpcdkepkipadaaa.rat
open Go.RowKit Go.Proofs.Ytpcdkepkipadaaa.num Go.Proofs.Ytpcdkepkipadaaa.mem Go.Proofs.Ytpcdkepkipadaaa.nat Go.Proofs.Ytpcdkepkipadaaa.txt Go.Proofs.Ytpcdkepkipadaaa.str Go.Proofs.Ytpcdkepkipadaaa.flow Go.Proofs.Ytpcdkepkipadaaa.whl
theorem IsI.drew {w : World} {v : Value} {l : List Int} (h : IsI w v l) : IsI w.drew v l := h
theorem IsI.off {w w' : World} {v : Value} {l : List Int} {g : Nat} {e : TypeId} {cs : Array Value} (h : IsI w v l) (hB : w.heap[g]? = some (.cells cs e (0, 0))) (hno : ∀ c ∈ cs, ∀ n, c ≠ .int .i64 n) (hg : w.grownBy w' (some g)) : IsI w' v l := by
  obtain ⟨A, c, rfl, h1, h2, h3, h4⟩ := h
  refine ⟨A, c, rfl, h1, h2, h3, fun i z hz => ?_⟩
  obtain ⟨ad, rfl, hc⟩ := h4 i z hz
  refine ⟨ad, rfl, hg.cell hc fun e1 => ?_⟩
  injection e1 with e1
  have hcell : ∀ q : Addr, q.block = g → w.cell? q = some (.int .i64 z) → False := by
    intro p hp hpc
    unfold World.cell? at hpc
    rw [hp, hB] at hpc
    simp only [] at hpc
    split at hpc
    · cases hpc
    · exact hno _ (Array.mem_of_getElem? hpc) _ rfl
  exact hcell _ e1 hc
/-- A slice of these, and an error's number. -/
def psl (k : IntKind) (B : Nat) (L : List Rat) (n : Int) : Pd := ⟨fun w t => ∃ V, t = .tuple #[V, .int .i64 n] ∧ SlF k B w V L, fun h hb => by obtain ⟨V, e, h1⟩ := h; exact ⟨V, e, h1.below hb⟩⟩
theorem RetQLE.pd {l : List Rat} {n : Int} {w : World} {e : Ending} {w' : World} (h : RetQLE l n w e w') : RetPd (psl .u64 4294967296 (if n = 0 then l else []) n) w e w' := by
  obtain ⟨V, h1, h2, h3⟩ := h
  exact ⟨_, h1, ⟨V, rfl, h2⟩, h3⟩
theorem RetLE.pd {l : List Rat} {n : Int} {w : World} {e : Ending} {w' : World} (h : RetLE l n w e w') : RetPd (psl .i64 10000 (if n = 0 then l else []) n) w e w' := by
  obtain ⟨V, h1, h2, h3⟩ := h
  exact ⟨_, h1, ⟨V, rfl, h2⟩, h3⟩
set_option linter.unusedVariables false
set_option linter.unusedSimpArgs false
/-- A sparse table: its struct in block g, its map in block b; it reads as T. -/
structure Spt (w : World) (g b R C : Nat) (T : List (List Rat)) : Prop where
  blk : Blk w g 50 #[.int .i64 (R : Int), .int .i64 (C : Int), .map (some b)]
  map : MapQ w b T
  shp : shp T R C
  hR : R ≤ 200
  hC : C ≤ 200
theorem Spt.below {w w' : World} {g b R C : Nat} {T : List (List Rat)} (h : Spt w g b R C T) (hb : Below w.heap.size w w') : Spt w' g b R C T := ⟨h.blk.below hb, h.map.below hb, h.shp, h.hR, h.hC⟩
theorem Spt.drew {w : World} {g b R C : Nat} {T : List (List Rat)} (h : Spt w g b R C T) : Spt w.drew g b R C T := h.below (Below.refl _ w).drew
theorem Spt.cells {w : World} {g b R C : Nat} {T : List (List Rat)} (h : Spt w g b R C T) : w.cell? ⟨g, 0, none⟩ = some (.int .i64 (R : Int)) ∧ w.cell? ⟨g, 1, none⟩ = some (.int .i64 (C : Int)) ∧ w.cell? ⟨g, 2, none⟩ = some (.map (some b)) := ⟨h.blk.cell 0, h.blk.cell 1, h.blk.cell 2⟩
set_option maxHeartbeats 1600000 in
set_option maxRecDepth 100000 in
theorem among_any (x n : Int) (b : Bool) (w : World) (hb : b = decide (0 ≤ x ∧ x < n)) : Calls Try.prog 19 #[.int .i64 x, .int .i64 n] w (RetV (.bool b) w) := by
  have HB := Lib.hid hb
  clear hb
  by_cases h1 : 0 ≤ x
  · by_cases h2 : x < n
    · have HW : Hid (b = true) := by show _ = _; rw [HB.out]; exact decide_eq_true ⟨h1, h2⟩
      go_enter Try.func19, Try.ntmps19
      go_wp2
      go_ret
      exact ⟨by rw [HW.out]; simp [h1, h2], Below.refl _ _⟩
    · have HW : Hid (b = false) := by show _ = _; rw [HB.out]; exact decide_eq_false (fun h => h2 h.2)
      go_enter Try.func19, Try.ntmps19
      go_wp2
      go_ret
      exact ⟨by rw [HW.out]; simp [h1, h2], Below.refl _ _⟩
  · have HW : Hid (b = false) := by show _ = _; rw [HB.out]; exact decide_eq_false (fun h => h1 h.1)
    go_enter Try.func19, Try.ntmps19
    go_wp2
    go_ret
    exact ⟨by rw [HW.out]; simp [h1], Below.refl _ _⟩
set_option maxHeartbeats 1600000 in
set_option maxRecDepth 100000 in
theorem made_nil (w : World) : Calls Try.prog 16 #[.pointer none] w (RetV (.bool false) w) := by
  go_enter Try.func16, Try.ntmps16
  go_wp2
  go_ret
  exact ⟨rfl, Below.refl _ _⟩
set_option maxHeartbeats 1600000 in
set_option maxRecDepth 100000 in
theorem made_any (g b R C : Nat) (T : List (List Rat)) (w : World) (h : Spt w g b R C T) : Calls Try.prog 16 #[.pointer (some ⟨g, 0, none⟩)] w (RetV (.bool true) w) := by
  obtain ⟨-, -, c2⟩ := h.cells
  have hm := fun w => run_neq_map_nil (P := Try.prog) w 48 54 36 (some b) Try.underlying48
  go_enter Try.func16, Try.ntmps16
  go_wp2
  go_ret
  exact ⟨rfl, Below.refl _ _⟩
set_option maxHeartbeats 1600000 in
set_option maxRecDepth 100000 in
theorem mcells_nil (w : World) : Calls Try.prog 25 #[.pointer none] w (RetV (.map none) w) := by
  go_enter Try.func25, Try.ntmps25
  go_wp2
  go_ret
  exact ⟨rfl, Below.refl _ _⟩
set_option maxHeartbeats 1600000 in
set_option maxRecDepth 100000 in
theorem mcells_any (g b R C : Nat) (T : List (List Rat)) (w : World) (h : Spt w g b R C T) : Calls Try.prog 25 #[.pointer (some ⟨g, 0, none⟩)] w (RetV (.map (some b)) w) := by
  obtain ⟨-, -, c2⟩ := h.cells
  go_enter Try.func25, Try.ntmps25
  go_wp2
  go_ret
  exact ⟨rfl, Below.refl _ _⟩
set_option maxHeartbeats 1600000 in
set_option maxRecDepth 100000 in
theorem ssize_nil (w : World) : Calls Try.prog 5 #[.pointer none] w (RetV (.tuple #[.int .i64 0, .int .i64 0]) w) := by
  go_enter Try.func5, Try.ntmps5
  go_wp2
  go_ret2
  exact ⟨rfl, Below.refl _ _⟩
set_option maxHeartbeats 1600000 in
set_option maxRecDepth 100000 in
theorem scount_nil (w : World) : Calls Try.prog 10 #[.pointer none] w (RetV (.int .i64 0) w) := by
  have hl := fun w ty => Maps.len_nil (P := Try.prog) (w := w) Try.underlying48 ty
  go_enter Try.func10, Try.ntmps10
  go_wp2_with fail
  refine (mcells_nil _).mono ?_
  rintro e w2 ⟨rfl, b2⟩
  go_wp2
  go_ret
  exact ⟨rfl, b2⟩
set_option maxHeartbeats 1600000 in
set_option maxRecDepth 100000 in
theorem scount_any (g b R C : Nat) (T : List (List Rat)) (w : World) (h : Spt w g b R C T) : Calls Try.prog 10 #[.pointer (some ⟨g, 0, none⟩)] w (RetV (.int .i64 (cntT T : Int)) w) := by
  go_enter Try.func10, Try.ntmps10
  go_wp2_with fail
  refine (mcells_any _ _ _ _ _ _ h).mono ?_
  rintro e w2 ⟨rfl, b2⟩
  have hl := fun ty => (h.below b2).map.len ty
  go_wp2
  go_ret
  exact ⟨rfl, b2⟩
/-- A new sparse table, and no error. -/
def RetNew (R C : Nat) (T : List (List Rat)) (w : World) (e : Ending) (w' : World) : Prop := ∃ g b, e = .returned (.tuple #[.pointer (some ⟨g, 0, none⟩), .int .i64 0]) ∧ Spt w' g b R C T ∧ w.heap.size ≤ g ∧ w.heap.size ≤ b ∧ Below w.heap.size w w'
set_option maxHeartbeats 1600000 in
set_option maxRecDepth 100000 in
theorem snew_ok (R C : Nat) (w : World) (hR : R ≤ 200) (hC : C ≤ 200) : Calls Try.prog 15 #[.int .i64 (R : Int), .int .i64 (C : Int)] w (RetNew R C (zerosT R C) w) := by
  have hmm := @run_makeMap Try.prog
  go_enter Try.func15, Try.ntmps15
  go_wp2_with fail
  refine (among_any _ 201 true _ (decide_eq_true ⟨by omega, by omega⟩).symm).mono ?_
  rintro e w2 ⟨rfl, b2⟩
  go_wp2_with fail
  refine (among_any _ 201 true _ (decide_eq_true ⟨by omega, by omega⟩).symm).mono ?_
  rintro e w3 ⟨rfl, b3⟩
  have bb := b2.trans (b3.mono b2.size)
  have ba := below_alloc (w := w3) (Nat.le_refl _) (.map #[] 0)
  have hM := mapQ_made w3 R C
  have hs1 : (w3.alloc (.map #[] 0)).heap.size = w3.heap.size + 1 := by first | rfl | exact Array.size_push _
  have ba2 := below_alloc (w := w3.alloc (.map #[] 0)) (Nat.le_refl _) (.cells #[.int .i64 (R : Int), .int .i64 (C : Int), .map (some w3.heap.size)] 50)
  have hB := Blk.new (w3.alloc (.map #[] 0)) 50 #[.int .i64 (R : Int), .int .i64 (C : Int), .map (some w3.heap.size)]
  have hsz := bb.size
  rw [hs1] at hB
  have HEND := Lib.hid (⟨_, _, rfl, ⟨hB, hM.below ba2, shp_zeros R C, hR, hC⟩, by omega, by omega, bb.trans ((ba.trans (ba2.mono ba.size)).mono bb.size)⟩ : RetNew R C (zerosT R C) w (.returned (.tuple #[.pointer (some ⟨w3.heap.size + 1, 0, none⟩), .int .i64 0])) _)
  clear ba ba2 hM hB
  go_wp2
  go_ret2
  exact HEND.out
section
variable {P : Program}
end
/-- A row of two rows. -/
def Two (w : World) (v : Value) (p q : List Rat) : Prop := ∃ u0 u1, IsV w v [u0, u1] ∧ SlF .u64 4294967296 w u0 p ∧ SlF .u64 4294967296 w u1 q
theorem Two.below {w w' : World} {v : Value} {p q : List Rat} (h : Two w v p q) (hb : Below w.heap.size w w') : Two w' v p q := by
  obtain ⟨u0, u1, h1, h2, h3⟩ := h
  exact ⟨u0, u1, h1.below hb, h2.below hb, h3.below hb⟩
section
variable {P : Program} {Q : Exit → Act → World → Prop} {ops : Array Oper} {L : List Oper} {Φ : List Pd} {w0 : World} {a0 : Act} {i : Nat} {o : Oper}
end
/-- Limbs in new memory; a row in new memory, limbs and all. -/
def NewL (B : Nat) (ps : List Elt) : Prop := ∀ p ∈ ps, Fresh B p.2.1 ∧ Fresh B p.2.2
theorem NewL.nil (B : Nat) : NewL B [] := fun p hp => by cases hp
theorem NewL.snoc {B : Nat} {ps : List Elt} {p : Elt} (h : NewL B ps) (h1 : Fresh B p.2.1) (h2 : Fresh B p.2.2) : NewL B (ps ++ [p]) := fun a ha => by
  rcases List.mem_append.1 ha with ha | ha
  · exact h a ha
  · rw [List.mem_singleton.1 ha]; exact ⟨h1, h2⟩
def IsN (k : IntKind) (B : Nat) (w : World) (B0 : Nat) (v : Value) (r : List Rat) : Prop := ∃ ps : List Elt, ps.map (·.1) = r ∧ IsVF w v ps ∧ (∀ p ∈ ps, IsE k B w p ∧ Fresh B0 p.2.1 ∧ Fresh B0 p.2.2) ∧ ∀ g, v.ownBlock = some g → B0 ≤ g ∧ g < w.heap.size
theorem IsN.below {k : IntKind} {B : Nat} {w w' : World} {B0 : Nat} {v : Value} {r : List Rat} (h : IsN k B w B0 v r) (hb : Below w.heap.size w w') : IsN k B w' B0 v r := by
  obtain ⟨ps, h1, h2, h3, h4⟩ := h
  exact ⟨ps, h1, h2.below hb, fun p hp => ⟨(h3 p hp).1.below hb, (h3 p hp).2⟩, fun g hg => ⟨(h4 g hg).1, Nat.lt_of_lt_of_le (h4 g hg).2 hb.size⟩⟩
theorem IsN.mono {k : IntKind} {B : Nat} {w : World} {B0 B1 : Nat} {v : Value} {r : List Rat} (h : IsN k B w B0 v r) (hb : B1 ≤ B0) : IsN k B w B1 v r := by
  obtain ⟨ps, h1, h2, h3, h4⟩ := h
  exact ⟨ps, h1, h2, fun p hp => ⟨(h3 p hp).1, (h3 p hp).2.1.mono hb, (h3 p hp).2.2.mono hb⟩, fun g hg => ⟨Nat.le_trans hb (h4 g hg).1, (h4 g hg).2⟩⟩
/-- A slice of slices of fractions. -/
def SlT (k : IntKind) (B : Nat) (w : World) (v : Value) (t : List (List Rat)) : Prop := ∃ us : List Value, us.length = t.length ∧ (∃ A c, v = .slice A us.length c ∧ us.length ≤ c ∧ c ≤ maxLen ∧ ∀ (i : Nat) (u : Value), us[i]? = some u → ∃ ad, A = some ad ∧ w.cell? (ad.add i) = some u) ∧ ∀ (i : Nat) (u : Value) (r : List Rat), us[i]? = some u → t[i]? = some r → SlF k B w u r
theorem SlT.below {k : IntKind} {B : Nat} {w w' : World} {v : Value} {t : List (List Rat)} (h : SlT k B w v t) (hb : Below w.heap.size w w') : SlT k B w' v t := by
  obtain ⟨us, h1, ⟨A, c, e, h2, h3, h4⟩, h5⟩ := h
  refine ⟨us, h1, ⟨A, c, e, h2, h3, fun i u hu => ?_⟩, fun i u r hu hr => (h5 i u r hu hr).below hb⟩
  obtain ⟨ad, ha, hc⟩ := h4 i u hu
  exact ⟨ad, ha, (hb.cell (World.block_lt_of_cell? w _ hc)).trans hc⟩
theorem SlT.shape {k : IntKind} {B : Nat} {w : World} {v : Value} {t : List (List Rat)} (h : SlT k B w v t) : ∃ A c, v = .slice A t.length c ∧ t.length ≤ c ∧ c ≤ maxLen := by
  obtain ⟨us, h1, ⟨A, c, e, h2, h3, _⟩, _⟩ := h
  exact ⟨A, c, by rw [e, h1], by omega, h3⟩
theorem SlT.at_ {k : IntKind} {B : Nat} {w : World} {A : Option Addr} {n c i : Nat} {t : List (List Rat)} {r : List Rat} (h : SlT k B w (.slice A n c) t) (hr : t[i]? = some r) : ∃ ad Ar cr, A = some ad ∧ i < n ∧ w.cell? (ad.add i) = some (.slice Ar r.length cr) ∧ SlF k B w (.slice Ar r.length cr) r := by
  obtain ⟨us, h1, ⟨A', c', e, h2, h3, h4⟩, h5⟩ := h
  injection e with e1 e2 e3
  subst e1; subst e2; subst e3
  have hi : i < us.length := by have := (List.getElem?_eq_some_iff.1 hr).1; omega
  obtain ⟨ad, ha, hc⟩ := h4 i _ (List.getElem?_eq_getElem hi)
  have hs := h5 i _ r (List.getElem?_eq_getElem hi) hr
  obtain ⟨Ar, cr, e, _, _⟩ := hs.shape
  rw [e] at hc hs
  exact ⟨ad, Ar, cr, ha, hi, hc, hs⟩
/-- A slice of these rows; and an error's number. -/
def RetSlT (k : IntKind) (B : Nat) (t : List (List Rat)) (w : World) (e : Ending) (w' : World) : Prop := ∃ V, e = .returned V ∧ SlT k B w' V t ∧ Below w.heap.size w w'
def RetTE (t : List (List Rat)) (n : Int) (w : World) (e : Ending) (w' : World) : Prop := ∃ V, e = .returned (.tuple #[V, .int .i64 n]) ∧ SlT .u64 4294967296 w' V (if n = 0 then t else []) ∧ Below w.heap.size w w'
def pst (k : IntKind) (B : Nat) (t : List (List Rat)) : Pd := ⟨fun w v => SlT k B w v t, fun h hb => h.below hb⟩
def pste (t : List (List Rat)) (n : Int) : Pd := ⟨fun w v => ∃ V, v = .tuple #[V, .int .i64 n] ∧ SlT .u64 4294967296 w V t, fun h hb => by obtain ⟨V, e, h1⟩ := h; exact ⟨V, e, h1.below hb⟩⟩
theorem RetTE.pd {t : List (List Rat)} {n : Int} {w : World} {e : Ending} {w' : World} (h : RetTE t n w e w') : RetPd (pste (if n = 0 then t else []) n) w e w' := by
  obtain ⟨V, h1, h2, h3⟩ := h
  exact ⟨_, h1, ⟨V, rfl, h2⟩, h3⟩
theorem RetSlT.pd {k : IntKind} {B : Nat} {t : List (List Rat)} {w : World} {e : Ending} {w' : World} (h : RetSlT k B t w e w') : RetPd (pst k B t) w e w' := by
  obtain ⟨V, h1, h2, h3⟩ := h
  exact ⟨V, h1, h2, h3⟩
/-! Tables that a call makes by append. -/
/-- A row of fractions that lies elsewhere, limbs and all. -/
def FarS (k : IntKind) (B : Nat) (w : World) (v u : Value) (r : List Rat) : Prop := ∃ ps : List Elt, ps.map (·.1) = r ∧ IsVF w u ps ∧ FarF k B w v ps ∧ ∀ g, u.ownBlock = some g → g < w.heap.size ∧ v.ownBlock ≠ some g
theorem FarS.below {k : IntKind} {B : Nat} {w w' : World} {v u : Value} {r : List Rat} (h : FarS k B w v u r) (hb : Below w.heap.size w w') : FarS k B w' v u r := by
  obtain ⟨ps, h1, h2, h3, h4⟩ := h
  exact ⟨ps, h1, h2.below hb, h3.below hb, fun g hg => ⟨Nat.lt_of_lt_of_le (h4 g hg).1 hb.size, (h4 g hg).2⟩⟩
theorem FarS.keep {k : IntKind} {B : Nat} {w w' : World} {v v' u : Value} {r : List Rat} (h : FarS k B w v u r) (hk : Grew w w' v v') : FarS k B w' v' u r := by
  obtain ⟨ps, h1, ⟨A, c, e, h2, h2', h2''⟩, h3, h4⟩ := h
  obtain ⟨k1, k2, k3⟩ := hk
  refine ⟨ps, h1, ⟨A, c, e, h2, h2', fun i p hp => ?_⟩, h3.keep k1, fun g hg => ⟨Nat.lt_of_lt_of_le (h4 g hg).1 k2.size, k3 g (h4 g hg).1 (h4 g hg).2⟩⟩
  obtain ⟨g, o, rfl, c0, c1, c2⟩ := h2'' i p hp
  have hne : some g ≠ v.ownBlock := fun e' => (h4 g (by rw [e]; rfl)).2 e'.symm
  exact ⟨g, o, rfl, k2.cell c0 hne, k2.cell c1 hne, k2.cell c2 hne⟩
theorem IsN.far {k : IntKind} {B : Nat} {w : World} {B0 : Nat} {v u : Value} {r : List Rat} (h : IsN k B w B0 u r) (hv : ∀ g, v.ownBlock = some g → g < B0) : FarS k B w v u r := by
  obtain ⟨ps, h1, h2, h3, h4⟩ := h
  exact ⟨ps, h1, h2, fun p hp => ⟨(h3 p hp).1, (h3 p hp).2.1.far hv, (h3 p hp).2.2.far hv⟩, fun g hg => ⟨(h4 g hg).2, fun e => by have h5 := hv _ e; have h6 := (h4 g hg).1; omega⟩⟩
def TabF (k : IntKind) (B : Nat) (w : World) (v : Value) (us : List Value) (t : List (List Rat)) : Prop := us.length = t.length ∧ ∀ (i : Nat) (u : Value) (r : List Rat), us[i]? = some u → t[i]? = some r → FarS k B w v u r
theorem TabF.nil (k : IntKind) (B : Nat) (w : World) (v : Value) : TabF k B w v [] [] := ⟨rfl, fun i u r hu => by simp at hu⟩
theorem TabF.below {k : IntKind} {B : Nat} {w w' : World} {v : Value} {us : List Value} {t : List (List Rat)} (h : TabF k B w v us t) (hb : Below w.heap.size w w') : TabF k B w' v us t := ⟨h.1, fun i u r hu hr => (h.2 i u r hu hr).below hb⟩
theorem TabF.keep {k : IntKind} {B : Nat} {w w' : World} {v v' : Value} {us : List Value} {t : List (List Rat)} (h : TabF k B w v us t) (hk : Grew w w' v v') : TabF k B w' v' us t := ⟨h.1, fun i u r hu hr => (h.2 i u r hu hr).keep hk⟩
theorem TabF.snoc {k : IntKind} {B : Nat} {w w' : World} {v v' u : Value} {us : List Value} {t : List (List Rat)} {r : List Rat} (h : TabF k B w v us t) (hk : Grew w w' v v') (hu : FarS k B w v u r) : TabF k B w' v' (us ++ [u]) (t ++ [r]) := by
  have h0 := h.1
  have hk2 := h.keep hk
  refine ⟨by simp [h0], fun i a b ha hb => ?_⟩
  by_cases hi : i < us.length
  · rw [List.getElem?_append_left hi] at ha
    rw [List.getElem?_append_left (by omega)] at hb
    exact hk2.2 i a b ha hb
  · rw [List.getElem?_append_right (by omega)] at ha
    rw [List.getElem?_append_right (by omega), ← h0] at hb
    rcases hj : i - us.length with _ | j
    · rw [hj] at ha hb
      obtain rfl : u = a := by simpa using ha
      obtain rfl : r = b := by simpa using hb
      exact hu.keep hk
    · rw [hj] at ha
      simp at ha
end Go.Proofs.Ytpcdkepkipadaaa.rat
namespace Go.Proofs.Ytpcdkepkipadaaa.flow
open Go.RowKit Go.Proofs.Ytpcdkepkipadaaa.num Go.Proofs.Ytpcdkepkipadaaa.mem Go.Proofs.Ytpcdkepkipadaaa.whl Go.Proofs.Ytpcdkepkipadaaa.rat
set_option linter.unusedVariables false
section
variable {P : Program} {Q : Exit → Act → World → Prop} {ops : Array Oper} {L : List Oper} {Φ : List Pd} {w0 : World} {a0 : Act} {i : Nat} {o : Oper}
end
end Go.Proofs.Ytpcdkepkipadaaa.flow
namespace Go.Proofs.Ytpcdkepkipadaaa.flow
open Go.RowKit Go.Proofs.Ytpcdkepkipadaaa.num Go.Proofs.Ytpcdkepkipadaaa.mem
set_option linter.unusedVariables false
/-- What the chain owes: in each such state it yields a value as told, in every world that holds what was there. -/
def LatesH (P : Program) (ops : Array Oper) (L : List Oper) (Φ : List Pd) (wB w0 : World) (a0 : Act) : List Nat → Prop
  | [] => True
  | q :: qs => (∃ oq, L[q]? = some oq ∧ ∀ ms w1, St L Φ w0 oq ms w1 → ∃ v, YieldsIf P ops (fun w2 => Below wB.heap.size wB w2) oq v (putM a0 L ms) ∧ (ph Φ q).p w1 v) ∧ LatesH P ops L Φ wB w0 a0 qs
theorem LatesH.at_ {P : Program} {ops : Array Oper} {L : List Oper} {Φ : List Pd} {wB w0 : World} {a0 : Act} : ∀ (pre : List Nat) (q : Nat) (rest : List Nat), LatesH P ops L Φ wB w0 a0 (pre ++ q :: rest) → ∃ oq, L[q]? = some oq ∧ ∀ ms w1, St L Φ w0 oq ms w1 → ∃ v, YieldsIf P ops (fun w2 => Below wB.heap.size wB w2) oq v (putM a0 L ms) ∧ (ph Φ q).p w1 v
  | [], q, rest, h => h.1
  | a :: pre, q, rest, h => LatesH.at_ pre q rest h.2
section
variable {P : Program} {ops : Array Oper} {L : List Oper} {Φ : List Pd} {wB w0 : World} {a0 : Act} {o : Oper} {G : Pd} {Q : Exit → Act → World → Prop}
variable {S : World → Prop}
end
end Go.Proofs.Ytpcdkepkipadaaa.flow
namespace Go.Proofs.Ytpcdkepkipadaaa.rat
open Go.RowKit Go.Proofs.Ytpcdkepkipadaaa.num Go.Proofs.Ytpcdkepkipadaaa.mem Go.Proofs.Ytpcdkepkipadaaa.nat Go.Proofs.Ytpcdkepkipadaaa.txt Go.Proofs.Ytpcdkepkipadaaa.str Go.Proofs.Ytpcdkepkipadaaa.flow Go.Proofs.Ytpcdkepkipadaaa.whl
set_option linter.unusedVariables false
theorem cells3_len (p : Elt) : (cells3 p).length = 3 := rfl
theorem flat3_len (ps : List Elt) : (flat3 ps).length = ps.length * 3 := by
  induction ps with
  | nil => rfl
  | cons p ps ih => show (cells3 p ++ flat3 ps).length = _; rw [List.length_append, ih, cells3_len, List.length_cons]; omega
theorem flat3_cons (p : Elt) (ps : List Elt) : flat3 (p :: ps) = cells3 p ++ flat3 ps := rfl
theorem flat3_set : ∀ (ps : List Elt) (i : Nat) (p : Elt), i < ps.length → (flat3 ps).take (i * 3) ++ cells3 p ++ (flat3 ps).drop (i * 3 + 3) = flat3 (ps.set i p)
  | [], i, p, h => by simp at h
  | q :: ps, 0, p, h => by
    rw [List.set_cons_zero, flat3_cons, flat3_cons]
    simp [cells3]
  | q :: ps, i + 1, p, h => by
    have ih := flat3_set ps i p (by simpa using h)
    rw [List.set_cons_succ, flat3_cons, flat3_cons, ← ih, show (i + 1) * 3 = i * 3 + 1 + 1 + 1 from by omega, show i * 3 + 1 + 1 + 1 + 3 = i * 3 + 3 + 1 + 1 + 1 from by omega]
    simp [cells3]
/-- The block holds so many elements; the first ones read as these fractions. -/
def RowN (w : World) (g n : Nat) (qs : List Rat) : Prop := ∃ ps : List Elt, ps.length = n ∧ qs.length ≤ n ∧ Blk w g 36 (flat3 ps).toArray ∧ (∀ p ∈ ps, (∃ A m c, p.2.1 = .slice A m c) ∧ ∃ A m c, p.2.2 = .slice A m c) ∧ ∀ (i : Nat) (q : Rat), qs[i]? = some q → ∃ p, ps[i]? = some p ∧ p.1 = q ∧ IsE .u64 4294967296 w p
theorem RowN.below {w w' : World} {g n : Nat} {qs : List Rat} (h : RowN w g n qs) (hb : Below w.heap.size w w') : RowN w' g n qs := by
  obtain ⟨ps, h1, h2, h3, h4, h5⟩ := h
  refine ⟨ps, h1, h2, h3.below hb, h4, fun i q hq => ?_⟩
  obtain ⟨p, k1, k2, k3⟩ := h5 i q hq
  exact ⟨p, k1, k2, k3.below hb⟩
theorem RowN.drew {w : World} {g n : Nat} {qs : List Rat} (h : RowN w g n qs) : RowN w.drew g n qs := h
theorem RowN.lt {w : World} {g n : Nat} {qs : List Rat} (h : RowN w g n qs) : g < w.heap.size := by
  obtain ⟨ps, _, _, h3, _⟩ := h
  exact h3.lt
theorem RowN.le {w : World} {g n : Nat} {qs : List Rat} (h : RowN w g n qs) : qs.length ≤ n := by
  obtain ⟨ps, _, h2, _⟩ := h
  exact h2
theorem flat3_mem {ps : List Elt} {c : Value} (h : c ∈ flat3 ps) : ∃ p ∈ ps, c ∈ cells3 p := List.mem_flatMap.1 h
theorem no_ints_flat {k : IntKind} {ps : List Elt} (h4 : ∀ p ∈ ps, (∃ A m c, p.2.1 = .slice A m c) ∧ ∃ A m c, p.2.2 = .slice A m c) : ∀ c ∈ (flat3 ps).toArray, ∀ n, c ≠ .int k n := by
  intro c hc n
  obtain ⟨p, hp, hc⟩ := flat3_mem (List.mem_toArray.1 hc)
  obtain ⟨⟨A, m, d, e1⟩, ⟨A', m', d', e2⟩⟩ := h4 p hp
  simp only [cells3, e1, e2, List.mem_cons, List.not_mem_nil, or_false] at hc
  rcases hc with rfl | rfl | rfl <;> simp
/-- A list of limbs is kept where the row is written. -/
theorem RowN.keep {w w' : World} {g n : Nat} {qs : List Rat} {k : IntKind} {v : Value} {l : List Nat} (h : RowN w g n qs) (hg : w.grownBy w' (some g)) (hs : IsS w k v l) : IsS w' k v l := by
  obtain ⟨ps, _, _, h3, h4, _⟩ := h
  exact Go.Proofs.Ytpcdkepkipadaaa.flow.off hs h3 (no_ints_flat h4) hg
/-- One of them. -/
theorem RowN.at_ {w : World} {g n i : Nat} {qs : List Rat} {q : Rat} (h : RowN w g n qs) (hq : qs[i]? = some q) : ∃ u t, i < n ∧ w.cell? ⟨g, 0 + i * 3, none⟩ = some (.bool (ngB q.num)) ∧ w.cell? ⟨g, 0 + i * 3 + 1, none⟩ = some u ∧ w.cell? ⟨g, 0 + i * 3 + 2, none⟩ = some t ∧ IsS w .u64 u (digs 4294967296 q.num.natAbs) ∧ IsS w .u64 t (digs 4294967296 q.den) := by
  obtain ⟨ps, h1, h2, h3, h4, h5⟩ := h
  obtain ⟨p, k1, rfl, k3⟩ := h5 i q hq
  obtain ⟨f0, f1, f2⟩ := flat3_at ps i p k1
  have hi := (List.getElem?_eq_some_iff.1 k1).1
  rw [Nat.zero_add]
  refine ⟨p.2.1, p.2.2, by omega, ?_, ?_, ?_, k3.1, k3.2⟩
  · rw [h3.cell, List.getElem?_toArray]; exact f0
  · rw [h3.cell, List.getElem?_toArray]; exact f1
  · rw [h3.cell, List.getElem?_toArray]; exact f2
section
variable {P : Program}
/-- The row is written at one place. -/
theorem RowN.put {w w' : World} {g n i : Nat} {qs : List Rat} {q : Rat} {u t : Value} (h : RowN w g n qs) (hi : i < n) (hu : IsS w .u64 u (digs 4294967296 q.num.natAbs)) (ht : IsS w .u64 t (digs 4294967296 q.den)) (hg : w.grownBy w' (some g)) (hc : ∀ cs, Blk w g 36 cs → Blk w' g 36 (cs.toList.take (0 + i * 3) ++ [.bool (ngB q.num), u, t] ++ cs.toList.drop (0 + i * 3 + 3)).toArray) : (i = qs.length → RowN w' g n (qs ++ [q])) ∧ (i < qs.length → RowN w' g n (qs.set i q)) := by
  have keep := fun {k v l} => h.keep (k := k) (v := v) (l := l) hg
  obtain ⟨ps, h1, h2, h3, h4, h5⟩ := h
  have hB : Blk w' g 36 (flat3 (ps.set i (q, u, t))).toArray := by
    have h6 := hc _ h3
    rw [Nat.zero_add, List.toList_toArray] at h6
    rw [← flat3_set ps i (q, u, t) (by omega)]
    exact h6
  have hS : ∀ p ∈ ps.set i (q, u, t), (∃ A m c, p.2.1 = .slice A m c) ∧ ∃ A m c, p.2.2 = .slice A m c := by
    intro p hp
    rcases List.mem_or_eq_of_mem_set hp with hp | rfl
    · exact h4 p hp
    · obtain ⟨A, c, e1, _⟩ := hu
      obtain ⟨D, d, e2, _⟩ := ht
      exact ⟨⟨_, _, _, e1⟩, ⟨_, _, _, e2⟩⟩
  have hE : IsE .u64 4294967296 w' ((q, u, t) : Elt) := ⟨keep hu, keep ht⟩
  have old : ∀ (j : Nat) (x : Rat), j ≠ i → qs[j]? = some x → ∃ p, (ps.set i (q, u, t))[j]? = some p ∧ p.1 = x ∧ IsE .u64 4294967296 w' p := by
    intro j x hj hx
    obtain ⟨p, k1, k2, k3⟩ := h5 j x hx
    exact ⟨p, by rw [List.getElem?_set_ne (fun e => hj e.symm)]; exact k1, k2, keep k3.1, keep k3.2⟩
  have new : (ps.set i (q, u, t))[i]? = some ((q, u, t) : Elt) := by rw [List.getElem?_set_self (by omega)]
  constructor
  · intro hiq
    refine ⟨ps.set i (q, u, t), by rw [List.length_set]; exact h1, by simp; omega, hB, hS, fun j x hx => ?_⟩
    by_cases hj : j = i
    · subst hj
      rw [hiq, List.getElem?_concat_length] at hx
      injection hx with hx
      subst hx
      exact ⟨_, new, rfl, hE⟩
    · refine old j x hj ?_
      have hl := (List.getElem?_eq_some_iff.1 hx).1
      rw [List.length_append, List.length_singleton] at hl
      rwa [List.getElem?_append_left (by omega)] at hx
  · intro hiq
    refine ⟨ps.set i (q, u, t), by rw [List.length_set]; exact h1, by simp; omega, hB, hS, fun j x hx => ?_⟩
    by_cases hj : j = i
    · subst hj
      rw [List.getElem?_set_self hiq] at hx
      injection hx with hx
      subst hx
      exact ⟨_, new, rfl, hE⟩
    · rw [List.getElem?_set_ne (fun e => hj e.symm)] at hx
      exact old j x hj hx
end
/-! Calls through a function's value. -/
section
variable {P : Program} {Q : Exit → Act → World → Prop} {ops : Array Oper} {L : List Oper} {Φ : List Pd} {w0 : World} {a0 : Act} {i : Nat} {o : Oper}
end
/-- A row of these, made by the call, and an error's number. -/
def RetRN (qs : List Rat) (w : World) (e : Ending) (w' : World) : Prop := ∃ g, e = .returned (.tuple #[.slice (some ⟨g, 0, none⟩) qs.length qs.length, .int .i64 0]) ∧ RowN w' g qs.length qs ∧ w.heap.size ≤ g ∧ Below w.heap.size w w'
/-- No row, and an error's number. -/
def RetNN (n : Int) (w : World) (e : Ending) (w' : World) : Prop := e = .returned (.tuple #[.slice none 0 0, .int .i64 n]) ∧ Below w.heap.size w w'
/-- A row of these, made by the call. -/
def prn (n : Nat) (qs : List Rat) (B : Nat) : Pd := ⟨fun w t => ∃ g, t = .tuple #[.slice (some ⟨g, 0, none⟩) n n, .int .i64 0] ∧ RowN w g n qs ∧ B ≤ g, fun h hb => by obtain ⟨g, e, h1, h2⟩ := h; exact ⟨g, e, h1.below hb, h2⟩⟩
theorem RetRN.pd {n : Nat} {qs : List Rat} {w : World} {e : Ending} {w' : World} {B : Nat} (h : RetRN qs w e w') (hn : qs.length = n) (hB : B ≤ w.heap.size) : RetPd (prn n qs B) w e w' := by
  obtain ⟨g, h1, h2, h3, h4⟩ := h
  rw [hn] at h1 h2
  exact ⟨_, h1, ⟨g, rfl, h2, Nat.le_trans hB h3⟩, h4⟩
theorem RetNN.pd {n : Int} {w : World} {e : Ending} {w' : World} (h : RetNN n w e w') : RetPd (Pd.eq (.tuple #[.slice none 0 0, .int .i64 n])) w e w' := ⟨_, h.1, rfl, h.2⟩
section
variable {P : Program} {Q : Exit → Act → World → Prop} {ops : Array Oper} {L : List Oper} {Φ : List Pd} {w0 : World} {a0 : Act} {i : Nat} {o : Oper}
end
/-- The variable's fraction is laid into the row: the variable stays as it is, even if it should be that row. -/
theorem HoldQ.row {w w' : World} {g G n : Nat} {ls : List Rat} {s : Rat} (h : HoldQ w G s) (hR : RowN w g n ls) (hg : w.grownBy w' (some g)) (hR' : RowN w' g n (ls ++ [s])) : HoldQ w' G s := by
  obtain ⟨u, t, h1, h2, h3⟩ := h
  by_cases e : g = G
  · subst e
    obtain ⟨ps, k1, k2, k3, k4, k5⟩ := id hR
    have e1 : ps.length = 1 := by
      unfold Blk at k3 h1
      rw [k3] at h1
      injection h1 with h1
      injection h1 with h1
      have := congrArg Array.size h1
      rw [List.size_toArray, flat3_len] at this
      simp at this
      omega
    obtain ⟨rs, r1, r2, r3, r4, r5⟩ := hR'
    have e2 : ls = [] := by
      rw [List.length_append, List.length_singleton] at r2
      exact List.length_eq_zero_iff.1 (by omega)
    subst e2
    obtain ⟨p, q1, q2, q3⟩ := r5 0 s rfl
    obtain ⟨r, rfl⟩ : ∃ r, rs = [r] := List.length_eq_one_iff.1 (by omega)
    obtain rfl : r = p := by simpa using q1
    subst q2
    exact ⟨r.2.1, r.2.2, r3, q3.1, q3.2⟩
  · exact ⟨u, t, h1.grown hg (fun e' => e e'.symm), hR.keep hg h2, hR.keep hg h3⟩
theorem addr_zero (g i : Nat) : (⟨g, 0, none⟩ : Addr).add i = ⟨g, i, none⟩ := by
  unfold Addr.add
  by_cases h : i = 0
  · simp [h]
  · simp [h]
/-- Block g is a table of slices, at its full length. -/
def TabB (w : World) (g : Nat) (TS : TypeId) (us : List Value) : Prop := Blk w g TS us.toArray ∧ ∀ u ∈ us, ∃ A n c, u = .slice A n c
theorem TabB.below {w w' : World} {g : Nat} {TS : TypeId} {us : List Value} (h : TabB w g TS us) (hb : Below w.heap.size w w') : TabB w' g TS us := ⟨h.1.below hb, h.2⟩
theorem TabB.lt {w : World} {g : Nat} {TS : TypeId} {us : List Value} (h : TabB w g TS us) : g < w.heap.size := h.1.lt
theorem TabB.drew {w : World} {g : Nat} {TS : TypeId} {us : List Value} (h : TabB w g TS us) : TabB w.drew g TS us := h
theorem TabB.cell {w : World} {g : Nat} {TS : TypeId} {us : List Value} (h : TabB w g TS us) {i : Nat} {u : Value} (hu : us[i]? = some u) : w.cell? ((⟨g, 0, none⟩ : Addr).add i) = some u := by
  rw [addr_zero, h.1.cell, List.getElem?_toArray]; exact hu
theorem TabB.keep {w w' : World} {g : Nat} {TS : TypeId} {us : List Value} {k : IntKind} {v : Value} {l : List Nat} (h : TabB w g TS us) (hg : w.grownBy w' (some g)) (hs : IsS w k v l) : IsS w' k v l :=
  Go.Proofs.Ytpcdkepkipadaaa.flow.off hs h.1 (fun c hc n e => by
    obtain ⟨A, m, d, e1⟩ := h.2 c (List.mem_toArray.1 hc)
    rw [e1] at e
    cases e) hg
theorem TabB.keepF {w w' : World} {g : Nat} {TS : TypeId} {us : List Value} {k : IntKind} {B : Nat} {v : Value} {r : List Rat} (h : TabB w g TS us) (hg : w.grownBy w' (some g)) (hs : SlF k B w v r) : SlF k B w' v r := by
  obtain ⟨ps, h1, ⟨A, c, e, h2, h3, h4⟩, h5⟩ := hs
  refine ⟨ps, h1, ⟨A, c, e, h2, h3, fun i p hp => ?_⟩, fun p hp => ⟨h.keep hg (h5 p hp).1, h.keep hg (h5 p hp).2⟩⟩
  obtain ⟨g', o, e2, c0, c1, c2⟩ := h4 i p hp
  have hne : some g' ≠ some g := by
    intro e3
    injection e3 with e3
    subst e3
    rw [h.1.cell, List.getElem?_toArray] at c0
    obtain ⟨A', m, d, e4⟩ := h.2 _ (List.mem_of_getElem? c0)
    cases e4
  exact ⟨g', o, e2, hg.cell c0 hne, hg.cell c1 hne, hg.cell c2 hne⟩
theorem TabB.put {w w' : World} {g i : Nat} {TS : TypeId} {us : List Value} {u : Value} (h : TabB w g TS us) (hB : w'.heap[g]? = some (.cells (us.toArray.setIfInBounds i u) TS (0, 0))) (hu : ∃ A n c, u = .slice A n c) : TabB w' g TS (us.set i u) := by
  refine ⟨by unfold Blk; rw [hB]; simp, fun v hv => ?_⟩
  rcases List.mem_or_eq_of_mem_set hv with hv | rfl
  · exact h.2 v hv
  · exact hu
theorem TabB.grown {w w' : World} {g : Nat} {TS : TypeId} {us : List Value} {row : Option Nat} (h : TabB w g TS us) (hg : w.grownBy w' row) (hne : row ≠ some g) : TabB w' g TS us :=
  ⟨(hg.block g h.1.lt (fun e => hne e.symm)).trans h.1, h.2⟩
/-- A table whose rows read as these. -/
def TabS (k : IntKind) (B : Nat) (w : World) (g : Nat) (TS : TypeId) (us : List Value) (t : List (List Rat)) : Prop := TabB w g TS us ∧ us.length = t.length ∧ ∀ (i : Nat) (u : Value) (r : List Rat), us[i]? = some u → t[i]? = some r → SlF k B w u r
theorem TabS.below {k : IntKind} {B : Nat} {w w' : World} {g : Nat} {TS : TypeId} {us : List Value} {t : List (List Rat)} (h : TabS k B w g TS us t) (hb : Below w.heap.size w w') : TabS k B w' g TS us t := ⟨h.1.below hb, h.2.1, fun i u r hu hr => (h.2.2 i u r hu hr).below hb⟩
theorem TabS.drew {k : IntKind} {B : Nat} {w : World} {g : Nat} {TS : TypeId} {us : List Value} {t : List (List Rat)} (h : TabS k B w g TS us t) : TabS k B w.drew g TS us t := h.below (Below.refl _ w).drew
theorem TabS.lt {k : IntKind} {B : Nat} {w : World} {g : Nat} {TS : TypeId} {us : List Value} {t : List (List Rat)} (h : TabS k B w g TS us t) : g < w.heap.size := h.1.lt
theorem TabS.put {k : IntKind} {B : Nat} {w w' : World} {g i : Nat} {TS : TypeId} {us : List Value} {t : List (List Rat)} {u : Value} {r : List Rat} (h : TabS k B w g TS us t) (hg : w.grownBy w' (some g)) (hB : w'.heap[g]? = some (.cells (us.toArray.setIfInBounds i u) TS (0, 0))) (hu : SlF k B w u r) : TabS k B w' g TS (us.set i u) (t.set i r) := by
  obtain ⟨A, c, eu, _⟩ := hu.shape
  refine ⟨h.1.put hB ⟨_, _, _, eu⟩, by rw [List.length_set, List.length_set]; exact h.2.1, fun j x y hx hy => ?_⟩
  by_cases hj : i = j
  · subst hj
    have hi : i < us.length := by have := (List.getElem?_eq_some_iff.1 hx).1; rwa [List.length_set] at this
    rw [List.getElem?_set_self hi] at hx
    rw [List.getElem?_set_self (by rw [← h.2.1]; exact hi)] at hy
    injection hx with hx
    injection hy with hy
    subst hx; subst hy
    exact h.1.keepF hg hu
  · rw [List.getElem?_set_ne hj] at hx hy
    exact h.1.keepF hg (h.2.2 j x y hx hy)
section
variable {P : Program}
theorem run_make_v {w : World} {t TS : TypeId} (ht : P.underlying t = some (.slice TS)) (hI : ∃ i, P.info? TS = some i ∧ i.zero = some (.slice none 0 0) ∧ i.size = 1 ∧ i.bytes = 24) (n : Nat) (hn : n ≤ 1000000000) :
    ∃ w', (Instr.makeSlice t (.int .i64 (n : Int)) (.int .i64 (n : Int))).run P w = .ok (.slice (some ⟨w.heap.size, 0, none⟩) n n) w' ∧ TabB w' w.heap.size TS (List.replicate n (.slice none 0 0)) ∧ Below w.heap.size w w' := by
  obtain ⟨i, hi, hz, hs, hb⟩ := hI
  obtain ⟨w', h1, h2, h3⟩ := run_make_full (P := P) w w.heap.size t TS i _ 1 ht hi hz hs .i64 .i64 n (by rw [hb]; omega) (by unfold maxLen; omega) (Nat.le_refl _)
  refine ⟨w', h1, ⟨?_, fun u hu => ⟨_, _, _, (List.mem_replicate.1 hu).2⟩⟩, (Below.refl _ w).grown h3 (Nat.le_refl _) (fun g hg => by cases hg)⟩
  obtain ⟨hl, h2⟩ := h2
  rcases h2 with ⟨h4, _⟩ | ⟨g, cap, cur, h4, _, h5, _, _, h6, h7⟩
  · cases h4
  · injection h4 with h4 _ h8
    injection h4 with h4
    injection h4 with h4 _ _
    subst h4; subst h8
    rw [List.take_of_length_le (by simp [h6])] at h7
    have e : cur = (List.replicate n (Value.slice none 0 0)).toArray := by
      have e1 : (madeCells (Value.slice none 0 0).cells (n * 1)).toList = List.replicate n (.slice none 0 0) := by rw [Nat.mul_one]; exact toList_madeCells_one _ _
      rw [← e1, ← h7]
    rw [← e]
    exact h5
end
end Go.Proofs.Ytpcdkepkipadaaa.rat
namespace Go.Proofs.Ytpcdkepkipadaaa.flow
open Go.RowKit Go.Proofs.Ytpcdkepkipadaaa.num Go.Proofs.Ytpcdkepkipadaaa.mem Go.Proofs.Ytpcdkepkipadaaa.whl Go.Proofs.Ytpcdkepkipadaaa.rat
set_option linter.unusedVariables false
section
variable {P : Program} {Q : Exit → Act → World → Prop} {ops : Array Oper} {L : List Oper} {Φ : List Pd} {w0 : World} {a0 : Act} {i : Nat} {o : Oper}
end
end Go.Proofs.Ytpcdkepkipadaaa.flow
namespace Go.Proofs.Ytpcdkepkipadaaa.rat
open Go.RowKit Go.Proofs.Ytpcdkepkipadaaa.num Go.Proofs.Ytpcdkepkipadaaa.mem Go.Proofs.Ytpcdkepkipadaaa.nat Go.Proofs.Ytpcdkepkipadaaa.txt Go.Proofs.Ytpcdkepkipadaaa.str Go.Proofs.Ytpcdkepkipadaaa.flow Go.Proofs.Ytpcdkepkipadaaa.whl
set_option linter.unusedVariables false
/-- A table whose rows the call owns, each in a block of its own; their elements' limbs lie elsewhere than all rows, and than the table. -/
structure TabO (k : IntKind) (B : Nat) (T : TypeId) (w : World) (base : Nat) (TS : TypeId) (V : Value) (us : List Value) (pss : List (List Elt)) : Prop where
  row : RowV w base TS V us
  len : us.length = pss.length
  own : ∀ (i : Nat) (u : Value) (ps : List Elt), us[i]? = some u → pss[i]? = some ps → RowF T w base u ps
  far : ∀ u ∈ us, ∀ ps ∈ pss, FarF k B w u ps
  farV : ∀ ps ∈ pss, FarF k B w V ps
  apart : ∀ (i j : Nat) (u v : Value), i ≠ j → us[i]? = some u → us[j]? = some v → ∀ h, u.ownBlock = some h → v.ownBlock ≠ some h
theorem TabO.below {k : IntKind} {B : Nat} {T : TypeId} {w w' : World} {base : Nat} {TS : TypeId} {V : Value} {us : List Value} {pss : List (List Elt)} (h : TabO k B T w base TS V us pss) (hb : Below w.heap.size w w') : TabO k B T w' base TS V us pss :=
  ⟨h.row.below hb, h.len, fun i u ps hu hp => (h.own i u ps hu hp).below hb, fun u hu ps hp => (h.far u hu ps hp).below hb, fun ps hp => (h.farV ps hp).below hb, h.apart⟩
theorem TabO.drew {k : IntKind} {B : Nat} {T : TypeId} {w : World} {base : Nat} {TS : TypeId} {V : Value} {us : List Value} {pss : List (List Elt)} (h : TabO k B T w base TS V us pss) : TabO k B T w.drew base TS V us pss := h.below (Below.refl _ w).drew
theorem TabB.rowV {w : World} {base g n : Nat} {TS : TypeId} {us : List Value} (h : TabB w g TS us) (hn : us.length = n) (hb : base ≤ g) (hm : n ≤ 1000000000) : RowV w base TS (.slice (some ⟨g, 0, none⟩) n n) us := by
  unfold RowV
  rw [hn]
  exact ⟨by simp [hn], .inr ⟨g, n, us.toArray, rfl, hb, h.1, Nat.le_refl _, by unfold maxLen; omega, by simp [hn], by simp [← hn]⟩⟩
theorem TabB.owned {k : IntKind} {B : Nat} {T : TypeId} {w : World} {base g n : Nat} {TS : TypeId} (h : TabB w g TS (List.replicate n (.slice none 0 0))) (hb : base ≤ g) (hm : n ≤ 1000000000) : TabO k B T w base TS (.slice (some ⟨g, 0, none⟩) n n) (List.replicate n (.slice none 0 0)) (List.replicate n []) := by
  have key : ∀ u ∈ List.replicate n (Value.slice none 0 0), u = .slice none 0 0 := fun u hu => (List.mem_replicate.1 hu).2
  refine ⟨h.rowV (by simp) hb hm, by simp, fun i u ps hu hp => ?_, fun u hu ps hp => ?_, fun ps hp => ?_, fun i j u v _ hu hv q hq => ?_⟩
  · have h1 := key u (List.mem_of_getElem? hu)
    have h2 := (List.mem_replicate.1 (List.mem_of_getElem? hp)).2
    subst h1; subst h2
    exact rowF_nil _ _ _
  · rw [(List.mem_replicate.1 hp).2]
    exact FarF.nil _ _ _ _
  · rw [(List.mem_replicate.1 hp).2]
    exact FarF.nil _ _ _ _
  · rw [key u (List.mem_of_getElem? hu)] at hq
    cases hq
theorem RowF.notRow {T TS : TypeId} {w : World} {base base' : Nat} {v V : Value} {ps : List Elt} {us : List Value} (h : RowF T w base v ps) (hV : RowV w base' TS V us) (hne : T ≠ TS) : ∀ g, v.ownBlock = some g → V.ownBlock ≠ some g := by
  intro g e e2
  rcases h.2 with ⟨rfl, _⟩ | ⟨g', cap, cur, rfl, _, hg, _⟩
  · cases e
  · rcases hV.2 with ⟨rfl, _⟩ | ⟨g2, cap2, cur2, rfl, _, hg2, _⟩
    · cases e2
    · have e1 : g' = g := by simpa [Value.ownBlock] using e
      have e3 : g2 = g := by simpa [Value.ownBlock] using e2
      subst e1; subst e3
      rw [hg] at hg2
      injection hg2 with hg2
      injection hg2 with _ hg2
      exact hne hg2
theorem mem_set_at {α : Type} {l : List α} {i j : Nat} {a x : α} (h : (l.set i a)[j]? = some x) : (i = j ∧ x = a) ∨ (i ≠ j ∧ l[j]? = some x) := by
  by_cases e : i = j
  · subst e
    have hi : i < l.length := by have := (List.getElem?_eq_some_iff.1 h).1; rwa [List.length_set] at this
    rw [List.getElem?_set_self hi] at h
    injection h with h
    exact .inl ⟨rfl, h.symm⟩
  · rw [List.getElem?_set_ne e] at h
    exact .inr ⟨e, h⟩
/-- A row grows: the table stands as it was, but for that row. -/
theorem TabO.put {k : IntKind} {B : Nat} {T : TypeId} {w w1 : World} {base g n c i : Nat} {TS : TypeId} {us : List Value} {pss : List (List Elt)} {u u' : Value} {ps new : List Elt} (hT : T ≠ TS) (h : TabO k B T w base TS (.slice (some ⟨g, 0, none⟩) n c) us pss) (hu : us[i]? = some u) (hps : pss[i]? = some ps) (hrow : RowF T w1 base u' (ps ++ new)) (hgr : Grew w w1 u u') (hnew : FarF k B w1 u' new) (hfar : ∀ v ∈ us, ∀ p ∈ new, Far v p.2.1 ∧ Far v p.2.2) (hfarV : ∀ p ∈ new, Far (.slice (some ⟨g, 0, none⟩) n c) p.2.1 ∧ Far (.slice (some ⟨g, 0, none⟩) n c) p.2.2) :
    TabO k B T (w1.setCell ⟨g, i, none⟩ u') base TS (.slice (some ⟨g, 0, none⟩) n c) (us.set i u') (pss.set i (ps ++ new)) := by
  obtain ⟨k1, k2, k3⟩ := hgr
  have hui := h.own i u ps hu hps
  have hs := grown_set w1 g i u'
  have hV : Value.ownBlock (.slice (some ⟨g, 0, none⟩) n c) = some g := rfl
  have hng : u.ownBlock ≠ some g := fun e => hui.notRow h.row hT g e hV
  have ht1 : RowV w1 base TS (.slice (some ⟨g, 0, none⟩) n c) us := World.ownsRow.kept (row := u.ownBlock) h.row k2 (.inr (by rw [hV]; exact fun e => hng e.symm))
  have hum := List.mem_of_getElem? hu
  have off2 : ∀ {l : List Nat} {x : Value}, IsS w1 k x l → Far (.slice (some ⟨g, 0, none⟩) n c) x → IsS (w1.setCell ⟨g, i, none⟩ u') k x l := fun a b => a.farKept b hs
  have lift : ∀ p, IsE k B w p → Far u p.2.1 → Far u p.2.2 → Far (.slice (some ⟨g, 0, none⟩) n c) p.2.1 → Far (.slice (some ⟨g, 0, none⟩) n c) p.2.2 → IsE k B (w1.setCell ⟨g, i, none⟩ u') p ∧ Far u' p.2.1 ∧ Far u' p.2.2 := fun p a b c d e => by
    have x1 := k1 _ _ _ a.1 b
    have x2 := k1 _ _ _ a.2 c
    exact ⟨⟨off2 x1.1 d, off2 x2.1 e⟩, x1.2, x2.2⟩
  have hall : ∀ qs ∈ pss.set i (ps ++ new), ∀ p ∈ qs, IsE k B (w1.setCell ⟨g, i, none⟩ u') p ∧ (Far u' p.2.1 ∧ Far u' p.2.2) ∧ (∀ v ∈ us, Far v p.2.1 ∧ Far v p.2.2) ∧ Far (.slice (some ⟨g, 0, none⟩) n c) p.2.1 ∧ Far (.slice (some ⟨g, 0, none⟩) n c) p.2.2 := by
    intro qs hqs p hp
    have hpq : (p ∈ new) ∨ ∃ qs' ∈ pss, p ∈ qs' := by
      rcases List.mem_or_eq_of_mem_set hqs with hqs | rfl
      · exact .inr ⟨qs, hqs, hp⟩
      · rcases List.mem_append.1 hp with hp | hp
        · exact .inr ⟨ps, List.mem_of_getElem? hps, hp⟩
        · exact .inl hp
    rcases hpq with hp | ⟨qs', hq', hp⟩
    · obtain ⟨e1, f1, f2⟩ := hnew p hp
      have fV := hfarV p hp
      exact ⟨⟨off2 e1.1 fV.1, off2 e1.2 fV.2⟩, ⟨f1, f2⟩, fun v hv => hfar v hv p hp, fV⟩
    · obtain ⟨e1, f1, f2⟩ := h.far u hum qs' hq' p hp
      have fV := (h.farV qs' hq' p hp).2
      obtain ⟨e2, f3, f4⟩ := lift p e1 f1 f2 fV.1 fV.2
      exact ⟨e2, ⟨f3, f4⟩, fun v hv => (h.far v hv qs' hq' p hp).2, fV⟩
  refine ⟨ht1.stored i u', by rw [List.length_set, List.length_set]; exact h.len, fun j x y hx hy => ?_, fun v hv qs hqs p hp => ?_, fun qs hqs p hp => ⟨(hall qs hqs p hp).1, (hall qs hqs p hp).2.2.2⟩, fun a b x y hab hx hy q hq hq2 => ?_⟩
  · rcases mem_set_at hx with ⟨rfl, rfl⟩ | ⟨hj, hx⟩
    · rcases mem_set_at hy with ⟨_, rfl⟩ | ⟨hj, _⟩
      · exact hrow.other hs fun q hq e => hrow.notRow ht1 hT q hq e
      · exact absurd rfl hj
    · rcases mem_set_at hy with ⟨e, _⟩ | ⟨_, hy⟩
      · exact absurd e hj
      · have r0 := h.own j x y hx hy
        have r1 := r0.other k2 fun q hq e => h.apart i j u x hj hu hx q e hq
        exact r1.other hs fun q hq e => r1.notRow ht1 hT q hq e
  · obtain ⟨e1, f1, f2, _⟩ := hall qs hqs p hp
    refine ⟨e1, ?_⟩
    rcases List.mem_or_eq_of_mem_set hv with hv | rfl
    · exact f2 v hv
    · exact f1
  · rcases mem_set_at hx with ⟨rfl, rfl⟩ | ⟨ha, hx1⟩
    · rcases mem_set_at hy with ⟨e, _⟩ | ⟨_, hy⟩
      · exact hab e
      · obtain ⟨pb, hpb⟩ : ∃ pb, pss[b]? = some pb := ⟨_, List.getElem?_eq_getElem (by rw [← h.len]; exact (List.getElem?_eq_some_iff.1 hy).1)⟩
        have hlt := (h.own b y pb hy hpb).under q hq2
        exact k3 q hlt (fun e => h.apart i b u y hab hu hy q e hq2) hq
    · rcases mem_set_at hy with ⟨rfl, rfl⟩ | ⟨hb, hy1⟩
      · obtain ⟨pa, hpa⟩ : ∃ pa, pss[a]? = some pa := ⟨_, List.getElem?_eq_getElem (by rw [← h.len]; exact (List.getElem?_eq_some_iff.1 hx1).1)⟩
        have hlt := (h.own a x pa hx1 hpa).under q hq
        exact k3 q hlt (fun e => h.apart i a u x ha hu hx1 q e hq) hq2
      · exact h.apart a b x y hab hx1 hy1 q hq hq2
theorem TabO.cell {k : IntKind} {B : Nat} {T : TypeId} {w : World} {base g n c : Nat} {TS : TypeId} {us : List Value} {pss : List (List Elt)} (h : TabO k B T w base TS (.slice (some ⟨g, 0, none⟩) n c) us pss) {i : Nat} {u : Value} (hu : us[i]? = some u) : w.cell? ⟨g, i, none⟩ = some u := h.row.cellAt hu
theorem TabO.frozen {k : IntKind} {B : Nat} {T : TypeId} {w : World} {base g n c : Nat} {TS : TypeId} {us : List Value} {pss : List (List Elt)} (h : TabO k B T w base TS (.slice (some ⟨g, 0, none⟩) n c) us pss) (i : Nat) : w.frozen? ⟨g, i, none⟩ = false := h.row.frozenAt i
/-- A slice of tables. -/
def ListT (w : World) (v : Value) (ts : List (List (List Rat))) : Prop := ∃ us : List Value, us.length = ts.length ∧ IsV w v us ∧ us.length ≤ 1000000 ∧ ∀ (i : Nat) (u : Value) (t : List (List Rat)), us[i]? = some u → ts[i]? = some t → SlT .u64 4294967296 w u t
theorem ListT.below {w w' : World} {v : Value} {ts : List (List (List Rat))} (h : ListT w v ts) (hb : Below w.heap.size w w') : ListT w' v ts := by
  obtain ⟨us, h1, h2, h3, h4⟩ := h
  exact ⟨us, h1, h2.below hb, h3, fun i u t hu ht => (h4 i u t hu ht).below hb⟩
theorem ListT.shape {w : World} {v : Value} {ts : List (List (List Rat))} (h : ListT w v ts) : ∃ A c, v = .slice A ts.length c ∧ ts.length ≤ c := by
  obtain ⟨us, h1, ⟨A, c, e, h2, _⟩, _⟩ := h
  exact ⟨A, c, by rw [e, h1], by omega⟩
theorem ListT.at_ {w : World} {A : Option Addr} {n c i : Nat} {ts : List (List (List Rat))} {t : List (List Rat)} (h : ListT w (.slice A n c) ts) (hr : ts[i]? = some t) : ∃ ad Ar cr, A = some ad ∧ i < n ∧ w.cell? (ad.add i) = some (.slice Ar t.length cr) ∧ SlT .u64 4294967296 w (.slice Ar t.length cr) t := by
  obtain ⟨us, h1, ⟨A', c', e, h2, h3⟩, _, h5⟩ := h
  injection e with e1 e2 e3
  subst e1; subst e2; subst e3
  have hi : i < us.length := by have := (List.getElem?_eq_some_iff.1 hr).1; omega
  obtain ⟨ad, ha, hc⟩ := h3 i _ (List.getElem?_eq_getElem hi)
  have hs := h5 i _ t (List.getElem?_eq_getElem hi) hr
  obtain ⟨Ar, cr, e, _, _⟩ := hs.shape
  rw [e] at hc hs
  exact ⟨ad, Ar, cr, ha, hi, hc, hs⟩
theorem SlT.place {k : IntKind} {B : Nat} {w : World} {A : Option Addr} {n c : Nat} {t : List (List Rat)} (h : SlT k B w (.slice A n c) t) (hne : t ≠ []) : ∃ ad, A = some ad := by
  obtain ⟨r, hr⟩ : ∃ r, t[0]? = some r := ⟨_, List.getElem?_eq_getElem (List.length_pos_iff.2 hne)⟩
  obtain ⟨ad, _, _, e, _⟩ := h.at_ hr
  exact ⟨ad, e⟩
theorem ListT.place {w : World} {A : Option Addr} {n c : Nat} {ts : List (List (List Rat))} (h : ListT w (.slice A n c) ts) (hne : ts ≠ []) : ∃ ad, A = some ad := by
  obtain ⟨r, hr⟩ : ∃ r, ts[0]? = some r := ⟨_, List.getElem?_eq_getElem (List.length_pos_iff.2 hne)⟩
  obtain ⟨ad, _, _, e, _⟩ := h.at_ hr
  exact ⟨ad, e⟩
section
variable {P : Program} {Q : Exit → Act → World → Prop} {ops : Array Oper} {L : List Oper} {Φ : List Pd} {w0 : World} {a0 : Act} {i : Nat} {o : Oper}
end
theorem SlT.drew {k : IntKind} {B : Nat} {w : World} {v : Value} {t : List (List Rat)} (h : SlT k B w v t) : SlT k B w.drew v t := h.below (Below.refl _ w).drew
theorem ListT.drew {w : World} {v : Value} {ts : List (List (List Rat))} (h : ListT w v ts) : ListT w.drew v ts := h.below (Below.refl _ w).drew
section
variable {P : Program} {Q : Exit → Act → World → Prop} {ops : Array Oper} {L : List Oper} {Φ : List Pd} {w0 : World} {a0 : Act} {i : Nat} {o : Oper}
end
set_option linter.unusedSimpArgs false
set_option maxHeartbeats 1600000 in
set_option maxRecDepth 100000 in
theorem scopied_any (a0 : Value) (x : Rat) (w : World) (h0 : IsQ w a0 x) (hl : lenQ x 100000) :
    Calls Try.prog 21 #[a0] w (RetQ x w) := by
  obtain ⟨u0, t0, rfl, s0, r0⟩ := h0
  obtain ⟨A0, c0, rfl, _⟩ := id s0
  obtain ⟨D0, e0, rfl, _⟩ := id r0
  go_enter Try.func21, Try.ntmps21
  go_upto_region 1 with (fail)
  obtain ⟨wx, hwx, bb, B0, BR0, hsz⟩ := vars2 w 36 36 #[.bool (ngB (x).num), .slice A0 (digs 4294967296 (x).num.natAbs).length c0, .slice D0 (digs 4294967296 (x).den).length e0] #[.bool false, .slice none 0 0, .slice none 0 0]
  rw [hwx]
  clear hwx
  have k0s := s0.below bb
  have k0d := r0.below bb
  have k0z : IsZ wx (.agg #[.bool (ngB (x).num), .slice A0 (digs 4294967296 (x).num.natAbs).length c0]) (x).num := ⟨_, rfl, k0s⟩
  have k0 : IsQ wx (.agg #[.bool (ngB (x).num), .slice A0 (digs 4294967296 (x).num.natAbs).length c0, .slice D0 (digs 4294967296 (x).den).length e0]) (x) := ⟨_, _, rfl, k0s, k0d⟩
  have hsz0 := bb.size
  have sB := bb.size
  refine flow 12 [Pd.eq (.pointer (some ⟨w.heap.size, 0, none⟩)), Pd.eq (.pointer (some ⟨w.heap.size, 0, none⟩)), Pd.eq (.bool (ngB (x).num)), Pd.eq (.pointer (some ⟨w.heap.size, 0, none⟩)), Pd.eq (.pointer (some ⟨w.heap.size, 1, none⟩)), Pd.eq (.slice A0 (digs 4294967296 (x).num.natAbs).length c0), ps .u64 (digs 4294967296 (x).num.natAbs) wx.heap.size, pz ((x).num) wx.heap.size, Pd.eq (.pointer (some ⟨w.heap.size, 2, none⟩)), Pd.eq (.slice D0 (digs 4294967296 (x).den).length e0), ps .u64 (digs 4294967296 (x).den) wx.heap.size, pq (x) wx.heap.size] (by kernel_rfl) (by kernel_rfl) ?ob1 ?done1
  case ob1 =>
    refine And.intro (ob_fieldAddr rfl (wt_none rfl) (ev_far rfl rfl) (fun _ => by kernel_rfl) (fun _ => rfl)) ?_
    refine And.intro (ob_fieldAddr rfl (wt_none rfl) (ev_dep (j := 0) (by kernel_rfl) rfl rfl) (fun _ => by kernel_rfl) (fun _ => rfl)) ?_
    refine And.intro (ob_load rfl (wt_none rfl) (ev_dep (j := 1) (by kernel_rfl) rfl rfl) (fun w2 hb => run_load1 Try.underlying4 rfl ((B0.drew.below hb).cell 0)) (fun _ _ => rfl)) ?_
    refine And.intro (ob_fieldAddr rfl (wt_none rfl) (ev_far rfl rfl) (fun _ => by kernel_rfl) (fun _ => rfl)) ?_
    refine And.intro (ob_fieldAddr rfl (wt_none rfl) (ev_dep (j := 3) (by kernel_rfl) rfl rfl) (fun _ => by kernel_rfl) (fun _ => rfl)) ?_
    refine And.intro (ob_load rfl (wt_none rfl) (ev_dep (j := 4) (by kernel_rfl) rfl rfl) (fun w2 hb => run_load1 Try.underlying32 rfl ((B0.drew.below hb).cell 1)) (fun _ _ => rfl)) ?_
    refine And.intro (ob_call1 rfl Try.func30 (by kernel_rfl) (wt_none rfl) (ev_dep (j := 5) (by kernel_rfl) rfl rfl) (fun w2 u0 hb h0 => by obtain rfl := h0; exact (clone_any _ _ _ (k0s.drew.below hb) (Nat.le_trans hl.1 (by decide))).mono fun e w3 h => RetS.pd h hb.size)) ?_
    refine And.intro (ob_build2b rfl (wt_none rfl) (ev_dep (j := 2) (by kernel_rfl) rfl rfl) (ev_dep (j := 6) (by kernel_rfl) rfl rfl) (fun w2 u v hb hu hv => by obtain rfl := hu; obtain ⟨A7, c7, rfl, _⟩ := id hv.1; exact ⟨.agg #[.bool (ngB (x).num), .slice A7 (digs 4294967296 (x).num.natAbs).length c7], by kernel_rfl, ⟨_, rfl, hv.1⟩, freshZ_mk hv.2⟩)) ?_
    refine And.intro (ob_fieldAddr rfl (wt_none rfl) (ev_far rfl rfl) (fun _ => by kernel_rfl) (fun _ => rfl)) ?_
    refine And.intro (ob_load rfl (wt_none rfl) (ev_dep (j := 8) (by kernel_rfl) rfl rfl) (fun w2 hb => run_load1 Try.underlying32 rfl ((B0.drew.below hb).cell 2)) (fun _ _ => rfl)) ?_
    refine And.intro (ob_call1 rfl Try.func30 (by kernel_rfl) (wt_none rfl) (ev_dep (j := 9) (by kernel_rfl) rfl rfl) (fun w2 u0 hb h0 => by obtain rfl := h0; exact (clone_any _ _ _ (k0d.drew.below hb) (Nat.le_trans hl.2 (by decide))).mono fun e w3 h => RetS.pd h hb.size)) ?_
    refine And.intro (ob_build2b rfl (wt_none rfl) (ev_dep (j := 7) (by kernel_rfl) rfl rfl) (ev_dep (j := 10) (by kernel_rfl) rfl rfl) (fun w2 u v hb hu hv => by obtain ⟨u7, rfl, hu7⟩ := hu.1; obtain ⟨A7, c7, rfl, _⟩ := id hu7; obtain ⟨A8, c8, rfl, _⟩ := id hv.1; exact ⟨.agg #[.bool (ngB (x).num), .slice A7 (digs 4294967296 (x).num.natAbs).length c7, .slice A8 (digs 4294967296 (x).den).length c8], by kernel_rfl, ⟨⟨_, _, rfl, hu7, hv.1⟩, freshQ_mk (hu.2 _ _ rfl) hv.2⟩⟩)) ?_
    trivial
  case done1 =>
    refine fun w11 hb11 v0 h0 v1 h1 v2 h2 v3 h3 v4 h4 v5 h5 v6 h6 v7 h7 v8 h8 v9 h9 v10 h10 v11 h11 b hbf => ?_
    obtain rfl := h0; obtain rfl := h1; obtain rfl := h2; obtain rfl := h3; obtain rfl := h4; obtain rfl := h5; obtain rfl := h8; obtain rfl := h9
    obtain ⟨q6, f6⟩ := h6
    obtain ⟨q7, f7⟩ := h7
    obtain ⟨q10, f10⟩ := h10
    obtain ⟨q11, f11⟩ := h11
    simp only [Act.put, List.setIfInBounds_toArray, List.set_cons_zero, List.set_cons_succ] at hbf
    subst hbf
    replace B0 := B0.below hb11
    replace k0s := k0s.below hb11
    replace k0d := k0d.below hb11
    replace k0z := k0z.below hb11
    replace k0 := k0.below hb11
    replace BR0 := BR0.below hb11
    replace bb := bb.trans (hb11.mono bb.size)
    have hsz11 := bb.size
    have s_6 := sB
    have s_7 := sB
    have s_10 := sB
    have s_11 := sB
    obtain ⟨u11, t11, rfl, q11, d11⟩ := q11
    obtain ⟨A9, c9, rfl, _⟩ := id q11
    obtain ⟨D9, e9, rfl, _⟩ := id d11
    refine any_store (i := 12) (by kernel_rfl) rfl rfl rfl rfl rfl rfl (cells := [.bool (ngB (x).num), .slice A9 (digs 4294967296 (x).num.natAbs).length c9, .slice D9 (digs 4294967296 (x).den).length e9]) rfl BR0 rfl (by kernel_rfl) (one3 rfl rfl rfl) fun w9 hg9 B9 => ?_
    have k9 := off q11 BR0 no_ints3 hg9
    have d9 := off d11 BR0 no_ints3 hg9
    have f9 := f11.mono (show w.heap.size ≤ _ from s_11)
    have bb9 := bb.trans ((Below.refl _ _).grown hg9 bb.size (fun g hg => by injection hg with hg; omega))
    obtain ⟨C0, C1, C2, _, _, _⟩ := three B9
    refine any_done (by kernel_rfl) ?_
    go_wp2
    exact bodyPost_ret (v := .agg #[.bool (ngB (x).num), .slice A9 (digs 4294967296 (x).num.natAbs).length c9, .slice D9 (digs 4294967296 (x).den).length e9]) (by simp [results, Try.results21, go_sem, C0, C1, C2]) rfl ⟨_, rfl, ⟨_, _, rfl, k9, d9⟩, f9, bb9⟩
theorem blk_set1 {w : World} {g i : Nat} {t : TypeId} {cs : Array Value} (h : Blk w g t cs) (u : Value) : Blk (w.setCell ⟨g, i, none⟩ u) g t (cs.setIfInBounds i u) := by
  unfold Blk at h ⊢
  simp [World.setCell, Array.getElem?_modify, h]
theorem blk_set3 {w : World} {g : Nat} {t : TypeId} {a b c : Value} (h : Blk w g t #[a, b, c]) (x y z : Value) : Blk (((w.setCell ⟨g, 0, none⟩ x).setCell ⟨g, 1, none⟩ y).setCell ⟨g, 2, none⟩ z) g t #[x, y, z] := blk_set1 (blk_set1 (blk_set1 h x) y) z
/-- All fractions are of so many limbs at most. -/
def lenS (T : List (List Rat)) (m : Nat) : Prop := ∀ (i j : Nat) (q : Rat), cellq T i j = some q → lenQ q m
theorem lenS.mono {T : List (List Rat)} {m n : Nat} (h : lenS T m) (hn : m ≤ n) : lenS T n := fun i j q hq => (h i j q hq).mono hn
theorem RatS_of0 (w : World) : Calls Try.prog 8 #[.int .i64 0] w (RetQ (0 : Rat) w) := of8_any 0 w (by omega) (by omega)
theorem grown_below {w w2 w3 : World} {row : Option Nat} (hb : Below w.heap.size w w2) (hg : w2.grownBy w3 row) : w.grownBy w3 row :=
  ⟨hg.os.trans hb.os, hg.tape.trans hb.tape, hg.output.trans hb.output, Nat.le_trans hb.size hg.size, fun k hk hne => (hg.block k (Nat.lt_of_lt_of_le hk hb.size) hne).trans (hb.block k hk)⟩
theorem num_ordz0 {x : Rat} : (ordz x.num 0 == 0) = decide (x = 0) := by
  by_cases h : x = 0
  · rw [h, decide_eq_true rfl]; rfl
  · rw [decide_eq_false h, beq_eq_false_iff_ne]
    intro e
    have hz : x.num ≠ 0 := fun k => h (Rat.num_eq_zero.1 k)
    rcases Int.lt_or_gt_of_ne hz with k | k
    · rw [ordz_lt k] at e; cases e
    · rw [ordz_gt k] at e; cases e
section
variable {w : World} {ops : Array Oper} {o : Oper} {a : Act} {K : Act → World → Prop} {Q : Exit → Act → World → Prop} {E : Prop} {b R C i j : Nat} {T : List (List Rat)}
/-- 'delete(m, k)'. -/
theorem wpList_drop_q {rest : List Oper} (hgd : o.guard = none) (m x : Operand) (hop : o.op = Op.call { callee := Callee.builtin Builtin.delete, args := #[m, x], argTypes := #[48, 54] }) (hm : a.eval m = .map (some b)) (hx : a.eval x = .agg #[.int .i64 (i : Int), .int .i64 (j : Int)])
    (h : MapQ w b T) (hs : shp T R C) (hR : R ≤ 200) (hC : C ≤ 200) (hi : i < R) (hj : j < C)
    (hK : ∀ w', MapQ w' b (setq T i j 0) → w.grownBy w' (some b) → wpList Try.prog ops Q rest (a.put o.dst (.tuple #[])) w') : wpList Try.prog ops Q (o :: rest) a w := by
  refine wpList_plain hgd fun K' hK' => ?_
  obtain ⟨w', hrun, h1, h2⟩ := h.drop hs hR hC hi hj o.type
  unfold Oper.wp
  simp [execOp, hop, resolve, invoke, builtin, hm, hx, hrun, Result.andThen]
  exact hK' _ _ (hK w' h1 h2)
end
/-- The sparse table behind a store. -/
def RetPut (g b R C : Nat) (T : List (List Rat)) (w : World) (e : Ending) (w' : World) : Prop := e = .returned (.int .i64 0) ∧ Spt w' g b R C T ∧ w.grownBy w' (some b)
set_option maxHeartbeats 1600000 in
set_option maxRecDepth 100000 in
theorem sput_nil (x y : Int) (a3 : Value) (q : Rat) (w : World) (h3 : IsQ w a3 q) : Calls Try.prog 7 #[.pointer none, .int .i64 x, .int .i64 y, a3] w (RetV (.int .i64 9) w) := by
  obtain ⟨u, t, rfl, s3, d3⟩ := h3
  obtain ⟨A3, c3, rfl, _⟩ := id s3
  obtain ⟨D3, e3, rfl, _⟩ := id d3
  have ba := below_alloc (w := w) (Nat.le_refl _) (.cells #[.bool (ngB q.num), .slice A3 (digs 4294967296 q.num.natAbs).length c3, .slice D3 (digs 4294967296 q.den).length e3] 36)
  go_enter Try.func7, Try.ntmps7
  go_wp2_with fail
  refine (made_nil _).mono ?_
  rintro e w2 ⟨rfl, b2⟩
  have bb := ba.trans (b2.mono ba.size)
  go_wp2
  go_ret
  exact ⟨rfl, bb⟩
set_option maxHeartbeats 3200000 in
set_option maxRecDepth 100000 in
theorem sput_ok (g b R C i j : Nat) (T : List (List Rat)) (a3 : Value) (q : Rat) (w : World) (h : Spt w g b R C T) (h3 : IsQ w a3 q) (hi : i < R) (hj : j < C) (hl : lenQ q 100000) : Calls Try.prog 7 #[.pointer (some ⟨g, 0, none⟩), .int .i64 (i : Int), .int .i64 (j : Int), a3] w (RetPut g b R C (setq T i j q) w) := by
  obtain ⟨u, t, rfl, s3, d3⟩ := h3
  obtain ⟨A3, c3, rfl, _⟩ := id s3
  obtain ⟨D3, e3, rfl, _⟩ := id d3
  have HI : Hid (i < R ∧ j < C) := ⟨hi, hj⟩
  clear hi hj
  have ba := below_alloc (w := w) (Nat.le_refl _) (.cells #[.bool (ngB q.num), .slice A3 (digs 4294967296 q.num.natAbs).length c3, .slice D3 (digs 4294967296 q.den).length e3] 36)
  have BV := Blk.new w 36 #[.bool (ngB q.num), .slice A3 (digs 4294967296 q.num.natAbs).length c3, .slice D3 (digs 4294967296 q.den).length e3]
  go_enter Try.func7, Try.ntmps7
  go_wp2_with fail
  refine (made_any _ _ _ _ _ _ (h.below ba)).mono ?_
  rintro e w2 ⟨rfl, b2⟩
  have bb := ba.trans (b2.mono ba.size)
  have BV := BV.below b2
  obtain ⟨c0, c1, -⟩ := (h.below bb).cells
  go_wp2_with fail
  refine (among_any i R true _ (decide_eq_true ⟨by omega, by have := HI.out; omega⟩).symm).mono ?_
  rintro e w3 ⟨rfl, b3⟩
  have bb := bb.trans (b3.mono bb.size)
  have BV := BV.below b3
  clear c0 c1
  obtain ⟨c0, c1, -⟩ := (h.below bb).cells
  go_wp2_with fail
  refine (among_any j C true _ (decide_eq_true ⟨by omega, by have := HI.out; omega⟩).symm).mono ?_
  rintro e w4 ⟨rfl, b4⟩
  have bb := bb.trans (b4.mono bb.size)
  have BV := BV.below b4
  clear c0 c1
  obtain ⟨V0, V1, V2, _, _, _⟩ := three BV
  obtain ⟨t, ht⟩ : ∃ t, t = ordz q.num 0 := ⟨_, rfl⟩
  have k4 : IsQ w4 (.agg #[.bool (ngB q.num), .slice A3 (digs 4294967296 q.num.natAbs).length c3, .slice D3 (digs 4294967296 q.den).length e3]) q := ⟨_, _, rfl, s3.below bb, d3.below bb⟩
  have hz : (t == 0) = decide (q = 0) := by rw [ht]; exact num_ordz0
  go_wp2_with fail
  refine (fsign0_any _ q t _ k4 ht).mono ?_
  rintro e w5 ⟨rfl, b5⟩
  have bb := bb.trans (b5.mono bb.size)
  have BV := BV.below b5
  clear V0 V1 V2 ht k4
  by_cases h0 : q = 0
  · have hz1 : (t == 0) = true := by rw [hz, decide_eq_true h0]
    have hz2 : t = 0 := by simpa using hz1
    have S5 := h.below bb
    obtain ⟨c0, c1, c2⟩ := S5.cells
    subst hz2
    have H0 := Lib.hid h0
    clear hz hz1 h0
    go_wp2_with (at_delete; refine wpList_drop_q rfl (.tmp 34) (.tmp 37) rfl rfl rfl S5.map S5.shp S5.hR S5.hC HI.out.1 HI.out.2 ?_; intro w6 M6 g6)
    rw [← H0.out] at M6
    have S6 : Spt w6 g b R C (setq T i j q) := ⟨S5.map.isM.offBlk S5.blk g6, M6, setq_shp S5.shp i j q, S5.hR, S5.hC⟩
    have HE := Lib.hid (And.intro S6 (grown_below bb g6))
    clear M6 S6 g6
    go_wp2
    go_ret
    exact ⟨rfl, HE.out⟩
  · have hz1 : (t == 0) = false := by rw [hz, decide_eq_false h0]
    have hz2 : ¬ t = 0 := by simpa using hz1
    have H0 := Lib.hid h0
    clear hz h0
    have S5 := (h.below bb).drew
    obtain ⟨-, -, c2⟩ := S5.cells
    have BV5 : Blk w5.drew _ _ _ := BV.drew
    obtain ⟨V0, V1, V2, _, _, _⟩ := three BV5
    have bd := bb.trans ((Below.refl w5.heap.size w5).drew.mono bb.size)
    have k5 : IsQ w5.drew (.agg #[.bool (ngB q.num), .slice A3 (digs 4294967296 q.num.natAbs).length c3, .slice D3 (digs 4294967296 q.den).length e3]) q := ⟨_, _, rfl, s3.below bd, d3.below bd⟩
    go_upto_region 7 with (fail)
    go_region_law (go_simp; go_at_call 21; refine (scopied_any _ q _ (by exact k5) hl).mono ?_; rintro e w6 ⟨v6, rfl, k6, f6, b6⟩; have S6 := S5.below b6; have c26 := S6.cells.2.2; obtain ⟨u6, t6, rfl, s6, d6⟩ := k6; obtain ⟨A6, c6, rfl, _⟩ := id s6; obtain ⟨D6, e6, rfl, _⟩ := id d6; have hst := S6.map.store S6.shp S6.hR S6.hC HI.out.1 HI.out.2 (p := (q, .slice A6 (digs 4294967296 q.num.natAbs).length c6, .slice D6 (digs 4294967296 q.den).length e6)) H0.out ⟨s6, d6⟩; unfold qv at hst; obtain ⟨w7, hr7, M7, g7⟩ := hst)
    all_goals
      have S7 : Spt w7 g b R C (setq T i j q) := ⟨S6.map.isM.offBlk S6.blk g7, M7, setq_shp S6.shp i j q, S6.hR, S6.hC⟩
      have HE := Lib.hid (And.intro S7 (grown_below (bd.trans (b6.mono bd.size)) g7))
      clear M7 S7 g7 S6 S5
      go_wp2
      go_ret
      exact ⟨rfl, HE.out⟩
theorem lenQ_nought (m : Nat) (h : 1 ≤ m) : lenQ (0 : Rat) m := lenQ.mono (m := 1) ⟨digs_len_le (k := 1) (by omega) (by decide +kernel), digs_len_le (k := 1) (by omega) (by decide +kernel)⟩ h
set_option maxHeartbeats 1600000 in
set_option maxRecDepth 100000 in
theorem sget_nil (x y : Int) (w : World) (hx : I64 x) (hy : I64 y) : Calls Try.prog 14 #[.pointer none, .int .i64 x, .int .i64 y] w (RetQ (0 : Rat) w) := by
  have ba := below_alloc (w := w) (Nat.le_refl _) (.cells #[.bool false, .slice none 0 0, .slice none 0 0] 36)
  have B0 := Blk.new w 36 #[.bool false, .slice none 0 0, .slice none 0 0]
  have hrun := fun w => Maps.look_nil (P := Try.prog) (w := w) true keyK Try.underlying48 (zeroQ w) (keyOf_k hx hy)
  simp only [if_true] at hrun
  unfold zq at hrun
  obtain ⟨Z, hZ⟩ : ∃ Z : Rat, Z = 0 := ⟨_, rfl⟩
  rw [← hZ]
  have CO : ∀ w, Calls Try.prog 8 #[.int .i64 0] w (RetQ Z w) := fun w => by rw [hZ]; exact RatS_of0 w
  clear hZ
  go_enter Try.func14, Try.ntmps14
  go_wp2_with fail
  refine (mcells_nil _).mono ?_
  rintro e w2 ⟨rfl, b2⟩
  have bb := ba.trans (b2.mono ba.size)
  have B0 := B0.below b2
  clear ba b2
  have hsz := bb.size
  have hgl := B0.lt
  go_wp2_with fail
  have ba3 := below_alloc (w := w2) (Nat.le_refl _) (.cells #[.bool false, .slice none 0 0, .slice none 0 0] 36)
  refine (CO _).mono ?_
  rintro e w4 ⟨v4, rfl, k4, f4, b4⟩
  have b24 := ba3.trans (b4.mono ba3.size)
  have B0 := B0.below b24
  have bb4 := bb.trans (b24.mono bb.size)
  obtain ⟨u4, t4, rfl, s4, d4⟩ := k4
  obtain ⟨A4, c4, rfl, _⟩ := id s4
  obtain ⟨D4, e4, rfl, _⟩ := id d4
  have hW := ba3.size
  have f4 := f4.mono (show w2.heap.size ≤ _ from hW)
  clear hrun b4 ba3
  obtain ⟨C0, C1, C2, F0, F1, F2⟩ := three B0
  have B9 := blk_set3 B0 (.bool (ngB Z.num)) (.slice A4 (digs 4294967296 Z.num.natAbs).length c4) (.slice D4 (digs 4294967296 Z.den).length e4)
  obtain ⟨R0, R1, R2, _, _, _⟩ := three B9
  have HE := Lib.hid (endQ (x := .bool (ngB Z.num)) (y := .slice A4 (digs 4294967296 Z.num.natAbs).length c4) (z := .slice D4 (digs 4294967296 Z.den).length e4) bb4 (Nat.le_refl _) hgl s4 d4 f4)
  clear B9
  go_wp2
  exact bodyPost_ret (v := .agg #[.bool (ngB Z.num), .slice A4 (digs 4294967296 Z.num.natAbs).length c4, .slice D4 (digs 4294967296 Z.den).length e4]) (by simp [results, Try.results14, go_sem, R0, R1, R2]) rfl HE.out
set_option maxHeartbeats 3200000 in
set_option maxRecDepth 100000 in
theorem smore_nil (x y : Int) (a3 : Value) (q : Rat) (w : World) (hx : I64 x) (hy : I64 y) (h3 : IsQ w a3 q) (hl : lenQ q 1000) : Calls Try.prog 9 #[.pointer none, .int .i64 x, .int .i64 y, a3] w (RetV (.int .i64 9) w) := by
  have k3 := h3
  obtain ⟨u, t, rfl, s3, d3⟩ := h3
  obtain ⟨A3, c3, rfl, _⟩ := id s3
  obtain ⟨D3, e3, rfl, _⟩ := id d3
  have ba := below_alloc (w := w) (Nat.le_refl _) (.cells #[.bool (ngB q.num), .slice A3 (digs 4294967296 q.num.natAbs).length c3, .slice D3 (digs 4294967296 q.den).length e3] 36)
  have BV := Blk.new w 36 #[.bool (ngB q.num), .slice A3 (digs 4294967296 q.num.natAbs).length c3, .slice D3 (digs 4294967296 q.den).length e3]
  have bd := ba.trans ((Below.refl _ _).drew.mono ba.size)
  have BV5 : Blk (w.alloc (.cells #[.bool (ngB q.num), .slice A3 (digs 4294967296 q.num.natAbs).length c3, .slice D3 (digs 4294967296 q.den).length e3] 36)).drew _ _ _ := BV.drew
  obtain ⟨V0, V1, V2, _, _, _⟩ := three BV5
  obtain ⟨Z, hZ⟩ : ∃ Z : Rat, Z = 0 := ⟨_, rfl⟩
  have GN : ∀ w, Calls Try.prog 14 #[.pointer none, .int .i64 x, .int .i64 y] w (RetQ Z w) := fun w => by rw [hZ]; exact sget_nil x y w hx hy
  have hlZ : lenQ Z 1000 := by rw [hZ]; exact lenQ_nought 1000 (by omega)
  clear hZ
  go_enter Try.func9, Try.ntmps9
  go_upto_region 1 with (fail)
  go_region_law (first
    | (go_simp; go_at_call 14; refine (GN _).mono ?_; rintro e w2 ⟨v2, rfl, k2, f2, b2⟩; have BV2 := BV5.below b2; obtain ⟨V20, V21, V22, _, _, _⟩ := three BV2; have bb2 := bd.trans (b2.mono bd.size); have kk2 := k2; obtain ⟨u2, t2, rfl, s2, d2⟩ := k2; obtain ⟨A2, c2, rfl, _⟩ := id s2; obtain ⟨D2, e2, rfl, _⟩ := id d2)
    | (go_simp; go_at_call 24; refine (add8_any _ Z _ q _ (by exact kk2) (k3.below bb2) hlZ hl).mono ?_; rintro e w3 ⟨v3, rfl, k4, f3, b3⟩; have bb3 := bb2.trans (b3.mono bb2.size); have kk3 := k4; obtain ⟨u4, t4, rfl, s4, d4⟩ := k4; obtain ⟨A4, c4, rfl, _⟩ := id s4; obtain ⟨D4, e4, rfl, _⟩ := id d4)
    | (go_simp; go_at_call 7; refine (sput_nil x y _ _ _ (by exact kk3)).mono ?_; rintro e w4 ⟨rfl, b4⟩; have bb4 := bb3.trans (b4.mono bb3.size)))
  all_goals
    go_wp2
    go_ret
    exact ⟨rfl, bb4⟩
set_option maxHeartbeats 1600000 in
set_option maxRecDepth 100000 in
theorem sapply_nil (A : Option Addr) (n c : Nat) (w : World) : Calls Try.prog 6 #[.pointer none, .slice A n c] w (RetV (.tuple #[.slice none 0 0, .int .i64 9]) w) := by
  go_enter Try.func6, Try.ntmps6
  go_wp2_with fail
  refine (made_nil _).mono ?_
  rintro e w2 ⟨rfl, b2⟩
  go_wp2
  go_ret2
  exact ⟨rfl, b2⟩
set_option maxHeartbeats 1600000 in
set_option maxRecDepth 100000 in
theorem srow_nil (x : Int) (w : World) : Calls Try.prog 11 #[.pointer none, .int .i64 x] w (RetV (.slice none 0 0) w) := by
  go_enter Try.func11, Try.ntmps11
  go_wp2_with fail
  refine (ssize_nil _).mono ?_
  rintro e w2 ⟨rfl, b2⟩
  go_wp2
  refine wp_loop_rounds 1 ?_
  rw [rounds_succ]
  go_wp2
  go_ret
  exact ⟨rfl, b2⟩
theorem info_vec13 : ∃ i, Try.prog.info? 26 = some i ∧ i.zero = some (.slice none 0 0) ∧ i.size = 1 ∧ i.bytes = 24 := info_parts (P := Try.prog) (e := 26) (z := .slice none 0 0) (size := 1) (bytes := 24) (by kernel_rfl)
/-- A slice that has no elements. -/
def RetEmpty (w : World) (e : Ending) (w' : World) : Prop := ∃ A c, e = .returned (.slice A 0 c) ∧ Below w.heap.size w w'
set_option maxHeartbeats 1600000 in
set_option maxRecDepth 100000 in
theorem sfull_nil (w : World) : Calls Try.prog 12 #[.pointer none] w (RetEmpty w) := by
  have hrg := fun w => run_range_nilMap (P := Try.prog) w 48 54 36 Try.underlying48
  have hnx := fun w ty a b s => run_next_nilMap (P := Try.prog) w ty a b s
  go_enter Try.func12, Try.ntmps12
  go_wp2_with fail
  refine (ssize_nil _).mono ?_
  rintro e w2 ⟨rfl, b2⟩
  obtain ⟨w3, hm3, -, b3⟩ := run_make_v (P := Try.prog) (w := w2) Try.underlying41 info_vec13 0 (by omega)
  have hmk : (Instr.makeSlice 41 (.int .i64 0) (.int .i64 0)).run Try.prog w2 = .ok (.slice (some ⟨w2.heap.size, 0, none⟩) 0 0) w3 := hm3
  have bb := b2.trans (b3.mono b2.size)
  clear hm3
  go_wp2
  refine wp_loop_rounds 1 ?_
  rw [rounds_succ]
  go_wp2_with fail
  refine (mcells_nil _).mono ?_
  rintro e w4 ⟨rfl, b4⟩
  have bb4 := bb.trans (b4.mono bb.size)
  have ba := below_alloc (w := w4) (Nat.le_refl _) (.mapIter none 0 #[] 0)
  have bb5 := bb4.trans (ba.mono bb4.size)
  clear hmk
  go_wp2
  refine wp_loop_rounds 1 ?_
  rw [rounds_succ]
  go_wp2
  go_ret
  exact ⟨_, _, rfl, bb5⟩
set_option maxHeartbeats 3200000 in
set_option maxRecDepth 100000 in
theorem works13_any (w : World) : Calls Try.prog 4 #[] w (RetV (.bool true) w) := by
  obtain ⟨F, hF⟩ : ∃ F : Rat, F = ((5 : Int) : Rat) := ⟨_, rfl⟩
  have C5 : ∀ w, Calls Try.prog 8 #[.int .i64 5] w (RetQ F w) := fun w => by rw [hF]; exact of8_any 5 w (by omega) (by omega)
  have hF0 : F ≠ 0 := by rw [hF]; decide +kernel
  have hFl : lenQ F 100000 := lenQ.mono (m := 1) (by rw [hF]; exact ⟨digs_len_le (k := 1) (by omega) (by decide +kernel), digs_len_le (k := 1) (by omega) (by decide +kernel)⟩) (by omega)
  obtain ⟨Z, hZ⟩ : ∃ Z : Rat, Z = 0 := ⟨_, rfl⟩
  have C0 : ∀ w, Calls Try.prog 8 #[.int .i64 0] w (RetQ Z w) := fun w => by rw [hZ]; exact RatS_of0 w
  have hZl : lenQ Z 100000 := by rw [hZ]; exact lenQ_nought _ (by omega)
  obtain ⟨T0, hT0⟩ : ∃ T, T = zerosT 2 2 := ⟨_, rfl⟩
  obtain ⟨T1, hT1⟩ : ∃ T, T = setq T0 0 1 F := ⟨_, rfl⟩
  obtain ⟨T2, hT2⟩ : ∃ T, T = setq T1 0 1 Z := ⟨_, rfl⟩
  have s0 := shp_zeros 2 2
  rw [← hT0] at s0
  have s1 := setq_shp s0 0 1 F
  rw [← hT1] at s1
  obtain ⟨q0, hq0⟩ := cellq_ex s0 (show 0 < 2 by omega) (show 1 < 2 by omega)
  have hz0 : q0 = 0 := cellq_zeros (by rw [← hT0]; exact hq0)
  have hc0 : cntT T0 = 0 := by rw [hT0]; exact cntT_zeros 2 2
  have hq1 : cellq T1 0 1 = some F := by rw [hT1, cellq_setq s0 (by omega) (by omega), if_pos ⟨rfl, rfl⟩]
  have hc1 : cntT T1 = 1 := by
    have h := cntT_setq hq0 F
    rw [← hT1, hz0, oneq_zero, oneq_pos hF0, hc0] at h
    omega
  have hc2 : cntT T2 = 0 := by
    have h := cntT_setq hq1 Z
    rw [← hT2, hZ, oneq_zero, oneq_pos hF0, hc1] at h
    omega
  clear hF hZ hq0 hz0 hc0 hq1 s0 s1
  go_enter Try.func4, Try.ntmps4
  go_wp2_with fail
  refine (snew_ok 2 2 _ (by omega) (by omega)).mono ?_
  rintro e w1 ⟨g, b, rfl, S1, hg, hb, b1⟩
  rw [← hT0] at S1
  go_wp2_with fail
  refine (C5 _).mono ?_
  rintro e w2 ⟨v2, rfl, k2, f2, b2⟩
  have bb2 := b1.trans (b2.mono b1.size)
  have S2 := S1.below b2
  have kk2 := k2
  obtain ⟨u2, t2, rfl, s2, d2⟩ := k2
  obtain ⟨A2, c2, rfl, _⟩ := id s2
  obtain ⟨D2, e2, rfl, _⟩ := id d2
  go_wp2_with fail
  refine (sput_ok g b 2 2 0 1 T0 _ F _ S2 kk2 (by omega) (by omega) hFl).mono ?_
  rintro e w3 ⟨rfl, S3, g3⟩
  rw [← hT1] at S3
  have bb3 := bb2.grown g3 bb2.size (fun k hk => by injection hk with hk; omega)
  have hcn := scount_any g b 2 2 T1 w3 S3
  rw [hc1] at hcn
  clear S1 S2 kk2 s2 d2 g3
  go_wp2_with fail
  refine hcn.mono ?_
  rintro e w4 ⟨rfl, b4⟩
  have bb4 := bb3.trans (b4.mono bb3.size)
  have S4 := S3.below b4
  clear hcn S3
  go_wp2_with fail
  refine (C0 _).mono ?_
  rintro e w5 ⟨v5, rfl, k5, f5, b5⟩
  have bb5 := bb4.trans (b5.mono bb4.size)
  have S5 := S4.below b5
  have kk5 := k5
  obtain ⟨u5, t5, rfl, s5, d5⟩ := k5
  obtain ⟨A5, c5, rfl, _⟩ := id s5
  obtain ⟨D5, e5, rfl, _⟩ := id d5
  go_wp2_with fail
  refine (sput_ok g b 2 2 0 1 T1 _ Z _ S5 kk5 (by omega) (by omega) hZl).mono ?_
  rintro e w6 ⟨rfl, S6, g6⟩
  rw [← hT2] at S6
  have bb6 := bb5.grown g6 bb5.size (fun k hk => by injection hk with hk; omega)
  have hcn := scount_any g b 2 2 T2 w6 S6
  rw [hc2] at hcn
  clear S4 S5 kk5 s5 d5 g6
  go_wp2_with fail
  refine hcn.mono ?_
  rintro e w7 ⟨rfl, b7⟩
  have bb7 := bb6.trans (b7.mono bb6.size)
  go_wp2
  go_ret
  exact ⟨rfl, bb7⟩
end Go.Proofs.Ytpcdkepkipadaaa.rat
